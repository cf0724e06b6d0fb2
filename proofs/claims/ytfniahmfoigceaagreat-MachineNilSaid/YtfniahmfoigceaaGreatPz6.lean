/-
  Texts, one behind the other: Help2, StepApp, Ref09r, Ref09a, Ref09b, Ref09d, Ref09c, Ref09e, Ref09f, Ref09g, MachPlain.
  Conditions: those that each theorem states.
-/
import Derived.Laws.AppendOwn
import Derived.Lib.AppendZeros
import Derived.Test.YtfniahmfoigceaaGreatPz5
import Derived.WalkKit
import Derived.Deep.AppendLies
import Derived.Test.YtfniahmfoigceaaGreatPz2
import Derived.LoopTactic
import Derived.BigRegion
import Derived.Deep.RegionHeld
import Derived.Deep.RegionHeld3
import Derived.Deep.DeepCutAuto
import Derived.Deep.RegionLaw
import Derived.Test.YtfniahmfoigceaaGreatPz3

namespace Go.Proofs.YtfniahmfoigceaaGreat
open Go.RowKit
set_option maxRecDepth 100000
set_option linter.unusedVariables false
set_option linter.unusedSimpArgs false

/-- A slice's address reads as a row of numbers. -/
def NumS (w : World) (A : Option Addr) (b : List Int) : Prop :=
  0 < b.length → ∃ g o, A = some ⟨g, o, none⟩ ∧ g < w.heap.size ∧ ∀ k, k < b.length → w.cell? ⟨g, o + k, none⟩ = some (.int .u64 (bAt b k))
theorem NumS.none_ (w : World) (A : Option Addr) : NumS w A [] := fun h => absurd h (by simp)
theorem NumS.after {w w' : World} {A : Option Addr} {b : List Int} (h : NumS w A b) (k : Below w.heap.size w w') : NumS w' A b := fun hl => by
  obtain ⟨g, o, e, hg, hc⟩ := h hl
  exact ⟨g, o, e, Nat.lt_of_lt_of_le hg k.size, fun j hj => (k.cell (p := ⟨g, o + j, none⟩) hg).trans (hc j hj)⟩
/-- Each is a number of 64 bits. -/
def OkN (b : List Int) : Prop := ∀ k, k < b.length → 0 ≤ bAt b k ∧ bAt b k ≤ 18446744073709551615
def nuC (b : List Int) : List Value := b.map fun x => .int .u64 x
theorem nuC_len (b : List Int) : (nuC b).length = b.length := by simp [nuC]
theorem nuC_at (b : List Int) {k : Nat} (h : k < b.length) : (nuC b)[k]? = some (.int .u64 (bAt b k)) := by
  simp [nuC, bAt, List.getD_eq_getElem?_getD, List.getElem?_eq_getElem h]
theorem nuC_one (b : List Int) : ∀ u ∈ nuC b, u.oneCell' = true := by
  intro u hu
  simp only [nuC, List.mem_map] at hu
  obtain ⟨x, _, rfl⟩ := hu
  rfl
theorem nuC_app (a b : List Int) : nuC (a ++ b) = nuC a ++ nuC b := by simp [nuC]
theorem own_numS {w : World} {base : Nat} {e : TypeId} {c : Nat} {A : Option Addr} {b : List Int} {n : Nat} (hn : n = b.length) (h : w.ownsRow base e 1 (.slice A n c) n (nuC b)) : NumS w A b := fun hl => by
  subst hn
  obtain ⟨g, rfl, _, hg⟩ := own_addr h hl
  refine ⟨g, 0, rfl, hg, fun k hk => ?_⟩
  rw [Nat.zero_add, h.cellAt k (by omega), nuC_at b hk]
theorem num_news {w : World} {g o : Nat} {b : List Int} (h : ∀ k, k < b.length → w.cell? ⟨g, o + k, none⟩ = some (.int .u64 (bAt b k))) : ∀ j u, (nuC b)[j]? = some u → w.cell? ((⟨g, o, none⟩ : Addr).add j) = some u := by
  intro j u hu
  have hadd : (⟨g, o, none⟩ : Addr).add j = ⟨g, o + j, none⟩ := by unfold Addr.add; split <;> simp_all
  have hj : j < b.length := by
    rcases Nat.lt_or_ge j b.length with k | k
    · exact k
    · rw [List.getElem?_eq_none (by rw [nuC_len]; exact k)] at hu; cases hu
  rw [hadd, h j hj, ← hu, nuC_at b hj]
theorem bAt_drop (b : List Int) (p k : Nat) : bAt (b.drop p) k = bAt b (p + k) := by
  unfold bAt
  rw [List.getD_eq_getElem?_getD, List.getD_eq_getElem?_getD, List.getElem?_drop]
theorem bAt_take (b : List Int) (p k : Nat) (h : k < p) : bAt (b.take p) k = bAt b k := by
  unfold bAt
  rw [List.getD_eq_getElem?_getD, List.getD_eq_getElem?_getD, List.getElem?_take, if_pos h]
theorem okN_drop {b : List Int} (h : OkN b) (p : Nat) : OkN (b.drop p) := fun k hk => by
  rw [List.length_drop] at hk
  rw [bAt_drop]
  exact h (p + k) (by omega)
theorem okN_take {b : List Int} (h : OkN b) (p : Nat) : OkN (b.take p) := fun k hk => by
  rw [List.length_take] at hk
  rw [bAt_take b p k (by omega)]
  exact h k (by omega)
/-- The row from a place on. -/
theorem NumS.tail {w : World} {g o : Nat} {b : List Int} (hg : g < w.heap.size) (h : ∀ k, k < b.length → w.cell? ⟨g, o + k, none⟩ = some (.int .u64 (bAt b k))) (p : Nat) :
    ∀ k, k < (b.drop p).length → w.cell? ⟨g, o + p + k, none⟩ = some (.int .u64 (bAt (b.drop p) k)) := fun k hk => by
  rw [List.length_drop] at hk
  rw [bAt_drop, Nat.add_assoc]
  exact h (p + k) (by omega)

/-- What is drawn of n. -/
def hCut (n m : Int) : Int := if m == hAll then n else n % (m + 1)
/-- What is drawn, what is left, and the error. -/
def hDr (i : Int) (l : List Int) : Int × List Int × Int :=
  if (hOk i && (hS i).draws) = true then (match l with | [] => (0, [], 100) | n :: r => (hCut n (hS i).most, r, 0)) else (0, [], 1)
def DrawW (r : Int × List Int × Int) (w : World) (e : Ending) (w' : World) : Prop :=
  ∃ A c, e = .returned (.tuple #[.int .u64 r.1, .slice A r.2.1.length c, .int .i64 r.2.2]) ∧ Below w.heap.size w w' ∧ w'.ownsRow w.heap.size 42 1 (.slice A r.2.1.length c) r.2.1.length (nuC r.2.1)
theorem drawW_none {w w' : World} (n e : Int) (h : Below w.heap.size w w') : DrawW (n, [], e) w (.returned (.tuple #[.int .u64 n, .slice none 0 0, .int .i64 e])) w' :=
  ⟨none, 0, rfl, h, ⟨by simp [nuC], .inl ⟨rfl, rfl⟩⟩⟩
theorem hS_most (i : Int) : 0 ≤ (hS i).most ∧ (hS i).most ≤ 18446744073709551615 := by
  rcases hS_ways i with rfl | rfl | rfl | rfl | rfl | rfl | rfl | h
  all_goals first | exact (by decide) | skip
  rw [(hS_none h).1]
  exact (by decide)

set_option maxHeartbeats 1000000 in
theorem h10_cut (n m : Int) (w : World) (hn : 0 ≤ n ∧ n ≤ 18446744073709551615) (hm : 0 ≤ m ∧ m ≤ 18446744073709551615) :
    Calls Tryz.prog 199 #[.int .u64 n, .int .u64 m] w (Gives (.int .u64 (hCut n m)) w) := by
  unfold hCut hAll
  cases h : (m == 18446744073709551615)
  · rw [if_neg Bool.false_ne_true]
    have hne : m ≠ 18446744073709551615 := by simpa using h
    have e : IntKind.u64.wrap (m + 1) = m + 1 := by rw [IntKind.wrap_u64]; omega
    have e2 : n.tmod (m + 1) = n % (m + 1) := Int.tmod_eq_emod_of_nonneg hn.1
    have e3 : IntKind.u64.wrap (n % (m + 1)) = n % (m + 1) := by
      have h1 := Int.emod_nonneg n (show m + 1 ≠ 0 by omega)
      have h2 := Int.emod_lt_of_pos n (show 0 < m + 1 by omega)
      rw [IntKind.wrap_u64]; omega
    have e4 : ((m + 1) == 0) = false := by simp; omega
    go_enter Tryz.func199, Tryz.ntmps199
    go_wp2_with fail
    go_ret
    exact ⟨rfl, Below.refl _ _⟩
  · rw [if_pos rfl]
    go_enter Tryz.func199, Tryz.ntmps199
    go_wp2_with fail
    go_ret
    exact ⟨rfl, Below.refl _ _⟩

end Go.Proofs.YtfniahmfoigceaaGreat

namespace Go.Proofs.YtfniahmfoigceaaGreat
open Go Go.RowKit

theorem step_append_run {P : Program} {ops : Array Oper} {w : World} {o : Oper} {a : Act} {K : Act → World → Prop} {Q : Exit → Act → World → Prop} {E : Prop} (hgd : o.guard = none) (s x : Operand) (t tn : TypeId)
    (ho : o.op = .call { callee := .builtin .append, args := #[s, x], argTypes := #[t, tn] }) (vs vx : Value) (hs : a.eval s = vs) (hx : a.eval x = vx) (v' : Value) (w' : World) (hr : (Builtin.append_ #[t, tn] o.type #[vs, vx]).run P w = .ok v' w') (h : K (a.put o.dst v') w') :
    if Region.wanted o (yielded ops a.tmps) = true then Oper.wp P o a w K Q else E := by
  rw [if_pos (by simp [Region.wanted, hgd])]
  exact Lib.wp_append_run w s x t tn ho vs vx hs hx v' w' hr h
end Go.Proofs.YtfniahmfoigceaaGreat

namespace Go.Proofs.YtfniahmfoigceaaGreat
open Go Go.RowKit
set_option maxRecDepth 100000
set_option linter.unusedVariables false
set_option linter.unusedSimpArgs false

/-- A map, and the slice that holds its keys. -/
structure TR where
  m : TM
  v : Value
def TR.zero : TR := ⟨TM.zero, .slice none 0 0⟩
def trAt (L : List TR) (k : Nat) : TR := L.getD k TR.zero
def cK (x : TK) : List Value := [.string (strOfNums x.k), .int .i64 (x.s : Int)]
def kAt (L : List TK) (k : Nat) : TK := L.getD k TK.zero
def cT (r : TR) : List Value := [.bool r.m.d.hash, .int .i64 r.m.d.key, .int .i64 r.m.d.val, .int .i64 r.m.d.max, r.v, .int .i64 (r.m.made : Int)]
def trC (L : List TR) : List Value := L.flatMap cT
theorem trC_len (L : List TR) : (trC L).length = L.length * 6 := by
  induction L with
  | nil => rfl
  | cons x l ih =>
    show (cT x ++ trC l).length = _
    rw [List.length_append, ih]
    simp [cT]
    omega
theorem trC_at (L : List TR) (k r : Nat) (h : k < L.length) (hr : r < 6) : (trC L)[k * 6 + r]? = (cT (trAt L k))[r]? := by
  induction L generalizing k with
  | nil => simp at h
  | cons x l ih =>
    have e : trC (x :: l) = cT x ++ trC l := rfl
    have hx : (cT x).length = 6 := rfl
    cases k with
    | zero =>
      rw [e, List.getElem?_append_left (by rw [hx]; omega)]
      simp [trAt]
    | succ k =>
      rw [e, List.getElem?_append_right (by rw [hx]; omega), hx]
      have := ih k (by simpa using h)
      rw [show (k + 1) * 6 + r - 6 = k * 6 + r by omega, this]
      simp [trAt]
def trM (L : List TR) : TT := L.map (·.m)
theorem trM_len (L : List TR) : (trM L).length = L.length := by simp [trM]
theorem trM_at (L : List TR) (k : Nat) : mt (trM L) k = (trAt L k).m := by
  unfold mt trM trAt
  rw [List.getD_eq_getElem?_getD, List.getD_eq_getElem?_getD, List.getElem?_map]
  cases L[k]? <;> rfl
theorem trAt_out {L : List TR} {k : Nat} (h : L.length ≤ k) : trAt L k = TR.zero := by
  unfold trAt
  rw [List.getD_eq_getElem?_getD, List.getElem?_eq_none h]
  rfl
theorem trAt_set {L : List TR} {k : Nat} (hk : k < L.length) (r : TR) (j : Nat) : trAt (L.set k r) j = if j = k then r else trAt L j := by
  unfold trAt
  rw [List.getD_eq_getElem?_getD, List.getD_eq_getElem?_getD, List.getElem?_set]
  by_cases h : k = j
  · subst h
    rw [if_pos rfl, if_pos hk, if_pos rfl]
    rfl
  · rw [if_neg h, if_neg (fun e => h e.symm)]
section
variable {w w' u : World} {gt g2 : Nat} {vl : Value} {L : List TR} {F : Nat → Prop} {T : TT}
end

end Go.Proofs.YtfniahmfoigceaaGreat

namespace Go.Proofs.YtfniahmfoigceaaGreat
open Go.RowKit
set_option maxRecDepth 100000
set_option linter.unusedVariables false
set_option linter.unusedSimpArgs false

theorem find_out {L : List TK} {key : List Int} (h : ∀ t, t < L.length → (kAt L t).k ≠ key) : tFind L key = none := by
  unfold tFind
  rw [Option.map_eq_none_iff, List.find?_eq_none]
  intro x hx
  obtain ⟨i, hi, rfl⟩ := List.mem_iff_getElem.mp hx
  have := h i hi
  unfold kAt at this
  rw [List.getD_eq_getElem?_getD, List.getElem?_eq_getElem hi] at this
  simpa using this
theorem kAt_mem {L : List TK} {k : Nat} (h : k < L.length) : kAt L k ∈ L := by
  unfold kAt
  rw [List.getD_eq_getElem?_getD, List.getElem?_eq_getElem h]
  exact List.getElem_mem h
end Go.Proofs.YtfniahmfoigceaaGreat

namespace Go.Proofs.YtfniahmfoigceaaGreat
open Go.RowKit
set_option maxRecDepth 100000
set_option linter.unusedVariables false
set_option linter.unusedSimpArgs false

theorem find_mem {L : List TK} {key : List Int} {s : Nat} (h : tFind L key = some s) : ∃ x ∈ L, x.k = key ∧ x.s = s := by
  unfold tFind at h
  rw [Option.map_eq_some_iff] at h
  obtain ⟨x, hx, rfl⟩ := h
  exact ⟨x, List.mem_of_find?_eq_some hx, by simpa using List.find?_some hx, rfl⟩
theorem may_yes {T : TT} {i : Int} {key : List Int} (h : tMay T i key = true) : 0 ≤ i ∧ i < T.length ∧ (key.length : Int) = (mt T i.toNat).d.key := by
  unfold tMay at h
  simp only [Bool.and_eq_true, decide_eq_true_eq, beq_iff_eq] at h
  exact ⟨h.1.1, h.1.2, h.2⟩
theorem find_small {T : TT} (hok : TOk T) {i : Nat} (hi : i < T.length) {key : List Int} {s : Nat} (h : tFind (mt T i).L key = some s) : s < 1024 := by
  obtain ⟨x, hx, _, rfl⟩ := find_mem h
  have := (hok i hi).keys x hx
  have := (hok i hi).made
  omega

end Go.Proofs.YtfniahmfoigceaaGreat

namespace Go.Proofs.YtfniahmfoigceaaGreat
open Go.RowKit
set_option maxRecDepth 100000
set_option linter.unusedVariables false
set_option linter.unusedSimpArgs false

/-- What is left of some keys. -/
def leftK (L : List TK) (key : List Int) : List TK := L.filter fun x => !(x.k == key)
theorem leftK_len (L : List TK) (key : List Int) : (leftK L key).length ≤ L.length := List.length_filter_le _ _
theorem leftK_ok {m : TM} (h : m.ok) (key : List Int) : TM.ok ⟨m.d, leftK m.L key, m.made⟩ := by
  obtain ⟨h1, h2, h3, h4, h5⟩ := h
  refine ⟨h1, fun x hx => h2 x (List.mem_filter.1 hx).1, h3.filter _, ?_, h5⟩
  have := leftK_len m.L key
  simp only
  omega
theorem trC_set4 {L : List TR} {k : Nat} (hk : k < L.length) (K : List TK) (v : Value) : trC (L.set k ⟨⟨(trAt L k).m.d, K, (trAt L k).m.made⟩, v⟩) = (trC L).set (k * 6 + 4) v := by
  apply List.ext_getElem?
  intro j
  by_cases hj : j < L.length * 6
  · have e1 : j = (j / 6) * 6 + j % 6 := by omega
    have h1 := trC_at (L.set k ⟨⟨(trAt L k).m.d, K, (trAt L k).m.made⟩, v⟩) (j / 6) (j % 6) (by rw [List.length_set]; omega) (by omega)
    have h2 := trC_at L (j / 6) (j % 6) (by omega) (by omega)
    rw [← e1] at h1 h2
    rw [h1, trAt_set hk, List.getElem?_set]
    by_cases hq : j / 6 = k
    · rw [if_pos hq]
      by_cases hr : j % 6 = 4
      · rw [if_pos (by omega), if_pos (by rw [trC_len]; omega), hr]; rfl
      · rw [if_neg (by omega), h2, hq]
        have : j % 6 = 0 ∨ j % 6 = 1 ∨ j % 6 = 2 ∨ j % 6 = 3 ∨ j % 6 = 5 := by omega
        rcases this with c | c | c | c | c <;> rw [c] <;> rfl
    · rw [if_neg hq, if_neg (by omega), h2]
  · rw [List.getElem?_eq_none (by rw [trC_len, List.length_set]; omega), List.getElem?_eq_none (by rw [List.length_set, trC_len]; omega)]

end Go.Proofs.YtfniahmfoigceaaGreat

namespace Go.Proofs.YtfniahmfoigceaaGreat
open Go.RowKit
set_option maxRecDepth 100000
set_option linter.unusedVariables false
set_option linter.unusedSimpArgs false

/-- Bytes that stay, whatever is done to memory. -/
def Keep (G : Nat → Prop) (w : World) (B : Option Addr) (b : List Int) : Prop := ∀ u, Turn G w u → BytS u B b
theorem keep_of {G : Nat → Prop} {w : World} {B : Option Addr} {b : List Int} (h : BytS w B b) (hG : ∀ g o, B = some ⟨g, o, none⟩ → ¬ G g) : Keep G w B b := fun u t hp => by
  obtain ⟨g, o, e, hg, hc⟩ := h hp
  exact ⟨g, o, e, Nat.lt_of_lt_of_le hg t.size, fun k hk => (World.cell?_of_block (a := ⟨g, o + k, none⟩) (t.block g hg (hG g o e))).trans (hc k hk)⟩
theorem Keep.on {G G' : Nat → Prop} {w w' : World} {B : Option Addr} {b : List Int} (h : Keep G w B b) (t : Turn G w w') (hG : ∀ x, G' x → G x ∨ w.heap.size ≤ x) : Keep G' w' B b := fun u k => h u (t.trans k hG)
theorem Keep.at_ {G : Nat → Prop} {w : World} {B : Option Addr} {b : List Int} (h : Keep G w B b) : BytS w B b := h w (Turn.refl _ _)
theorem tFill_drop (M : PM) (i s : Int) (b : List Int) (j k : Nat) (h : j < b.length) : tFill M i s k (b.drop j) = tFill (pStore M (atI (tArea i s) k) 1 (bAt b j)).1 i s (k + 1) (b.drop (j + 1)) := by
  rw [List.drop_eq_getElem_cons h]
  unfold bAt
  rw [List.getD_eq_getElem?_getD, List.getElem?_eq_getElem h]
  rfl

end Go.Proofs.YtfniahmfoigceaaGreat

namespace Go.Proofs.YtfniahmfoigceaaGreat
open Go.RowKit
set_option maxRecDepth 100000
set_option linter.unusedVariables false
set_option linter.unusedSimpArgs false

theorem mem_tIns {L : List TK} {x y : TK} (h : y ∈ tIns L x) : y = x ∨ y ∈ L := by
  unfold tIns at h
  rcases List.mem_append.mp h with c | c
  · exact .inr ((List.takeWhile_sublist _).subset c)
  · rcases List.mem_cons.mp c with c | c
    · exact .inl c
    · exact .inr ((List.dropWhile_sublist _).subset c)
theorem tIns_len (L : List TK) (x : TK) : (tIns L x).length = L.length + 1 := by
  unfold tIns
  have h := congrArg List.length (List.takeWhile_append_dropWhile (p := fun y => kLt y.k x.k) (l := L))
  rw [List.length_append] at h
  rw [List.length_append, List.length_cons]
  omega
/-- A key that is not there, among the others: they still rise. -/
theorem tIns_rise {L : List TK} {x : TK} (h : L.Pairwise fun a b => kLt a.k b.k = true) (hx : tFind L x.k = none) : (tIns L x).Pairwise fun a b => kLt a.k b.k = true := by
  have hne : ∀ y ∈ L, y.k ≠ x.k := by
    unfold tFind at hx
    rw [Option.map_eq_none_iff, List.find?_eq_none] at hx
    intro y hy
    simpa using hx y hy
  induction L with
  | nil => simp [tIns]
  | cons y L ih =>
    obtain ⟨h1, h2⟩ := List.pairwise_cons.1 h
    have hx2 : tFind L x.k = none := find_out fun t ht => hne _ (by simp [kAt_mem ht])
    have hne2 : ∀ y ∈ L, y.k ≠ x.k := fun z hz => hne z (by simp [hz])
    cases hy : kLt y.k x.k
    · have hxy : kLt x.k y.k = true := kLt_total hy (hne y (by simp))
      unfold tIns
      rw [List.takeWhile_cons, List.dropWhile_cons, hy]
      simp only [Bool.false_eq_true, if_false, List.nil_append]
      refine List.pairwise_cons.2 ⟨fun z hz => ?_, h⟩
      rcases List.mem_cons.mp hz with rfl | hz
      · exact hxy
      · exact kLt_trans hxy (h1 z hz)
    · have e : tIns (y :: L) x = y :: tIns L x := by
        unfold tIns
        rw [List.takeWhile_cons, List.dropWhile_cons, hy]
        rfl
      rw [e]
      refine List.pairwise_cons.2 ⟨fun z hz => ?_, ih h2 hx2 hne2⟩
      rcases mem_tIns hz with rfl | hz
      · exact hy
      · exact h1 z hz
theorem tIns_ok {m : TM} (h : m.ok) (key : List Int) (hx : tFind m.L key = none) (hk : OkB key) (hl : (key.length : Int) = m.d.key) (hf : ¬ m.d.max ≤ m.L.length) (hm : ¬ 1024 ≤ m.made) : TM.ok ⟨m.d, tIns m.L ⟨key, m.made⟩, m.made + 1⟩ := by
  obtain ⟨h1, h2, h3, h4, h5⟩ := h
  refine ⟨h1, fun x hx => ?_, tIns_rise h3 hx, ?_, by simp only; omega⟩
  · rcases mem_tIns hx with rfl | hx
    · exact ⟨hk, hl, by simp⟩
    · obtain ⟨a, b, c⟩ := h2 x hx
      exact ⟨a, b, by simp only; omega⟩
  · rw [tIns_len]
    simp only
    omega

end Go.Proofs.YtfniahmfoigceaaGreat

namespace Go.Proofs.YtfniahmfoigceaaGreat
open Go.RowKit
set_option maxRecDepth 100000
set_option linter.unusedVariables false
set_option linter.unusedSimpArgs false

theorem trC_set5 {L : List TR} {k : Nat} (hk : k < L.length) (K : List TK) (v : Value) (m : Nat) : trC (L.set k ⟨⟨(trAt L k).m.d, K, m⟩, v⟩) = ((trC L).set (k * 6 + 4) v).set (k * 6 + 5) (.int .i64 (m : Int)) := by
  apply List.ext_getElem?
  intro j
  by_cases hj : j < L.length * 6
  · have e1 : j = (j / 6) * 6 + j % 6 := by omega
    have h1 := trC_at (L.set k ⟨⟨(trAt L k).m.d, K, m⟩, v⟩) (j / 6) (j % 6) (by rw [List.length_set]; omega) (by omega)
    have h2 := trC_at L (j / 6) (j % 6) (by omega) (by omega)
    rw [← e1] at h1 h2
    rw [h1, trAt_set hk, List.getElem?_set]
    by_cases hq : j / 6 = k
    · rw [if_pos hq]
      by_cases hr : j % 6 = 5
      · rw [if_pos (by omega), if_pos (by rw [List.length_set, trC_len]; omega), hr]; rfl
      · rw [if_neg (by omega), List.getElem?_set]
        by_cases hr4 : j % 6 = 4
        · rw [if_pos (by omega), if_pos (by rw [trC_len]; omega), hr4]; rfl
        · rw [if_neg (by omega), h2, hq]
          have : j % 6 = 0 ∨ j % 6 = 1 ∨ j % 6 = 2 ∨ j % 6 = 3 := by omega
          rcases this with c | c | c | c <;> rw [c] <;> rfl
    · rw [if_neg hq, if_neg (by omega), List.getElem?_set, if_neg (by omega), h2]
  · rw [List.getElem?_eq_none (by rw [trC_len, List.length_set]; omega), List.getElem?_eq_none (by rw [List.length_set, List.length_set, trC_len]; omega)]

theorem pMake_err (M : PM) (i : Int) (b : List Int) (bl fx : Bool) (h : (pMake M i b bl fx).2 ≠ 0) : (pMake M i b bl fx).1 = M := by
  unfold pMake at *
  split
  · rfl
  · split
    · rfl
    · rename_i h1 h2
      rw [if_neg h1, if_neg h2] at h
      exact absurd rfl h
theorem cell_setCell_off (w : World) (g a b : Nat) (v : Value) (h : b ≠ a) : (w.setCell ⟨g, a, none⟩ v).cell? ⟨g, b, none⟩ = w.cell? ⟨g, b, none⟩ := by
  unfold World.cell? World.setCell
  simp only [Array.getElem?_modify]
  cases hx : w.heap[g]? with
  | none => simp
  | some o => cases o <;> simp <;> (try rw [Array.getElem?_setIfInBounds_ne (by omega)])
end Go.Proofs.YtfniahmfoigceaaGreat

namespace Go.Proofs.YtfniahmfoigceaaGreat
open Go.RowKit
set_option maxRecDepth 100000
set_option linter.unusedVariables false
set_option linter.unusedSimpArgs false

def dAt (l : List Df) (k : Nat) : Df := l.getD k Df.zero
def DefS (w : World) (A : Option Addr) (l : List Df) : Prop :=
  0 < l.length → ∃ g o, A = some ⟨g, o, none⟩ ∧ g < w.heap.size ∧ ∀ k, k < l.length → w.cell? ⟨g, o + k * 4, none⟩ = some (.bool (dAt l k).hash) ∧ w.cell? ⟨g, o + k * 4 + 1, none⟩ = some (.int .i64 (dAt l k).key) ∧ w.cell? ⟨g, o + k * 4 + 2, none⟩ = some (.int .i64 (dAt l k).val) ∧ w.cell? ⟨g, o + k * 4 + 3, none⟩ = some (.int .i64 (dAt l k).max)
theorem DefS.after {w w' : World} {A : Option Addr} {l : List Df} (h : DefS w A l) (b : Below w.heap.size w w') : DefS w' A l := fun hl => by
  obtain ⟨g, o, e, hg, hc⟩ := h hl
  have q : ∀ p, w'.cell? ⟨g, p, none⟩ = w.cell? ⟨g, p, none⟩ := fun p => b.cell (p := ⟨g, p, none⟩) hg
  exact ⟨g, o, e, Nat.lt_of_lt_of_le hg b.size, fun k hk => by rw [q, q, q, q]; exact hc k hk⟩
theorem all_from {l : List Df} (h : ∀ t, t < l.length → (dAt l t).good = true) : l.all Df.good = true := by
  rw [List.all_eq_true]
  intro x hx
  obtain ⟨i, hi, rfl⟩ := List.mem_iff_getElem.mp hx
  have := h i hi
  unfold dAt at this
  rw [List.getD_eq_getElem?_getD, List.getElem?_eq_getElem hi] at this
  exact this
theorem all_not {l : List Df} {j : Nat} (hj : j < l.length) (h : (dAt l j).good = false) : l.all Df.good = false := by
  cases hx : l.all Df.good
  · rfl
  · rw [List.all_eq_true] at hx
    have := hx (dAt l j) (by unfold dAt; rw [List.getD_eq_getElem?_getD, List.getElem?_eq_getElem hj]; exact List.getElem_mem hj)
    rw [h] at this
    cases this

end Go.Proofs.YtfniahmfoigceaaGreat

namespace Go.Proofs.YtfniahmfoigceaaGreat
open Go Go.RowKit
set_option maxRecDepth 100000
set_option linter.unusedVariables false
set_option linter.unusedSimpArgs false

/-- What a helper was told, and told. -/
structure Cl where
  id : Int
  map : Int
  k : List Int
  v : List Int
  n : List Int
  ret : Int
def Cl.zero : Cl := ⟨0, 0, [], [], [], 0⟩
/-- A machine. -/
structure MS where
  l : List Ins
  D : List Df
  T : TT
  M : PM
  dr : List Int
  r : List (Int × Bool)
  at_ : Nat
  over : Bool
  why : Int
  steps : Nat
  calls : List Cl
def rg (r : List (Int × Bool)) (i : Nat) : Int × Bool := r.getD i (0, false)
/-- What is in a register. -/
def rd (S : MS) (i : Int) : Int × Int := if (rg S.r i.toNat).2 then ((rg S.r i.toNat).1, 0) else (0, 110)
def setR (S : MS) (i n : Int) : MS := { S with r := S.r.set i.toNat (n, true) }
/-- The second number, and the first one. -/
def mSec (S : MS) (x : Ins) (v : Wh) : Int × Int := if v.reg then rd S x.src else (x.imm % 18446744073709551616, 0)
def mFst (S : MS) (x : Ins) (v : Wh) : Int × Int := if v.op == 176 then (0, 0) else rd S x.dst
def wordI (i : Int) : Int := atI 3 i
def offI (n off : Int) : Int := (n + off) % 18446744073709551616
def mArith (S : MS) (x : Ins) (v : Wh) : Int × Int :=
  if (mFst S x v).2 == 0 then (if (mSec S x v).2 == 0 then (aluV v.wide v.op x.off (mFst S x v).1 (mSec S x v).1, aluE v.wide v.op x.off) else (0, (mSec S x v).2)) else (0, (mFst S x v).2)
def mLoad (S : MS) (x : Ins) (v : Wh) : Int × Int :=
  if (rd S x.src).2 == 0 then
    (if (pLoad S.M (offI (rd S x.src).1 x.off) v.size).2 == 0 && v.signed then (signW (pLoad S.M (offI (rd S x.src).1 x.off) v.size).1 (8 * v.size), (pLoad S.M (offI (rd S x.src).1 x.off) v.size).2)
    else pLoad S.M (offI (rd S x.src).1 x.off) v.size)
  else (0, (rd S x.src).2)
def longI (a b : Int) : Int := a % 4294967296 + 4294967296 * (b % 4294967296)
def mSwap (S : MS) (x : Ins) (v : Wh) : Int × Int := if (rd S x.dst).2 == 0 then (swapV v.wide (8 * v.size) (rd S x.dst).1, swapE (8 * v.size)) else (0, (rd S x.dst).2)
def mTable (S : MS) (x : Ins) : Int × Int := if (S.D.length : Int) ≤ x.imm then (0, 113) else (wordI x.imm, 0)
def mValue (S : MS) (x : Ins) (v : Wh) : Int × Int :=
  if v.kind == 1 then mArith S x v else if v.kind == 2 then mSwap S x v else if v.kind == 3 then (longI x.imm (iAt S.l (S.at_ + 1)).imm, 0)
  else if v.kind == 4 then mTable S x else mLoad S x v
def mStore (S : MS) (x : Ins) (v : Wh) : PM × Int :=
  if (rd S x.dst).2 == 0 then
    (if (mSec S x v).2 == 0 then
      (if v.kind == 8 then
        (if (pLoad S.M (offI (rd S x.dst).1 x.off) v.size).2 == 0 then pStore S.M (offI (rd S x.dst).1 x.off) v.size (aluV true v.op 0 (pLoad S.M (offI (rd S x.dst).1 x.off) v.size).1 (mSec S x v).1)
        else (S.M, (pLoad S.M (offI (rd S x.dst).1 x.off) v.size).2))
      else pStore S.M (offI (rd S x.dst).1 x.off) v.size (mSec S x v).1)
    else (S.M, (mSec S x v).2))
  else (S.M, (rd S x.dst).2)
def mBranch (S : MS) (x : Ins) (v : Wh) : Int × Int :=
  if (rd S x.dst).2 == 0 then
    (if (mSec S x v).2 == 0 then (if condV v.op v.wide (rd S x.dst).1 (mSec S x v).1 then tgOf S.l S.at_ else nextOf S.l S.at_, condE v.op) else (0, (mSec S x v).2))
  else (0, (rd S x.dst).2)
/-- What a helper is told. -/
def mTell (S : MS) (c : Cl) (kind n : Int) : Cl × Int :=
  if kind == 1 then (if (S.D.length : Int) ≤ (n - wordI 0) % 18446744073709551616 then (c, 113) else ({ c with map := (n - wordI 0) % 18446744073709551616 }, 0))
  else if kind == 2 then ({ c with k := (pRead S.M n (dAt S.D c.map.toNat).key).1 }, (pRead S.M n (dAt S.D c.map.toNat).key).2)
  else if kind == 3 then ({ c with v := (pRead S.M n (dAt S.D c.map.toNat).val).1 }, (pRead S.M n (dAt S.D c.map.toNat).val).2)
  else if kind == 4 then ({ c with n := c.n ++ [n] }, 0)
  else (c, 0)
/-- One of what a helper is told: of register i. -/
def mTel1 (S : MS) (c : Cl) (kind i : Int) : Cl × Int := if (rd S i).2 == 0 then mTell S c kind (rd S i).1 else (c, (rd S i).2)
def mTolds (S : MS) : Nat → List Int → Cl → Cl × Int
  | _, [], c => (c, 0)
  | i, k :: ks, c => if (mTel1 S c k (i + 1)).2 == 0 then mTolds S (i + 1) ks (mTel1 S c k (i + 1)).1 else (Cl.zero, (mTel1 S c k (i + 1)).2)
structure TS where
  T : TT
  M : PM
  dr : List Int
  n : Int
  e : Int
/-- What a helper tells. -/
def mTells (S : MS) (c : Cl) : TS :=
  if c.id == 1 then ⟨S.T, S.M, S.dr, (tLook S.T c.map c.k).1, (tLook S.T c.map c.k).2⟩
  else if c.id == 2 then ⟨(tPut S.T S.M c.map c.k c.v (bAt c.n 0)).T, (tPut S.T S.M c.map c.k c.v (bAt c.n 0)).M, S.dr, (tPut S.T S.M c.map c.k c.v (bAt c.n 0)).n, (tPut S.T S.M c.map c.k c.v (bAt c.n 0)).e⟩
  else if c.id == 3 then ⟨(tDrop S.T c.map c.k).1, S.M, S.dr, (tDrop S.T c.map c.k).2.1, (tDrop S.T c.map c.k).2.2⟩
  else if c.id == 6 then ⟨S.T, S.M, S.dr, 0, 0⟩
  else if (hDr c.id (S.dr.take 1)).2.2 == 0 then ⟨S.T, S.M, S.dr.drop 1, (hDr c.id (S.dr.take 1)).1, 0⟩
  else ⟨S.T, S.M, S.dr, 0, (hDr c.id (S.dr.take 1)).2.2⟩
/-- Registers behind a helper. -/
def left5 (r : List (Int × Bool)) : List (Int × Bool) := ((((r.set 1 (0, false)).set 2 (0, false)).set 3 (0, false)).set 4 (0, false)).set 5 (0, false)
def mDone (S : MS) (c : Cl) (t : TS) : MS × Int :=
  if t.e == 0 then ({ S with T := t.T, M := t.M, dr := t.dr, calls := S.calls ++ [{ c with ret := t.n }], r := (left5 S.r).set 0 (t.n, true) }, 0)
  else ({ S with T := t.T, M := t.M, dr := t.dr }, t.e)
def mCall (S : MS) (id : Int) : MS × Int :=
  if hOk id then
    (if (mTolds S 0 (hS id).told Cl.zero).2 == 0 then mDone S { (mTolds S 0 (hS id).told Cl.zero).1 with id := id } (mTells S { (mTolds S 0 (hS id).told Cl.zero).1 with id := id })
    else (S, (mTolds S 0 (hS id).told Cl.zero).2))
  else (S, 112)
structure DS where
  S : MS
  next : Int
  e : Int
/-- An instruction: where it goes on, its error. -/
def pDo (S : MS) : DS :=
  let x := iAt S.l S.at_
  let v := wOf x
  if v.kind == 12 then (if (rd S 0).2 == 0 then ⟨{ S with over := true }, S.at_, 0⟩ else ⟨S, S.at_, (rd S 0).2⟩)
  else if v.kind == 9 then ⟨S, tgOf S.l S.at_, 0⟩
  else if v.kind == 10 then ⟨S, (mBranch S x v).1, (mBranch S x v).2⟩
  else if v.kind == 11 then ⟨(mCall S x.imm).1, nextOf S.l S.at_, (mCall S x.imm).2⟩
  else if v.kind == 6 || (v.kind == 7 || v.kind == 8) then ⟨{ S with M := (mStore S x v).1 }, nextOf S.l S.at_, (mStore S x v).2⟩
  else if (mValue S x v).2 == 0 then ⟨setR S x.dst (mValue S x v).1, nextOf S.l S.at_, 0⟩
  else ⟨S, 0, (mValue S x v).2⟩
def pStep (S : MS) : MS × Int :=
  if S.over then (S, 114)
  else if (pDo S).e == 0 then ({ (pDo S).S with at_ := (pDo S).next.toNat, steps := (pDo S).S.steps + 1 }, 0)
  else ({ (pDo S).S with over := true, why := (pDo S).e }, (pDo S).e)

end Go.Proofs.YtfniahmfoigceaaGreat
