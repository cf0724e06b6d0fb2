/-
  Texts, one behind the other: Kit, Gives, Byt, MemPlain, MemMath, StrEq, Turn, Areas.
  Conditions: those that each theorem states.
-/
import Derived.WalkKit
import Derived.WalkSpells
import Derived.WalkLawsBesides
import Derived.Deep.QuietTactic
import Derived.BigQuiet
import Derived.Outline
import Derived.Below
import Derived.WalkSmall
import Derived.Lib.Hide
import Derived.Test.YtlbhffdpklbhfaaGreatRows
import Derived.Laws.OwnMore
import Derived.Laws.MakeOwn
import Derived.Deep.AppendLies
import Derived.Maps.AppendAt
import Derived.OwnWalk
import Derived.Laws.BitsAllLaws
import Derived.Laws.BytesArg
import Derived.Lib.Strings
namespace Go.Proofs.YtlbhffdpklbhfaaGreat
open Go.RowKit
theorem end_int {k : IntKind} {a b : Int} (h : a = b) : Ending.returned (.int k a) = .returned (.int k b) := by rw [h]
theorem end_bool {a b : Bool} (h : a = b) : Ending.returned (.bool a) = .returned (.bool b) := by rw [h]
theorem below_next {B : Nat} {a b c : World} (h : Below B a b) (hB : B ≤ b.heap.size) (k : Below b.heap.size b c) : Below B a c := h.trans (k.mono hB)
theorem below_next' {a b c : World} (h : Below a.heap.size a b) (k : Below b.heap.size b c) : Below a.heap.size a c := h.trans (k.mono h.size)
end Go.Proofs.YtlbhffdpklbhfaaGreat
namespace Go.Proofs.YtlbhffdpklbhfaaGreat
open Go.RowKit
set_option linter.unusedVariables false
theorem int_lt_or (a b : Int) : a < b ∨ b ≤ a := by omega
def Gives (v : Value) (w : World) (e : Ending) (w' : World) : Prop := e = .returned v ∧ Below w.heap.size w w'
theorem below_alloc {w w' : World} (h : Below w.heap.size w w') (o : Obj) : Below w.heap.size w (w'.alloc o) := h.alloc h.size o
def Blk (g : Nat) (cs : Array Value) (t : TypeId) (w : World) : Prop := w.heap[g]? = some (.cells cs t (0, 0))
theorem Blk.lt {g : Nat} {cs : Array Value} {t : TypeId} {w : World} (h : Blk g cs t w) : g < w.heap.size := by
  rcases Nat.lt_or_ge g w.heap.size with k | k
  · exact k
  · unfold Blk at h; rw [Array.getElem?_eq_none k] at h; cases h
theorem Blk.new (w : World) (cs : Array Value) (t : TypeId) {g : Nat} (hg : g = w.heap.size) : Blk g cs t (w.alloc (.cells cs t)) := by
  subst hg
  show (w.heap.push _)[w.heap.size]? = _
  simp
theorem Blk.below {g : Nat} {cs : Array Value} {t : TypeId} {w w' : World} {B : Nat} (h : Blk g cs t w) (b : Below B w w') (hB : g < B) : Blk g cs t w' := (b.block g hB).trans h
theorem Blk.after {g : Nat} {cs : Array Value} {t : TypeId} {w w' : World} (h : Blk g cs t w) (b : Below w.heap.size w w') : Blk g cs t w' := h.below b h.lt
theorem Blk.cell {g : Nat} {cs : Array Value} {t : TypeId} {w : World} (h : Blk g cs t w) (k : Nat) : w.cell? ⟨g, k, none⟩ = cs[k]? := cell_of_row w g k cs t (0, 0) h
theorem Blk.free {g : Nat} {cs : Array Value} {t : TypeId} {w : World} (h : Blk g cs t w) (k : Nat) : w.frozen? ⟨g, k, none⟩ = false := by
  unfold Blk at h
  simp [World.frozen?, h]
theorem Blk.set {g : Nat} {cs : Array Value} {t : TypeId} {w : World} (h : Blk g cs t w) (k : Nat) (v : Value) : Blk g (cs.setIfInBounds k v) t (w.setCell ⟨g, k, none⟩ v) := by
  unfold Blk at *
  simp [World.setCell, Array.getElem?_modify, h]
theorem Blk.other {g k o : Nat} {cs : Array Value} {t : TypeId} {w : World} (h : Blk g cs t w) (v : Value) (hk : g ≠ k) : Blk g cs t (w.setCell ⟨k, o, none⟩ v) := (Below.heap_setCell w ⟨k, o, none⟩ v g hk).trans h
end Go.Proofs.YtlbhffdpklbhfaaGreat
namespace Go.Proofs.YtlbhffdpklbhfaaGreat
open Go Go.RowKit
set_option linter.unusedVariables false
set_option linter.unusedSimpArgs false
def bAt (b : List Int) (k : Nat) : Int := b.getD k 0
def OkB (b : List Int) : Prop := ∀ k, k < b.length → 0 ≤ bAt b k ∧ bAt b k ≤ 255
def BytS (w : World) (A : Option Addr) (b : List Int) : Prop :=
  0 < b.length → ∃ g o, A = some ⟨g, o, none⟩ ∧ g < w.heap.size ∧ ∀ k, k < b.length → w.cell? ⟨g, o + k, none⟩ = some (.int .u8 (bAt b k))
theorem BytS.none_ (w : World) (A : Option Addr) : BytS w A [] := fun h => absurd h (by simp)
theorem BytS.after {w w' : World} {A : Option Addr} {b : List Int} (h : BytS w A b) (k : Below w.heap.size w w') : BytS w' A b := fun hl => by
  obtain ⟨g, o, e, hg, hc⟩ := h hl
  exact ⟨g, o, e, Nat.lt_of_lt_of_le hg k.size, fun j hj => (k.cell (p := ⟨g, o + j, none⟩) hg).trans (hc j hj)⟩
def byC (b : List Int) : List Value := b.map fun x => .int .u8 x
theorem byC_len (b : List Int) : (byC b).length = b.length := by simp [byC]
theorem byC_at (b : List Int) {k : Nat} (h : k < b.length) : (byC b)[k]? = some (.int .u8 (bAt b k)) := by
  simp [byC, bAt, List.getD_eq_getElem?_getD, List.getElem?_eq_getElem h]
theorem byC_one (b : List Int) : ∀ u ∈ byC b, u.oneCell' = true := by
  intro u hu
  simp only [byC, List.mem_map] at hu
  obtain ⟨x, _, rfl⟩ := hu
  rfl
def BytAt (w : World) (g o : Nat) (b : List Int) : Prop := g < w.heap.size ∧ ∀ k, k < b.length → w.cell? ⟨g, o + k, none⟩ = some (.int .u8 (bAt b k))
section
variable {w w' : World} {base : Nat} {e : TypeId} {c : Nat} {A : Option Addr}
theorem own_addr {size n : Nat} {xs : List Value} (h : w.ownsRow base e size (.slice A n c) n xs) (hn : 0 < n) : ∃ g, A = some ⟨g, 0, none⟩ ∧ base ≤ g ∧ g < w.heap.size := by
  obtain ⟨g, cap, hv, hb, hlt⟩ := h.form hn
  injection hv with hA
  exact ⟨g, hA, hb, hlt⟩
theorem own_bytS {b : List Int} {n : Nat} (hn : n = b.length) (h : w.ownsRow base e 1 (.slice A n c) n (byC b)) : BytS w A b := fun hl => by
  subst hn
  obtain ⟨g, rfl, _, hg⟩ := own_addr h hl
  refine ⟨g, 0, rfl, hg, fun k hk => ?_⟩
  rw [Nat.zero_add, h.cellAt k (by omega), byC_at b hk]
end
theorem own_after {w w' : World} {base size n : Nat} {e : TypeId} {v : Value} {xs : List Value} (h : w.ownsRow base e size v n xs) (b : Below w.heap.size w w') : w'.ownsRow base e size v n xs := by
  refine ⟨h.1, ?_⟩
  rcases h.2 with hn | ⟨g, cap, cur, rfl, hb, hgg, rest⟩
  · exact .inl hn
  · exact .inr ⟨g, cap, cur, rfl, hb, (b.block g (Array.getElem?_eq_some_iff.1 hgg).1).trans hgg, rest⟩
theorem own_slice {w : World} {base size n : Nat} {e : TypeId} {v : Value} {xs : List Value} (h : w.ownsRow base e size v n xs) : ∃ A c, v = .slice A n c ∧ n ≤ c ∧ c ≤ maxLen := by
  rcases h.2 with ⟨rfl, rfl⟩ | ⟨g, cap, cur, rfl, _, _, h1, h2, _⟩
  · exact ⟨none, 0, rfl, Nat.le_refl _, Nat.zero_le _⟩
  · exact ⟨_, cap, rfl, h1, h2⟩
theorem below_own {w0 w w' : World} {base size n : Nat} {e : TypeId} {v : Value} {xs : List Value} (B : Below base w0 w) (h : w.ownsRow base e size v n xs) (hb : base ≤ w.heap.size) (hg : w.grownBy w' v.ownBlock) : Below base w0 w' :=
  B.grown hg hb (fun k hk => (h.lt k hk).1)
theorem byt_ext {l m : List Int} (h : l.length = m.length) (ha : ∀ k, k < l.length → bAt l k = bAt m k) : l = m := by
  apply List.ext_getElem h
  intro k h1 h2
  have := ha k h1
  unfold bAt at this
  rw [List.getD_eq_getElem?_getD, List.getD_eq_getElem?_getD, List.getElem?_eq_getElem h1, List.getElem?_eq_getElem h2] at this
  exact this
theorem bAt_set {b : List Int} {j : Nat} (hj : j < b.length) (v : Int) (k : Nat) : bAt (b.set j v) k = if k = j then v else bAt b k := by
  unfold bAt
  rw [List.getD_eq_getElem?_getD, List.getD_eq_getElem?_getD, List.getElem?_set]
  by_cases h : j = k
  · subst h
    rw [if_pos rfl, if_pos hj, if_pos rfl]
    rfl
  · rw [if_neg h, if_neg (fun e => h e.symm)]
theorem okB_set {b : List Int} (h : OkB b) {j : Nat} (hj : j < b.length) {v : Int} (hv : 0 ≤ v ∧ v ≤ 255) : OkB (b.set j v) := fun k hk => by
  rw [List.length_set] at hk
  rw [bAt_set hj]
  split
  · exact hv
  · exact h k hk
theorem byC_set (b : List Int) (j : Nat) (v : Int) : (byC b).set j (.int .u8 v) = byC (b.set j v) := by simp [byC, List.map_set]
theorem byC_zeros (k : Nat) : byC (List.replicate k 0) = List.replicate k (.int .u8 0) := by simp [byC]
theorem okB_zeros (k : Nat) : OkB (List.replicate k 0) := fun j hj => by
  rw [List.length_replicate] at hj
  unfold bAt
  rw [List.getD_eq_getElem?_getD, List.getElem?_replicate, if_pos hj]
  simp
theorem byt_news {w : World} {g o : Nat} {b : List Int} (h : BytAt w g o b) : ∀ j u, (byC b)[j]? = some u → w.cell? ((⟨g, o, none⟩ : Addr).add j) = some u := by
  intro j u hu
  have hadd : (⟨g, o, none⟩ : Addr).add j = ⟨g, o + j, none⟩ := by unfold Addr.add; split <;> simp_all
  have hj : j < b.length := by
    rcases Nat.lt_or_ge j b.length with k | k
    · exact k
    · rw [List.getElem?_eq_none (by rw [byC_len]; exact k)] at hu; cases hu
  rw [hadd, h.2 j hj, ← hu, byC_at b hj]
structure PA where
  id : Int
  b : List Int
  bl : List Bool
  fx : Bool
def PA.zero : PA := ⟨0, [], [], false⟩
abbrev PM := List PA
def pAt (M : PM) (k : Nat) : PA := M.getD k PA.zero
theorem pAt_get {M : PM} {k : Nat} (h : k < M.length) : M[k]? = some (pAt M k) := by
  unfold pAt
  rw [List.getD_eq_getElem?_getD, List.getElem?_eq_getElem h, Option.getD_some]
def pIx : PM → Int → Option Nat
  | [], _ => none
  | a :: M, i => if a.id = i then some 0 else (pIx M i).map (· + 1)
theorem pIx_some {M : PM} {i : Int} {k : Nat} (h : pIx M i = some k) : k < M.length ∧ (pAt M k).id = i ∧ ∀ j, j < k → (pAt M j).id ≠ i := by
  induction M generalizing k with
  | nil => cases h
  | cons a M ih =>
    unfold pIx at h
    by_cases ha : a.id = i
    · rw [if_pos ha] at h
      cases h
      exact ⟨by simp, ha, fun j hj => by omega⟩
    · rw [if_neg ha] at h
      cases hm : pIx M i with
      | none => rw [hm] at h; cases h
      | some k' =>
        rw [hm] at h
        simp only [Option.map_some, Option.some.injEq] at h
        subst h
        obtain ⟨h1, h2, h3⟩ := ih hm
        refine ⟨by simp; omega, by simpa [pAt] using h2, fun j hj => ?_⟩
        cases j with
        | zero => simpa [pAt] using ha
        | succ j => simpa [pAt] using h3 j (by omega)
def leN : List Int → Int
  | [] => 0
  | x :: l => x + 256 * leN l
def leB (n : Int) : Nat → List Int
  | 0 => []
  | k + 1 => n % 256 :: leB (n / 256) k
def putN {α : Type} (b : List α) (o : Nat) : List α → List α
  | [] => b
  | x :: l => putN (b.set o x) (o + 1) l
def fitsZ (s : Int) : Bool := s == 1 || s == 2 || s == 4 || s == 8
def pWh (M : PM) (at_ s : Int) : Option (Nat × Nat) :=
  match pIx M (at_ / 4294967296) with
  | none => none
  | some k => if at_ % 4294967296 ≤ ((pAt M k).b.length : Int) ∧ s ≤ ((pAt M k).b.length : Int) - at_ % 4294967296 then some (k, (at_ % 4294967296).toNat) else none
theorem pWh_some {M : PM} {at_ s : Int} {k o : Nat} (h : pWh M at_ s = some (k, o)) : pIx M (at_ / 4294967296) = some k ∧ k < M.length ∧ at_ % 4294967296 = o ∧ (0 ≤ s → o + s.toNat ≤ (pAt M k).b.length) ∧ o ≤ (pAt M k).b.length := by
  unfold pWh at h
  cases hx : pIx M (at_ / 4294967296) with
  | none => rw [hx] at h; cases h
  | some k' =>
    rw [hx] at h
    simp only at h
    split at h
    · rename_i hc
      cases h
      have := (pIx_some hx).1
      exact ⟨rfl, this, by omega, fun _ => by omega, by omega⟩
    · cases h
def blankB (a : PA) (o s : Nat) : Bool := ((a.bl.drop o).take s).any id
def pRead (M : PM) (at_ s : Int) : List Int × Int :=
  if s < 0 ∨ 1024 < s then ([], 1)
  else match pWh M at_ s with
  | none => ([], 80)
  | some (k, o) => if blankB (pAt M k) o s.toNat then ([], 81) else (((pAt M k).b.drop o).take s.toNat, 0)
def pLoad (M : PM) (at_ s : Int) : Int × Int :=
  if fitsZ s then (if (pRead M at_ s).2 = 0 then (leN (pRead M at_ s).1, 0) else (0, (pRead M at_ s).2)) else (0, 1)
def paSet (a : PA) (o s : Nat) (n : Int) : PA := ⟨a.id, putN a.b o (leB n s), putN a.bl o (List.replicate s false), a.fx⟩
def pStore (M : PM) (at_ s n : Int) : PM × Int :=
  if fitsZ s then
    match pWh M at_ s with
    | none => (M, 80)
    | some (k, o) => if (pAt M k).fx then (M, 82) else (M.set k (paSet (pAt M k) o s.toNat n), 0)
  else (M, 1)
def pMake (M : PM) (id : Int) (b : List Int) (blank fx : Bool) : PM × Int :=
  if id < 1 ∨ 2147483648 ≤ id ∨ (pIx M id).isSome = true then (M, 1)
  else if 1024 < b.length then (M, 3)
  else (M ++ [⟨id, b, List.replicate b.length blank, fx⟩], 0)
def pArea (M : PM) (id : Int) : List Int × Bool :=
  match pIx M id with
  | none => ([], false)
  | some k => ((pAt M k).b, true)
def atI (area off : Int) : Int := (area * 4294967296 + off) % 18446744073709551616
def PA.ok (a : PA) : Prop := OkB a.b ∧ a.bl.length = a.b.length ∧ a.b.length ≤ 1024 ∧ 1 ≤ a.id ∧ a.id < 2147483648
def PMok (M : PM) : Prop := ∀ k, k < M.length → (pAt M k).ok
theorem pAt_app {M : PM} {a : PA} {k : Nat} : pAt (M ++ [a]) k = if k < M.length then pAt M k else if k = M.length then a else PA.zero := by
  unfold pAt
  rw [List.getD_eq_getElem?_getD, List.getD_eq_getElem?_getD, List.getElem?_append]
  split
  · rfl
  · rename_i h
    by_cases h2 : k = M.length
    · rw [if_pos h2, h2, Nat.sub_self]; rfl
    · rw [if_neg h2, List.getElem?_eq_none (by simp; omega)]; rfl
theorem pAt_set {M : PM} {k : Nat} (hk : k < M.length) (a : PA) (j : Nat) : pAt (M.set k a) j = if j = k then a else pAt M j := by
  unfold pAt
  rw [List.getD_eq_getElem?_getD, List.getD_eq_getElem?_getD, List.getElem?_set]
  by_cases h : k = j
  · subst h
    rw [if_pos rfl, if_pos hk, if_pos rfl]
    rfl
  · rw [if_neg h, if_neg (fun e => h e.symm)]
theorem and_low {n : Int} {k : Nat} (h : 0 ≤ n ∧ n ≤ 18446744073709551615) (hk : k ≤ 64) : bits .and .u64 n (2 ^ k - 1) = n % 2 ^ k := by
  have hp : (1 : Int) ≤ 2 ^ k := Int.pow_pos (by omega)
  have hq : (2 : Int) ^ k ≤ 2 ^ 64 := by
    have := Nat.pow_le_pow_right (n := 2) (by omega) hk
    have e : ∀ m : Nat, (2 : Int) ^ m = ((2 ^ m : Nat) : Int) := fun m => by simp
    rw [e, e]; omega
  rw [u64_and _ _ (by omega) (by omega) (by omega) (by omega)]
  have e1 : ((2 : Int) ^ k - 1).toNat = 2 ^ k - 1 := by
    have e : (2 : Int) ^ k = ((2 ^ k : Nat) : Int) := by simp
    rw [e]; omega
  rw [e1, Nat.and_two_pow_sub_one_eq_mod]
  have e : (2 : Int) ^ k = ((2 ^ k : Nat) : Int) := by simp
  rw [e, Int.natCast_emod]
  congr 1
  omega
end Go.Proofs.YtlbhffdpklbhfaaGreat
namespace Go.Proofs.YtlbhffdpklbhfaaGreat
open Go Go.RowKit
set_option maxRecDepth 100000
set_option linter.unusedVariables false
set_option linter.unusedSimpArgs false
theorem str_inj {a b : List Int} (ha : OkB a) (hb : OkB b) (h : strOfNums a = strOfNums b) : a = b := by
  have e : (strOfNums a).data.toList = (strOfNums b).data.toList := by rw [h]
  rw [strOfNums_data, strOfNums_data] at e
  have hl : a.length = b.length := by have := congrArg List.length e; simpa using this
  refine byt_ext hl fun k hk => ?_
  have e2 := congrArg (fun l => l[k]?) e
  simp only [List.getElem?_map] at e2
  rw [List.getElem?_eq_getElem hk, List.getElem?_eq_getElem (by omega)] at e2
  simp only [Option.map_some, Option.some.injEq] at e2
  have h1 := ha k hk
  have h2 := hb k (by omega)
  unfold bAt at *
  rw [List.getD_eq_getElem?_getD, List.getElem?_eq_getElem hk] at *
  rw [List.getD_eq_getElem?_getD, List.getElem?_eq_getElem (by omega : k < b.length)] at *
  simp only [Option.getD_some] at *
  have e3 := congrArg UInt8.toNat e2
  simp only [UInt8.toNat_ofNat'] at e3
  omega
theorem str_list (a : List Int) : (strOfNums a).toList = a.map fun n => UInt8.ofNat n.toNat := by
  rw [← strOfNums_data]
  exact Lib.toList_data _
theorem okB_cons {x : Int} {l : List Int} (h : OkB (x :: l)) : (0 ≤ x ∧ x ≤ 255) ∧ OkB l :=
  ⟨by have := h 0 (by simp); simpa [bAt] using this, fun j hj => by have := h (j + 1) (by simpa using hj); simpa [bAt] using this⟩
theorem eq_str {a b : List Int} (ha : OkB a) (hb : OkB b) : ((strOfNums a).toList == (strOfNums b).toList) = (a == b) := by
  rw [Bool.eq_iff_iff, beq_iff_eq, beq_iff_eq]
  constructor
  · intro h
    refine str_inj ha hb ?_
    rw [str_list, str_list] at h
    unfold strOfNums
    rw [h]
  · intro h; rw [h]
end Go.Proofs.YtlbhffdpklbhfaaGreat
namespace Go.Proofs.YtlbhffdpklbhfaaGreat
open Go Go.RowKit
set_option linter.unusedVariables false
set_option linter.unusedSimpArgs false
structure Turn (F : Nat → Prop) (w w' : World) : Prop where
  os : w'.os = w.os
  tape : w'.tape = w.tape
  output : w'.output = w.output
  size : w.heap.size ≤ w'.heap.size
  block : ∀ k, k < w.heap.size → ¬ F k → w'.heap[k]? = w.heap[k]?
theorem Turn.refl (F : Nat → Prop) (w : World) : Turn F w w := ⟨rfl, rfl, rfl, Nat.le_refl _, fun _ _ _ => rfl⟩
theorem Turn.trans {F G : Nat → Prop} {a b c : World} (h : Turn F a b) (k : Turn G b c) (hG : ∀ x, G x → F x ∨ a.heap.size ≤ x) : Turn F a c :=
  ⟨k.os.trans h.os, k.tape.trans h.tape, k.output.trans h.output, Nat.le_trans h.size k.size, fun i hi hF => (k.block i (Nat.lt_of_lt_of_le hi h.size) (fun g => (hG i g).elim hF (fun x => by omega))).trans (h.block i hi hF)⟩
theorem Turn.mono {F G : Nat → Prop} {a b : World} (h : Turn F a b) (hG : ∀ x, F x → G x ∨ a.heap.size ≤ x) : Turn G a b :=
  ⟨h.os, h.tape, h.output, h.size, fun i hi hn => h.block i hi (fun f => (hG i f).elim hn (fun x => by omega))⟩
theorem Turn.drew {F : Nat → Prop} {a b : World} (h : Turn F a b) : Turn F a b.drew := ⟨h.os, h.tape, h.output, h.size, h.block⟩
theorem Turn.setCell {F : Nat → Prop} {a b : World} (h : Turn F a b) {p : Addr} (hp : F p.block ∨ a.heap.size ≤ p.block) (u : Value) : Turn F a (b.setCell p u) :=
  ⟨h.os, h.tape, h.output, Nat.le_trans h.size (by simp [World.setCell]), fun k hk hn => (Below.heap_setCell _ _ _ _ (fun e => by subst e; exact hp.elim hn (fun x => by omega))).trans (h.block k hk hn)⟩
theorem Turn.grown {F : Nat → Prop} {a b c : World} {row : Option Nat} (h : Turn F a b) (hg : b.grownBy c row) (hr : ∀ k, row = some k → F k ∨ a.heap.size ≤ k) : Turn F a c :=
  ⟨hg.os.trans h.os, hg.tape.trans h.tape, hg.output.trans h.output, Nat.le_trans h.size hg.size, fun k hk hn => (hg.block k (Nat.lt_of_lt_of_le hk h.size) (fun e => (hr k e.symm).elim hn (fun x => by omega))).trans (h.block k hk hn)⟩
theorem Turn.of_below {F : Nat → Prop} {a b : World} (h : Below a.heap.size a b) : Turn F a b := ⟨h.os, h.tape, h.output, h.size, fun k hk _ => h.block k hk⟩
theorem Turn.next {F : Nat → Prop} {a b c : World} (h : Turn F a b) (k : Below b.heap.size b c) : Turn F a c := h.trans (G := fun _ => False) (Turn.of_below k) (fun _ x => x.elim)
theorem Turn.below {F : Nat → Prop} {B : Nat} {a b : World} (h : Turn F a b) (hB : B ≤ a.heap.size) (hF : ∀ k, k < B → ¬ F k) : Below B a b := ⟨h.os, h.tape, h.output, h.size, fun k hk => h.block k (Nat.lt_of_lt_of_le hk hB) (hF k hk)⟩
theorem Turn.on {F : Nat → Prop} {B : Nat} {w a b : World} (h : Below B w a) (k : Turn F a b) (hB : B ≤ a.heap.size) (hF : ∀ k, F k → B ≤ k) : Below B w b :=
  h.trans (k.below hB (fun i hi f => by have := hF i f; omega))
theorem own_same {w w' : World} {base size n : Nat} {e : TypeId} {v : Value} {xs : List Value} (h : w.ownsRow base e size v n xs) (hs : ∀ k, v.ownBlock = some k → w'.heap[k]? = w.heap[k]?) : w'.ownsRow base e size v n xs := by
  refine ⟨h.1, ?_⟩
  rcases h.2 with hn | ⟨g, cap, cur, rfl, hb, hgg, rest⟩
  · exact .inl hn
  · exact .inr ⟨g, cap, cur, rfl, hb, (hs g rfl).trans hgg, rest⟩
theorem own_base {w : World} {base base' size n : Nat} {e : TypeId} {v : Value} {xs : List Value} (h : w.ownsRow base e size v n xs) (hb : ∀ k, v.ownBlock = some k → base' ≤ k) : w.ownsRow base' e size v n xs := by
  refine ⟨h.1, ?_⟩
  rcases h.2 with hn | ⟨g, cap, cur, rfl, hb', hgg, rest⟩
  · exact .inl hn
  · exact .inr ⟨g, cap, cur, rfl, hb g rfl, hgg, rest⟩
theorem own_lt {w : World} {base size n : Nat} {e : TypeId} {v : Value} {xs : List Value} (h : w.ownsRow base e size v n xs) {k : Nat} (hk : v.ownBlock = some k) : k < w.heap.size := (h.lt k hk).2
theorem Blk.same {g : Nat} {cs : Array Value} {t : TypeId} {w w' : World} (h : Blk g cs t w) (hs : w'.heap[g]? = w.heap[g]?) : Blk g cs t w' := hs.trans h
def boC (l : List Bool) : List Value := l.map Value.bool
theorem boC_at (l : List Bool) {k : Nat} (h : k < l.length) : (boC l)[k]? = some (.bool (l.getD k false)) := by
  simp [boC, List.getD_eq_getElem?_getD, List.getElem?_eq_getElem h]
theorem boC_set (l : List Bool) (k : Nat) (b : Bool) : (boC l).set k (.bool b) = boC (l.set k b) := by simp [boC, List.map_set]
structure AR where
  a : PA
  vb : Value
  vk : Value
def AR.zero : AR := ⟨PA.zero, .slice none 0 0, .slice none 0 0⟩
def arAt (L : List AR) (k : Nat) : AR := L.getD k AR.zero
def arM (L : List AR) : PM := L.map (·.a)
theorem arM_len (L : List AR) : (arM L).length = L.length := by simp [arM]
theorem arM_at (L : List AR) (k : Nat) : pAt (arM L) k = (arAt L k).a := by
  unfold pAt arM arAt
  rw [List.getD_eq_getElem?_getD, List.getD_eq_getElem?_getD, List.getElem?_map]
  cases L[k]? <;> rfl
def arBlk (g : Nat) (vl : Value) (L : List AR) (p : Nat) : Option Nat :=
  if p = 0 then some g else if p = 1 then vl.ownBlock else if p % 2 = 0 then (arAt L ((p - 2) / 2)).vb.ownBlock else (arAt L ((p - 2) / 2)).vk.ownBlock
def AROwn (w : World) (r : AR) : Prop := w.ownsRow 0 5 1 r.vb r.a.b.length (byC r.a.b) ∧ w.ownsRow 0 4 1 r.vk r.a.bl.length (boC r.a.bl)
theorem arAt_out {L : List AR} {k : Nat} (h : L.length ≤ k) : arAt L k = AR.zero := by
  unfold arAt
  rw [List.getD_eq_getElem?_getD, List.getElem?_eq_none h]
  rfl
theorem arAt_set {L : List AR} {k : Nat} (hk : k < L.length) (r : AR) (j : Nat) : arAt (L.set k r) j = if j = k then r else arAt L j := by
  unfold arAt
  rw [List.getD_eq_getElem?_getD, List.getD_eq_getElem?_getD, List.getElem?_set]
  by_cases h : k = j
  · subst h
    rw [if_pos rfl, if_pos hk, if_pos rfl]
    rfl
  · rw [if_neg h, if_neg (fun e => h e.symm)]
theorem arBlk_b (g : Nat) (vl : Value) (L : List AR) (k : Nat) : arBlk g vl L (2 * k + 2) = (arAt L k).vb.ownBlock := by
  unfold arBlk
  rw [if_neg (by omega), if_neg (by omega), if_pos (by omega), show (2 * k + 2 - 2) / 2 = k by omega]
theorem arBlk_k (g : Nat) (vl : Value) (L : List AR) (k : Nat) : arBlk g vl L (2 * k + 3) = (arAt L k).vk.ownBlock := by
  unfold arBlk
  rw [if_neg (by omega), if_neg (by omega), if_neg (by omega), show (2 * k + 3 - 2) / 2 = k by omega]
theorem arBlk_cases {g : Nat} {vl : Value} {L : List AR} {p x : Nat} (h : arBlk g vl L p = some x) :
    (p = 0 ∧ x = g) ∨ (p = 1 ∧ vl.ownBlock = some x) ∨ ∃ k, k < L.length ∧ ((p = 2 * k + 2 ∧ (arAt L k).vb.ownBlock = some x) ∨ (p = 2 * k + 3 ∧ (arAt L k).vk.ownBlock = some x)) := by
  unfold arBlk at h
  by_cases h0 : p = 0
  · rw [if_pos h0] at h; cases h; exact .inl ⟨h0, rfl⟩
  rw [if_neg h0] at h
  by_cases h1 : p = 1
  · rw [if_pos h1] at h; exact .inr (.inl ⟨h1, h⟩)
  rw [if_neg h1] at h
  have hk : (p - 2) / 2 < L.length := by
    rcases Nat.lt_or_ge ((p - 2) / 2) L.length with c | c
    · exact c
    · rw [arAt_out c] at h
      split at h <;> cases h
  refine .inr (.inr ⟨(p - 2) / 2, hk, ?_⟩)
  by_cases h2 : p % 2 = 0
  · rw [if_pos h2] at h; exact .inl ⟨by omega, h⟩
  · rw [if_neg h2] at h; exact .inr ⟨by omega, h⟩
def arPut (r : AR) (b : List Int) (bl : List Bool) : AR := ⟨⟨r.a.id, b, bl, r.a.fx⟩, r.vb, r.vk⟩
theorem arBlk_put {g : Nat} {vl : Value} {L : List AR} {k : Nat} (hk : k < L.length) (b : List Int) (bl : List Bool) (p : Nat) : arBlk g vl (L.set k (arPut (arAt L k) b bl)) p = arBlk g vl L p := by
  have hv : ∀ j, (arAt (L.set k (arPut (arAt L k) b bl)) j).vb = (arAt L j).vb ∧ (arAt (L.set k (arPut (arAt L k) b bl)) j).vk = (arAt L j).vk := fun j => by
    rw [arAt_set hk]
    split
    · rename_i e; rw [e]; exact ⟨rfl, rfl⟩
    · exact ⟨rfl, rfl⟩
  unfold arBlk
  rw [(hv _).1, (hv _).2]
theorem arM_put {L : List AR} {k : Nat} (b : List Int) (bl : List Bool) : arM (L.set k (arPut (arAt L k) b bl)) = (arM L).set k ⟨(arAt L k).a.id, b, bl, (arAt L k).a.fx⟩ := by
  unfold arM
  rw [List.map_set]
  rfl
theorem arPut_self {L : List AR} {k : Nat} (hk : k < L.length) : L.set k (arPut (arAt L k) (arAt L k).a.b (arAt L k).a.bl) = L := by
  have e : arPut (arAt L k) (arAt L k).a.b (arAt L k).a.bl = L[k] := by
    show arAt L k = L[k]
    unfold arAt
    rw [List.getD_eq_getElem?_getD, List.getElem?_eq_getElem hk, Option.getD_some]
  rw [e]
  exact List.set_getElem_self hk
theorem arPut_twice {L : List AR} {k : Nat} (hk : k < L.length) (b b2 : List Int) (bl bl2 : List Bool) :
    (L.set k (arPut (arAt L k) b bl)).set k (arPut (arAt (L.set k (arPut (arAt L k) b bl)) k) b2 bl2) = L.set k (arPut (arAt L k) b2 bl2) := by
  rw [List.set_set, arAt_set hk, if_pos rfl]
  rfl
theorem arAt_app {L : List AR} {r : AR} {k : Nat} : arAt (L ++ [r]) k = if k < L.length then arAt L k else if k = L.length then r else AR.zero := by
  unfold arAt
  rw [List.getD_eq_getElem?_getD, List.getD_eq_getElem?_getD, List.getElem?_append]
  split
  · rfl
  · rename_i h
    by_cases h2 : k = L.length
    · rw [if_pos h2, h2, Nat.sub_self]; rfl
    · rw [if_neg h2, List.getElem?_eq_none (by simp; omega)]; rfl
theorem arBlk_app {g : Nat} {vl vl' : Value} {L : List AR} {r : AR} {p x : Nat} (h : arBlk g vl' (L ++ [r]) p = some x) :
    (p ≠ 1 ∧ arBlk g vl L p = some x) ∨ (p = 1 ∧ vl'.ownBlock = some x) ∨ (p = 2 * L.length + 2 ∧ r.vb.ownBlock = some x) ∨ (p = 2 * L.length + 3 ∧ r.vk.ownBlock = some x) := by
  rcases arBlk_cases h with ⟨h1, h2⟩ | ⟨h1, h2⟩ | ⟨k, hk, ⟨h1, h2⟩ | ⟨h1, h2⟩⟩
  · exact .inl ⟨by omega, by rw [h1, h2]; rfl⟩
  · exact .inr (.inl ⟨h1, h2⟩)
  · rw [arAt_app] at h2
    by_cases hl : k < L.length
    · rw [if_pos hl] at h2
      exact .inl ⟨by omega, by rw [h1, arBlk_b]; exact h2⟩
    · have e : k = L.length := by simp at hk; omega
      rw [if_neg hl, if_pos e] at h2
      exact .inr (.inr (.inl ⟨by omega, h2⟩))
  · rw [arAt_app] at h2
    by_cases hl : k < L.length
    · rw [if_pos hl] at h2
      exact .inl ⟨by omega, by rw [h1, arBlk_k]; exact h2⟩
    · have e : k = L.length := by simp at hk; omega
      rw [if_neg hl, if_pos e] at h2
      exact .inr (.inr (.inr ⟨by omega, h2⟩))
theorem arM_app (L : List AR) (r : AR) : arM (L ++ [r]) = arM L ++ [r.a] := by simp [arM]
def ByteW (r : List Int × Int) (w : World) (e : Ending) (w' : World) : Prop :=
  ∃ A c, e = .returned (.tuple #[.slice A r.1.length c, .int .i64 r.2]) ∧ BytS w' A r.1 ∧ r.1.length ≤ c ∧ c ≤ maxLen ∧ Below w.heap.size w w'
theorem byteW_none {w w' : World} (n : Int) (h : Below w.heap.size w w') : ByteW ([], n) w (.returned (.tuple #[.slice none 0 0, .int .i64 n])) w' :=
  ⟨none, 0, rfl, BytS.none_ _ _, Nat.le_refl _, Nat.zero_le _, h⟩
theorem blank_all {bl : List Bool} {o s : Nat} : ((bl.drop o).take s).any id = false ↔ ∀ t, o ≤ t → t < o + s → bl.getD t false = false := by
  rw [List.any_eq_false]
  constructor
  · intro h t h1 h2
    by_cases ht : t < bl.length
    · have e : bl.getD t false = bl[t] := by rw [List.getD_eq_getElem?_getD, List.getElem?_eq_getElem ht]; rfl
      rw [e]
      have := h bl[t] (List.mem_of_getElem? (i := t - o) (by rw [List.getElem?_take, if_pos (by omega), List.getElem?_drop, show o + (t - o) = t by omega, List.getElem?_eq_getElem ht]))
      simpa using this
    · rw [List.getD_eq_getElem?_getD, List.getElem?_eq_none (by omega)]; rfl
  · intro h x hx
    obtain ⟨i, hi, rfl⟩ := List.mem_iff_getElem.mp hx
    simp only [List.length_take, List.length_drop] at hi
    have := h (o + i) (by omega) (by omega)
    rw [List.getD_eq_getElem?_getD, List.getElem?_eq_getElem (by omega)] at this
    simp only [List.getElem_take, List.getElem_drop]
    simpa using this
theorem blank_some {bl : List Bool} {o s t : Nat} (h1 : o ≤ t) (h2 : t < o + s) (h3 : bl.getD t false = true) : ((bl.drop o).take s).any id = true := by
  cases h : ((bl.drop o).take s).any id
  · have := blank_all.mp h t h1 h2
    rw [h3] at this
    cases this
  · rfl
theorem cut_at (b : List Int) (o s k : Nat) (h : o + s ≤ b.length) (hk : k < s) : bAt ((b.drop o).take s) k = bAt b (o + k) := by
  unfold bAt
  rw [List.getD_eq_getElem?_getD, List.getD_eq_getElem?_getD, List.getElem?_take, if_pos hk, List.getElem?_drop]
theorem cut_len (b : List Int) (o s : Nat) (h : o + s ≤ b.length) : ((b.drop o).take s).length = s := by simp; omega
theorem own_form {w : World} {base size n c : Nat} {e : TypeId} {a : Addr} {xs : List Value} (h : w.ownsRow base e size (.slice (some a) n c) n xs) : ∃ g, a = ⟨g, 0, none⟩ := by
  rcases h.2 with ⟨h, _⟩ | ⟨g, cap, cur, h, _⟩
  · simp at h
  · simp only [Value.slice.injEq, Option.some.injEq] at h
    exact ⟨g, h.1⟩
theorem cell_alloc {w : World} {p : Addr} {v : Value} (h : w.cell? p = some v) (o : Obj) : (w.alloc o).cell? p = some v :=
  (Below.cell (below_alloc (Below.refl _ _) o) (World.block_lt_of_cell? w p h)).trans h
theorem leN_lt {l : List Int} (h : OkB l) : 0 ≤ leN l ∧ leN l < 256 ^ l.length := by
  induction l with
  | nil => simp [leN]
  | cons x l ih =>
    have hx : 0 ≤ x ∧ x ≤ 255 := by have := h 0 (by simp); simpa [bAt] using this
    have hl : OkB l := fun j hj => by have := h (j + 1) (by simpa using hj); simpa [bAt] using this
    obtain ⟨h1, h2⟩ := ih hl
    show 0 ≤ x + 256 * leN l ∧ x + 256 * leN l < 256 ^ (l.length + 1)
    rw [Int.pow_succ]
    omega
theorem okB_drop {l : List Int} (h : OkB l) (k : Nat) : OkB (l.drop k) := fun j hj => by
  rw [List.length_drop] at hj
  have := h (k + j) (by omega)
  unfold bAt at *
  rw [List.getD_eq_getElem?_getD] at *
  rw [List.getElem?_drop]
  exact this
theorem okB_take {l : List Int} (h : OkB l) (k : Nat) : OkB (l.take k) := fun j hj => by
  rw [List.length_take] at hj
  have := h j (by omega)
  unfold bAt at *
  rw [List.getD_eq_getElem?_getD] at *
  rw [List.getElem?_take, if_pos (by omega)]
  exact this
theorem pRead_len {M : PM} {at_ s : Int} (h : (pRead M at_ s).2 = 0) : 0 ≤ s ∧ s ≤ 1024 ∧ (pRead M at_ s).1.length = s.toNat := by
  unfold pRead at h ⊢
  split at h
  · simp at h
  · rename_i hs
    rw [if_neg hs]
    cases hw : pWh M at_ s with
    | none => rw [hw] at h; simp at h
    | some p =>
      obtain ⟨k, o⟩ := p
      rw [hw] at h
      simp only at h ⊢
      obtain ⟨_, _, _, hf, _⟩ := pWh_some hw
      split at h
      · simp at h
      · rename_i hb
        rw [if_neg hb]
        refine ⟨by omega, by omega, cut_len _ _ _ (hf (by omega))⟩
theorem pRead_ok {M : PM} (hM : PMok M) (at_ s : Int) : OkB (pRead M at_ s).1 := by
  unfold pRead
  split
  · intro j hj; simp at hj
  · cases hw : pWh M at_ s with
    | none => intro j hj; simp at hj
    | some p =>
      obtain ⟨k, o⟩ := p
      simp only
      split
      · intro j hj; simp at hj
      · exact okB_take (okB_drop (hM k (pWh_some hw).2.1).1 o) _
def MemW (R : World → Nat → PM → (Nat → Prop) → Prop) (g : Nat) (F : Nat → Prop) (M : PM) (v : Value) (w : World) (e : Ending) (w' : World) : Prop :=
  e = .returned v ∧ ∃ F', R w' g M F' ∧ Turn F w w' ∧ ∀ x, F' x → F x ∨ w.heap.size ≤ x
theorem leB_succ (n : Int) (k : Nat) : leB n (k + 1) = n % 256 :: leB (n / 256) k := rfl
theorem putN_cons {α : Type} (b : List α) (o : Nat) (x : α) (l : List α) : putN b o (x :: l) = putN (b.set o x) (o + 1) l := rfl
end Go.Proofs.YtlbhffdpklbhfaaGreat
