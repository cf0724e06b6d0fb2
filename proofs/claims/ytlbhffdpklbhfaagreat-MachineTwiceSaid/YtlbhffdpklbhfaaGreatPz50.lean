/-
  Texts, one behind the other: MachFew, MachEnv, MachEnvJ, MachEnvK.
  Conditions: those that each theorem states.
-/
import Derived.Test.YtlbhffdpklbhfaaGreatPz14
import Derived.Test.YtlbhffdpklbhfaaGreatPz1
import Derived.Test.YtlbhffdpklbhfaaGreatPz6
import Derived.LoopTactic
import Derived.Deep.RegionHeld3
import Derived.Lib.SliceRun
import Derived.Test.YtlbhffdpklbhfaaGreatPz41
import Derived.Test.YtlbhffdpklbhfaaGreatPz45
import Derived.Deep.DeepCutAuto
namespace Go.Proofs.YtlbhffdpklbhfaaGreat
open Go.RowKit
set_option maxRecDepth 100000
set_option linter.unusedVariables false
set_option linter.unusedSimpArgs false
theorem InsS.take {w : World} {A : Option Addr} {l : List Ins} (h : InsS w A l) (n : Nat) : InsS w A (l.take n) := fun hl => by
  rw [List.length_take] at hl
  obtain ⟨g, o, e, hg, hc⟩ := h (by omega)
  refine ⟨g, o, e, hg, fun k hk => ?_⟩
  rw [List.length_take] at hk
  have q := hc k (by omega)
  have e2 : iAt (l.take n) k = iAt l k := by
    unfold iAt
    rw [List.getD_eq_getElem?_getD, List.getD_eq_getElem?_getD, List.getElem?_take, if_pos (by omega)]
  rw [e2]
  exact q
theorem OkAll.take {l : List Ins} (h : OkAll l) (n : Nat) : OkAll (l.take n) := fun k hk => by
  rw [List.length_take] at hk
  have e2 : iAt (l.take n) k = iAt l k := by
    unfold iAt
    rw [List.getD_eq_getElem?_getD, List.getD_eq_getElem?_getD, List.getElem?_take, if_pos (by omega)]
  rw [e2]
  exact h k (by omega)
theorem l11_few (w : World) (A : Option Addr) (n c : Nat) (hc : n ≤ c) (hcm : c ≤ maxLen) :
    Calls Tryz.prog 9 #[.slice A n c] w (Gives (.slice A (min 520 n) c) w) := by
  unfold maxLen at hcm
  rcases Nat.lt_or_ge 520 n with h | h
  · rw [Nat.min_eq_left (by omega)]
    go_enter Tryz.func9, Tryz.ntmps9
    go_wp2_with fail
    go_ret
    exact ⟨rfl, Below.refl _ _⟩
  · rw [Nat.min_eq_right (by omega)]
    go_enter Tryz.func9, Tryz.ntmps9
    go_wp2_with fail
    go_ret
    exact ⟨rfl, Below.refl _ _⟩
def shortI (x : Itm) : Bool := decide (x.k.length ≤ 80) && decide (x.v.length ≤ 80)
def eRow (k : Nat) (l : List Itm) : List Itm := (l.take (min k 20)).filter shortI
theorem eRow_next {l : List Itm} {k : Nat} (hk : k < l.length) : eRow (k + 1) l = if k < 20 ∧ shortI (xAt l k) = true then eRow k l ++ [xAt l k] else eRow k l := by
  unfold eRow
  by_cases h : k < 20
  · have e1 : min (k + 1) 20 = k + 1 := by omega
    have e2 : min k 20 = k := by omega
    have e3 : l.take (k + 1) = l.take k ++ [xAt l k] := by
      rw [List.take_add_one, List.getElem?_eq_getElem hk]
      unfold xAt
      rw [List.getD_eq_getElem?_getD, List.getElem?_eq_getElem hk]
      rfl
    rw [e1, e2, e3, List.filter_append]
    by_cases hs : shortI (xAt l k) = true
    · rw [if_pos ⟨h, hs⟩]
      simp [hs]
    · rw [if_neg (fun c => hs c.2)]
      simp [hs]
  · have e1 : min (k + 1) 20 = min k 20 := by omega
    rw [e1, if_neg (fun c => h c.1)]
theorem eRow_len (k : Nat) (l : List Itm) : (eRow k l).length ≤ 20 := by
  have h1 := List.length_filter_le shortI (l.take (min k 20))
  rw [List.length_take] at h1
  unfold eRow
  omega
theorem eRow_mem {k : Nat} {l : List Itm} {j : Nat} (hj : j < (eRow k l).length) : ∃ i, i < l.length ∧ xAt (eRow k l) j = xAt l i := by
  have h1 : xAt (eRow k l) j ∈ eRow k l := by
    unfold xAt
    rw [List.getD_eq_getElem?_getD, List.getElem?_eq_getElem hj]
    exact List.getElem_mem hj
  have h2 : xAt (eRow k l) j ∈ l := List.mem_of_mem_take (List.mem_filter.1 h1).1
  obtain ⟨i, hi, e⟩ := List.getElem_of_mem h2
  refine ⟨i, hi, ?_⟩
  rw [← e]
  unfold xAt
  rw [List.getD_eq_getElem?_getD, List.getElem?_eq_getElem hi]
  rfl
def irV (r : IR) : Value := .slice r.a r.l.length r.c
def irC (L : List IR) : List Value := L.map irV
theorem irC_at (L : List IR) (k : Nat) (h : k < L.length) : (irC L)[k]? = some (irV (irAt L k)) := by
  unfold irC irAt
  rw [List.getElem?_map, List.getD_eq_getElem?_getD, List.getElem?_eq_getElem h]
  rfl
def RowC (u : World) (r : IR) : Prop := 0 < r.l.length → ∃ g, r.a = some ⟨g, 0, none⟩ ∧ g < u.heap.size ∧ ∀ k, k < r.l.length → u.cell? ⟨g, 0 + k * 2, none⟩ = some (.slice (xAt r.l k).a (xAt r.l k).k.length (xAt r.l k).c) ∧ u.cell? ⟨g, 0 + k * 2 + 1, none⟩ = some (.slice (xAt r.l k).b (xAt r.l k).v.length (xAt r.l k).d)
theorem own_rowC {u : World} {B : Nat} {e : TypeId} {A : Option Addr} {c n : Nat} {l : List Itm} (hn : n = l.length) (h : u.ownsRow B e 2 (.slice A n c) n (iC l)) : RowC u ⟨A, c, l⟩ := fun h0 => by
  obtain ⟨g, e1, hg, hc⟩ := own_flat (c := cIm) (s := 2) (fun _ => rfl) Itm.zero h hn h0
  exact ⟨g, e1, hg, fun k hk => ⟨hc k hk 0 (by omega), hc k hk 1 (by omega)⟩⟩
theorem run_item {u : World} {base b n : Nat} {v : Value} {L : List Itm} (h : u.ownsRow base 84 2 v n (iC L)) (hn : n = L.length) (hn2 : n ≤ 100000) (hb : base ≤ u.heap.size) (x : Itm) (hblk : Blk b (cIm x).toArray 84 u) :
    ∃ v' w', (Builtin.append_ #[82, 82] 82 #[v, .slice (some ⟨b, 0, none⟩) 1 1]).run Tryz.prog u = .ok v' w' ∧ w'.ownsRow base 84 2 v' (n + 1) (iC (L ++ [x])) ∧ u.grownBy w' v.ownBlock := by
  obtain ⟨i1, hi1, hz, q1, q2⟩ := info_parts (show (Tryz.prog.info? 84).map (fun i => (i.zero, i.size, i.bytes)) = some (some (.agg #[.slice none 0 0, .slice none 0 0]), 2, 48) by kernel_rfl)
  have hnews : ∀ j c, (cIm x)[j]? = some c → u.cell? ((⟨b, 0, none⟩ : Addr).add j) = some c := by
    intro j c hc
    have hadd : (⟨b, 0, none⟩ : Addr).add j = ⟨b, j, none⟩ := by unfold Addr.add; split <;> simp_all
    rw [hadd, Blk.cell hblk j]
    simpa using hc
  obtain ⟨v', w', hr, ho, hg, _, hat⟩ := run_append_own_at (P := Tryz.prog) u base 82 82 84 i1 (.agg #[.slice none 0 0, .slice none 0 0]) 2 48 Tryz.underlying82 hi1 hz q1 q2 rfl (by omega) v n (iC L) h ⟨b, 0, none⟩ 1 1 (cIm x) rfl hnews (cI_one x) (by unfold maxLen; omega) (by omega) (by omega)
  refine ⟨v', w', hr, ?_, hg⟩
  rw [iC_app, show iC [x] = cIm x by simp [iC]]
  exact ho
theorem run_rowR {u : World} {base b n : Nat} {v : Value} {L : List IR} (h : u.ownsRow base 82 1 v n (irC L)) (hn : n = L.length) (hn2 : n ≤ 100000) (hb : base ≤ u.heap.size) (x : IR) (hblk : Blk b #[irV x] 82 u) :
    ∃ v' w', (Builtin.append_ #[25, 25] 25 #[v, .slice (some ⟨b, 0, none⟩) 1 1]).run Tryz.prog u = .ok v' w' ∧ w'.ownsRow base 82 1 v' (n + 1) (irC (L ++ [x])) ∧ u.grownBy w' v.ownBlock ∧ (v'.ownBlock = v.ownBlock ∨ v'.ownBlock = some u.heap.size) := by
  obtain ⟨i1, hi1, hz, q1, q2⟩ := info_parts (show (Tryz.prog.info? 82).map (fun i => (i.zero, i.size, i.bytes)) = some (some (.slice none 0 0), 1, 24) by kernel_rfl)
  have hnews : ∀ j c, [irV x][j]? = some c → u.cell? ((⟨b, 0, none⟩ : Addr).add j) = some c := by
    intro j c hc
    have hadd : (⟨b, 0, none⟩ : Addr).add j = ⟨b, j, none⟩ := by unfold Addr.add; split <;> simp_all
    rw [hadd, Blk.cell hblk j]
    simpa using hc
  obtain ⟨v', w', hr, ho, hg, _, hat⟩ := run_append_own_at (P := Tryz.prog) u base 25 25 82 i1 (.slice none 0 0) 1 24 Tryz.underlying25 hi1 hz q1 q2 rfl (by omega) v n (irC L) h ⟨b, 0, none⟩ 1 1 [irV x] rfl hnews (by intro y hy; simp only [List.mem_singleton] at hy; subst hy; rfl) (by unfold maxLen; omega) (by omega) (by omega)
  refine ⟨v', w', hr, ?_, hg, hat⟩
  unfold irC
  rw [List.map_append, List.map_singleton]
  exact ho
def cutE (E : EV) (L' : List IR) (ia : Option Addr) (ic : Nat) : EV := ⟨E.ctx.take 100, E.ca, E.cc, E.D.take 10, E.da, E.dc, L', ia, ic, E.dr.take 100, E.na, E.nc⟩
structure EV.raw (E : EV) : Prop where
  c : OkB E.ctx ∧ E.ctx.length ≤ E.cc ∧ E.cc ≤ maxLen
  d : E.D.length ≤ E.dc ∧ E.dc ≤ maxLen
  i : (∀ k, k < E.L.length → (∀ j, j < (irAt E.L k).l.length → ItmOk (xAt (irAt E.L k).l j)) ∧ (irAt E.L k).l.length ≤ (irAt E.L k).c ∧ (irAt E.L k).c ≤ maxLen) ∧ E.L.length ≤ E.ic ∧ E.ic ≤ maxLen
  n : OkN E.dr ∧ E.dr.length ≤ E.nc ∧ E.nc ≤ maxLen
def eRows (L : List IR) : List (List Itm) := (L.take 10).map fun r => eRow r.l.length r.l
def EnvW (E : EV) (w : World) (e : Ending) (w' : World) : Prop := ∃ ia ic L', e = .returned (envV (cutE E L' ia ic)) ∧ EnvS w' (cutE E L' ia ic) ∧ (cutE E L' ia ic).ok ∧ L'.map (·.l) = eRows E.L ∧ Below w.heap.size w w'
theorem tl (n : Nat) {α : Type} (l : List α) : (if ((n : Nat) : Int) < (l.length : Int) then ((n : Nat) : Int) else (l.length : Int)) = ((l.take n).length : Int) := by
  rw [List.length_take]
  split <;> omega
theorem min_run (w : World) (n m : Nat) (r : Nat) (h : (if (m : Int) < (n : Int) then (m : Int) else (n : Int)) = (r : Int)) : (Builtin.min_ #[3, 3] 3 #[.int .i64 (n : Int), .int .i64 (m : Int)]).run Tryz.prog w = .ok (.int .i64 (r : Int)) w := by
  rw [← h]
  by_cases c : (m : Int) < (n : Int)
  · rw [if_pos c]
    go_simp
  · rw [if_neg c]
    go_simp
def fou (w : World) (g : Nat) (a b c d : Value) : World := (((w.setCell ⟨g, 0, none⟩ a).setCell ⟨g, 1, none⟩ b).setCell ⟨g, 2, none⟩ c).setCell ⟨g, 3, none⟩ d
theorem fou_b {w0 w : World} {B g : Nat} (h : Below B w0 w) (hg : B ≤ g) (a b c d : Value) : Below B w0 ((((w.setCell ⟨g, 0, none⟩ a).setCell ⟨g, 1, none⟩ b).setCell ⟨g, 2, none⟩ c).setCell ⟨g, 3, none⟩ d) :=
  (((h.setCell hg a).setCell hg b).setCell hg c).setCell hg d
theorem fou_blk {w : World} {g : Nat} {a0 b0 c0 d0 : Value} {t : TypeId} (h : Blk g #[a0, b0, c0, d0] t w) (a b c d : Value) : Blk g #[a, b, c, d] t (fou w g a b c d) :=
  (((Blk.set h 0 a).set 1 b).set 2 c).set 3 d
structure ES (w : World) (a b c d : Value) (gT : Nat) (t0 t1 t2 t3 : Value) (u : World) : Prop where
  below : Below w.heap.size w u
  xi : Blk w.heap.size #[a, b, c, d] 28 u
  xo : Blk (w.heap.size + 1) #[.slice none 0 0, .slice none 0 0, .slice none 0 0, .slice none 0 0] 28 u
  xt : Blk gT #[t0, t1, t2, t3] 28 u
  gt : w.heap.size + 1 < gT
theorem Blk.fou {g : Nat} {a b c d : Value} {t : TypeId} {w : World} (h : Blk g #[a, b, c, d] t w) :
    (w.cell? ⟨g, 0, none⟩ = some a ∧ w.cell? ⟨g, 1, none⟩ = some b ∧ w.cell? ⟨g, 2, none⟩ = some c ∧ w.cell? ⟨g, 3, none⟩ = some d) ∧
    (w.frozen? ⟨g, 0, none⟩ = false ∧ w.frozen? ⟨g, 1, none⟩ = false ∧ w.frozen? ⟨g, 2, none⟩ = false ∧ w.frozen? ⟨g, 3, none⟩ = false) :=
  ⟨⟨Blk.cell h 0, Blk.cell h 1, Blk.cell h 2, Blk.cell h 3⟩, Blk.free h 0, Blk.free h 1, Blk.free h 2, Blk.free h 3⟩
section
variable {w w1 u u' : World} {a b c d t0 t1 t2 t3 : Value} {gT : Nat}
theorem es_new (bb : Below w.heap.size w w1) (xi : Blk w.heap.size #[a, b, c, d] 28 w1) (xo : Blk (w.heap.size + 1) #[.slice none 0 0, .slice none 0 0, .slice none 0 0, .slice none 0 0] 28 w1) (hs : w1.heap.size = w.heap.size + 2) : ES w a b c d w1.heap.size t0 t1 t2 t3 ((w1.alloc (.cells #[t0, t1, t2, t3] 28)).drew) := by
  have b2 : Below w1.heap.size w1 ((w1.alloc (.cells #[t0, t1, t2, t3] 28)).drew) := Below.drew (below_alloc (Below.refl _ _) _)
  exact ⟨below_next' bb b2, xi.after b2, xo.after b2, Blk.new w1 #[t0, t1, t2, t3] 28 rfl, by omega⟩
theorem es_set (bb : Below w.heap.size w w1) (xi : Blk w.heap.size #[a, b, c, d] 28 w1) (xo : Blk (w.heap.size + 1) #[.slice none 0 0, .slice none 0 0, .slice none 0 0, .slice none 0 0] 28 w1) (hs : w1.heap.size = w.heap.size + 2) : ES w a b c d w1.heap.size t0 t1 t2 t3 (fou ((w1.alloc (.cells #[.slice none 0 0, .slice none 0 0, .slice none 0 0, .slice none 0 0] 28)).drew) w1.heap.size t0 t1 t2 t3) := by
  have b2 : Below w1.heap.size w1 (fou ((w1.alloc (.cells #[.slice none 0 0, .slice none 0 0, .slice none 0 0, .slice none 0 0] 28)).drew) w1.heap.size t0 t1 t2 t3) := fou_b (Below.drew (below_alloc (Below.refl _ _) _)) (Nat.le_refl _) _ _ _ _
  exact ⟨below_next' bb b2, xi.after b2, xo.after b2, fou_blk (show Blk w1.heap.size #[.slice none 0 0, .slice none 0 0, .slice none 0 0, .slice none 0 0] 28 ((w1.alloc (.cells #[.slice none 0 0, .slice none 0 0, .slice none 0 0, .slice none 0 0] 28)).drew) from Blk.new w1 #[.slice none 0 0, .slice none 0 0, .slice none 0 0, .slice none 0 0] 28 rfl) _ _ _ _, by omega⟩
theorem ES.after (h : ES w a b c d gT t0 t1 t2 t3 u) (k : Below u.heap.size u u') : ES w a b c d gT t0 t1 t2 t3 u' := ⟨below_next' h.below k, h.xi.after k, h.xo.after k, h.xt.after k, h.gt⟩
structure EJ (w : World) (B : Nat) (a b c d : Value) (gT : Nat) (t0 t1 t3 : Value) (L0 : List IR) (j : Nat) (v : Value) (L' : List IR) (K : Nat → Prop) (u : World) : Prop where
  s : ES w a b c d gT t0 t1 v t3 u
  gb : gT < B ∧ B ≤ u.heap.size
  row : u.ownsRow B 82 1 v j (irC L')
  len : L'.length = j
  kb : ∀ x, K x → B ≤ x ∧ x < u.heap.size ∧ v.ownBlock ≠ some x
  rows : ∀ u', (∀ x, K x → u'.heap[x]? = u.heap[x]?) → ∀ k, k < j → RowC u' (irAt L' k)
  its : L'.map (·.l) = (L0.take j).map fun r => eRow r.l.length r.l
  cap : ∀ k, k < j → (irAt L' k).l.length ≤ (irAt L' k).c ∧ (irAt L' k).c ≤ maxLen
theorem EJ.after {B : Nat} {L0 L' : List IR} {j : Nat} {v : Value} {K : Nat → Prop} (h : EJ w B a b c d gT t0 t1 t3 L0 j v L' K u) (k : Below u.heap.size u u') : EJ w B a b c d gT t0 t1 t3 L0 j v L' K u' :=
  ⟨h.s.after k, ⟨h.gb.1, Nat.le_trans h.gb.2 k.size⟩, own_after h.row k, h.len, fun x hx => ⟨(h.kb x hx).1, Nat.lt_of_lt_of_le (h.kb x hx).2.1 k.size, (h.kb x hx).2.2⟩, fun u2 hu => h.rows u2 (fun x hx => (hu x hx).trans (k.block x (h.kb x hx).2.1)), h.its, h.cap⟩
theorem irAt_app {L : List IR} {x : IR} {k : Nat} : irAt (L ++ [x]) k = if k < L.length then irAt L k else if k = L.length then x else IR.zero := by
  unfold irAt
  rw [List.getD_eq_getElem?_getD, List.getD_eq_getElem?_getD, List.getElem?_append]
  split
  · rfl
  · rename_i h
    by_cases h2 : k = L.length
    · rw [if_pos h2, h2, Nat.sub_self]; rfl
    · rw [if_neg h2, List.getElem?_eq_none (by simp; omega)]; rfl
theorem EJ.next {B : Nat} {L0 L' : List IR} {j : Nat} {v : Value} {K : Nat → Prop} (h : EJ w B a b c d gT t0 t1 t3 L0 j v L' K u) (k : Below u.heap.size u u') (hj : j < L0.length) (hj2 : j ≤ 1000) (hw : w.heap.size ≤ B)
    {A : Option Addr} {m cp : Nat} (hm : m = (eRow (irAt L0 j).l.length (irAt L0 j).l).length) (o : u'.ownsRow u.heap.size 84 2 (.slice A m cp) m (iC (eRow (irAt L0 j).l.length (irAt L0 j).l))) :
    ∃ v' u2, (Builtin.append_ #[25, 25] 25 #[v, .slice (some ⟨u'.heap.size, 0, none⟩) 1 1]).run Tryz.prog (u'.alloc (.cells #[.slice A m cp] 82)) = .ok v' u2 ∧
      (u2.cell? ⟨gT, 2, none⟩ = some v ∧ u2.frozen? ⟨gT, 2, none⟩ = false) ∧ ∃ L2 K2, EJ w B a b c d gT t0 t1 t3 L0 (j + 1) v' L2 K2 (u2.setCell ⟨gT, 2, none⟩ v') := by
  have h1 := h.after k
  have b1 := below_alloc (Below.refl u'.heap.size u') (.cells #[.slice A m cp] 82)
  have h2 := h1.after b1
  have o2 := own_after o b1
  obtain ⟨v', u2, hr, ho, hg, hat⟩ := run_rowR h2.row h2.len.symm (by omega) h2.gb.2 ⟨A, cp, eRow (irAt L0 j).l.length (irAt L0 j).l⟩ (b := u'.heap.size) (by unfold irV; rw [← hm]; exact Blk.new u' _ _ rfl)
  have hcur : ∀ x, x < (u'.alloc (.cells #[.slice A m cp] 82)).heap.size → v.ownBlock ≠ some x → u2.heap[x]? = (u'.alloc (.cells #[.slice A m cp] 82)).heap[x]? := fun x hx hne => hg.block x hx (fun e => hne e.symm)
  have hrow : ∀ x, v.ownBlock = some x → B ≤ x := fun x hx => (h2.row.lt x hx).1
  have hneB : ∀ x, x < B → v.ownBlock ≠ some x := fun x hx e => by have := hrow x e; omega
  have lB := h2.gb.2
  have gtB := h2.gb.1
  have hgt := h2.s.gt
  have keepB : ∀ {g : Nat} {cs : Array Value} {t : TypeId}, g < B → Blk g cs t (u'.alloc (.cells #[.slice A m cp] 82)) → Blk g cs t u2 := fun hgB hb => hb.same (hcur _ (by omega) (hneB _ hgB))
  have xt2 := keepB gtB h2.s.xt
  have hsz : (u2.setCell ⟨gT, 2, none⟩ v').heap.size = u2.heap.size := setCell_size _ _ _
  have oB : ∀ x, (Value.slice A m cp).ownBlock = some x → u.heap.size ≤ x ∧ x < u'.heap.size := fun x hx => o.lt x hx
  have rowlt : ∀ x, v.ownBlock = some x → x < u.heap.size := fun x hx => (h.row.lt x hx).2
  have usz := k.size
  have asz : (u'.alloc (.cells #[.slice A m cp] 82)).heap.size = u'.heap.size + 1 := by simp
  have stay : ∀ x, x ≠ gT → (u2.setCell ⟨gT, 2, none⟩ v').heap[x]? = u2.heap[x]? := fun x hx => Below.heap_setCell _ _ _ _ hx
  have ul := h.gb.2
  refine ⟨v', u2, hr, ⟨Blk.cell xt2 2, Blk.free xt2 2⟩, L' ++ [⟨A, cp, eRow (irAt L0 j).l.length (irAt L0 j).l⟩], fun x => K x ∨ (Value.slice A m cp).ownBlock = some x, ⟨⟨?_, ?_, ?_, ?_, hgt⟩, ⟨gtB, by rw [hsz]; exact Nat.le_trans lB hg.size⟩, ?_, ?_, ?_, ?_, ?_, ?_⟩⟩
  · have q := ((h2.s.below.grown hg (Nat.le_trans hw lB) (fun x hx => Nat.le_trans hw (hrow x hx))))
    exact q.setCell (p := ⟨gT, 2, none⟩) (by show w.heap.size ≤ gT; omega) _
  · exact (keepB (by omega) h2.s.xi).same (stay _ (by omega))
  · exact (keepB (by omega) h2.s.xo).same (stay _ (by omega))
  · have q := Blk.set xt2 2 v'
    exact q
  · exact own_same ho (fun x hx => stay x (by
      rcases hat with e | e
      · have := hrow x (by rw [← e]; exact hx); omega
      · rw [e] at hx; injection hx with hx; omega))
  · rw [List.length_append, List.length_singleton, h.len]
  · intro x hx
    rw [hsz]
    have hgz := hg.size
    rcases hx with hx | hx
    · have q := h.kb x hx
      refine ⟨q.1, by omega, fun e => ?_⟩
      rcases hat with e2 | e2
      · exact q.2.2 (by rw [← e2]; exact e)
      · rw [e2] at e; injection e with e; omega
    · have q := oB x hx
      refine ⟨by omega, by omega, fun e => ?_⟩
      rcases hat with e2 | e2
      · have := rowlt x (by rw [← e2]; exact e); omega
      · rw [e2] at e; injection e with e; omega
  · intro u4 hu4 i hi
    have same : ∀ x, x < u'.heap.size → B ≤ x → v.ownBlock ≠ some x → (u2.setCell ⟨gT, 2, none⟩ v').heap[x]? = u'.heap[x]? := fun x hx hB hne =>
      (stay x (by omega)).trans ((hcur x (by omega) hne).trans (b1.block x hx))
    rw [irAt_app, h.len]
    by_cases hij : i < j
    · rw [if_pos hij]
      exact h1.rows u4 (fun x hx => (hu4 x (.inl hx)).trans (same x (h1.kb x hx).2.1 (h1.kb x hx).1 (h1.kb x hx).2.2)) i hij
    · rw [if_neg hij, if_pos (by omega)]
      refine own_rowC (B := u.heap.size) (e := 84) hm ?_
      exact own_same o (fun x hx => (hu4 x (.inr hx)).trans (same x (oB x hx).2 (Nat.le_trans ul (oB x hx).1) (fun e => by have := rowlt x e; have := (oB x hx).1; omega)))
  · rw [List.map_append, h.its, List.map_singleton, List.take_add_one, List.getElem?_eq_getElem hj]
    simp only [Option.toList_some, List.map_append, List.map_singleton]
    have e : irAt L0 j = L0[j] := by
      unfold irAt
      rw [List.getD_eq_getElem?_getD, List.getElem?_eq_getElem hj]
      rfl
    rw [e]
  · intro i hi
    rw [irAt_app, h.len]
    by_cases hij : i < j
    · rw [if_pos hij]
      exact h.cap i hij
    · rw [if_neg hij, if_pos (by omega)]
      have q := own_caps o
      rw [hm] at q
      exact q
end
theorem bAt_takeM {l : List Int} {n k : Nat} (h : k < n) : bAt (l.take n) k = bAt l k := by
  unfold bAt
  rw [List.getD_eq_getElem?_getD, List.getD_eq_getElem?_getD, List.getElem?_take, if_pos h]
theorem BytS.takeM {w : World} {A : Option Addr} {b : List Int} (h : BytS w A b) (n : Nat) : BytS w A (b.take n) := fun hl => by
  rw [List.length_take] at hl
  obtain ⟨g, o, e, hg, hc⟩ := h (by omega)
  refine ⟨g, o, e, hg, fun k hk => ?_⟩
  rw [List.length_take] at hk
  rw [bAt_takeM (by omega)]
  exact hc k (by omega)
theorem NumS.takeM {w : World} {A : Option Addr} {b : List Int} (h : NumS w A b) (n : Nat) : NumS w A (b.take n) := fun hl => by
  rw [List.length_take] at hl
  obtain ⟨g, o, e, hg, hc⟩ := h (by omega)
  refine ⟨g, o, e, hg, fun k hk => ?_⟩
  rw [List.length_take] at hk
  rw [bAt_takeM (by omega)]
  exact hc k (by omega)
theorem DefS.takeM {w : World} {A : Option Addr} {D : List Df} (h : DefS w A D) (n : Nat) : DefS w A (D.take n) := fun hl => by
  rw [List.length_take] at hl
  obtain ⟨g, o, e, hg, hc⟩ := h (by omega)
  refine ⟨g, o, e, hg, fun k hk => ?_⟩
  rw [List.length_take] at hk
  have q : dAt (D.take n) k = dAt D k := by
    unfold dAt
    rw [List.getD_eq_getElem?_getD, List.getD_eq_getElem?_getD, List.getElem?_take, if_pos (by omega)]
  rw [q]
  exact hc k (by omega)
theorem OkB.takeM {b : List Int} (h : OkB b) (n : Nat) : OkB (b.take n) := fun k hk => by
  rw [List.length_take] at hk
  rw [bAt_takeM (by omega)]
  exact h k (by omega)
theorem OkN.takeM {b : List Int} (h : OkN b) (n : Nat) : OkN (b.take n) := fun k hk => by
  rw [List.length_take] at hk
  rw [bAt_takeM (by omega)]
  exact h k (by omega)
theorem map_l {L' L0 : List IR} {j k : Nat} (h : L'.map (·.l) = (L0.take j).map fun r => eRow r.l.length r.l) (hj : j ≤ L0.length) (hk : k < j) (hl : L'.length = j) : (irAt L' k).l = eRow (irAt L0 k).l.length (irAt L0 k).l := by
  have q := congrArg (fun l : List (List Itm) => l[k]?) h
  simp only [List.getElem?_map] at q
  rw [List.getElem?_take, if_pos hk, List.getElem?_eq_getElem (by omega), List.getElem?_eq_getElem (by omega)] at q
  simp only [Option.map_some, Option.some.injEq] at q
  have e1 : irAt L' k = L'[k] := by unfold irAt; rw [List.getD_eq_getElem?_getD, List.getElem?_eq_getElem (by omega)]; rfl
  have e2 : irAt L0 k = L0[k] := by unfold irAt; rw [List.getD_eq_getElem?_getD, List.getElem?_eq_getElem (by omega)]; rfl
  rw [e1, e2]
  exact q
theorem EJ.done {w u : World} {E : EV} {B gT j : Nat} {v a b c d : Value} {L' : List IR} {K : Nat → Prop} (hE : EnvS w E) (hok : E.raw)
    (h : EJ w B a b c d gT (.slice E.ca (E.ctx.take 100).length E.cc) (.slice E.da (E.D.take 10).length E.dc) (.slice E.na (E.dr.take 100).length E.nc) E.L j v L' K u) (hw : w.heap.size + 1 < B) (hj : E.L.take j = E.L.take 10) (hjn : j ≤ E.L.length) :
    ∃ ia ic, v = .slice ia j ic ∧ L'.length = j ∧ EnvW E w (.returned (.agg #[.slice E.ca (E.ctx.take 100).length E.cc, .slice E.da (E.D.take 10).length E.dc, .slice ia j ic, .slice E.na (E.dr.take 100).length E.nc])) (fou u (w.heap.size + 1) (.slice E.ca (E.ctx.take 100).length E.cc) (.slice E.da (E.D.take 10).length E.dc) v (.slice E.na (E.dr.take 100).length E.nc)) := by
  obtain ⟨ia, ic, rfl, h1, h2⟩ := own_slice h.row
  have hB : Below w.heap.size w (fou u (w.heap.size + 1) (.slice E.ca (E.ctx.take 100).length E.cc) (.slice E.da (E.D.take 10).length E.dc) (.slice ia j ic) (.slice E.na (E.dr.take 100).length E.nc)) := fou_b h.s.below (by omega) _ _ _ _
  have st : ∀ x, B ≤ x → (fou u (w.heap.size + 1) (.slice E.ca (E.ctx.take 100).length E.cc) (.slice E.da (E.D.take 10).length E.dc) (.slice ia j ic) (.slice E.na (E.dr.take 100).length E.nc)).heap[x]? = u.heap[x]? := fun x hx => by
    have hne : x ≠ w.heap.size + 1 := by omega
    unfold fou
    rw [Below.heap_setCell _ _ _ _ hne, Below.heap_setCell _ _ _ _ hne, Below.heap_setCell _ _ _ _ hne, Below.heap_setCell _ _ _ _ hne]
  generalize fou u (w.heap.size + 1) (.slice E.ca (E.ctx.take 100).length E.cc) (.slice E.da (E.D.take 10).length E.dc) (.slice ia j ic) (.slice E.na (E.dr.take 100).length E.nc) = wf at *
  have hEf := hE.after hB
  have rows := h.rows wf (fun x hx => st x (h.kb x hx).1)
  have row := own_same (w' := wf) h.row (fun x hx => st x (h.row.lt x hx).1)
  have hl := h.len
  have el : ∀ k, k < j → (irAt L' k).l = eRow (irAt E.L k).l.length (irAt E.L k).l := fun k hk => map_l h.its hjn hk hl
  refine ⟨ia, ic, rfl, hl, ia, ic, L', (by unfold envV cutE; dsimp only; rw [hl]), ⟨hEf.c.takeM 100, hEf.d.takeM 10, fun h0 => ?_, hEf.n.takeM 100⟩, ⟨⟨hok.c.1.takeM 100, ?_, hok.c.2.2⟩, ⟨?_, hok.d.2⟩, ⟨fun k hk => ?_, ?_, h2⟩, ⟨hok.n.1.takeM 100, ?_, ?_, hok.n.2.2⟩⟩, ?_, hB⟩
  · have h0' : 0 < j := by rw [← hl]; exact h0
    obtain ⟨g, e, hg1, hg2⟩ := own_addr row h0'
    subst e
    refine ⟨g, 0, rfl, hg2, fun i hi => ?_⟩
    have hi' : i < j := by rw [← hl]; exact hi
    refine ⟨?_, fun hlen => ?_⟩
    · rw [Nat.zero_add, row.cellAt i (by omega), irC_at L' i hi]
      rfl
    · obtain ⟨g3, e3, hg3, hc3⟩ := rows i hi' hlen
      refine ⟨g3, 0, e3, hg3, fun k hk => ⟨hc3 k hk, ?_⟩⟩
      have hk2 : k < (irAt L' i).l.length := hk
      show BytS wf (xAt (irAt L' i).l k).a (xAt (irAt L' i).l k).k ∧ BytS wf (xAt (irAt L' i).l k).b (xAt (irAt L' i).l k).v
      rw [el i hi'] at hk2 ⊢
      obtain ⟨p, hp, ep⟩ := eRow_mem hk2
      rw [ep]
      obtain ⟨_, _, _, _, hcI⟩ := hEf.i (by omega)
      obtain ⟨_, _, _, _, hcK⟩ := (hcI i (by omega)).2 (by omega)
      exact (hcK p hp).2
  · show (E.ctx.take 100).length ≤ E.cc
    have := hok.c.2.1
    rw [List.length_take]; omega
  · show (E.D.take 10).length ≤ E.dc
    have := hok.d.1
    rw [List.length_take]; omega
  · have hk' : k < j := by rw [← hl]; exact hk
    show IrOk (irAt L' k)
    refine ⟨by rw [el k hk']; have := eRow_len (irAt E.L k).l.length (irAt E.L k).l; omega, fun p hp => ?_, h.cap k hk'⟩
    rw [el k hk'] at hp ⊢
    obtain ⟨i, hi, ei⟩ := eRow_mem hp
    rw [ei]
    exact (hok.i.1 k (by omega)).1 i hi
  · show L'.length ≤ ic
    rw [hl]; exact h1
  · show (E.dr.take 100).length ≤ 100000
    rw [List.length_take]; omega
  · show (E.dr.take 100).length ≤ E.nc
    have := hok.n.2.1
    rw [List.length_take]; omega
  · rw [h.its, hj]
    rfl
end Go.Proofs.YtlbhffdpklbhfaaGreat
