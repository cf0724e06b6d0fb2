/-
  Texts, one behind the other: MachItems, MachRunP.
  Conditions: those that each theorem states.
-/
import Derived.Test.YtlbhffdpklbhfaaGreatPz45
import Derived.Test.YtlbhffdpklbhfaaGreatPz47
import Derived.Test.YtlbhffdpklbhfaaGreatPz8
import Derived.Test.YtlbhffdpklbhfaaGreatPz36
namespace Go.Proofs.YtlbhffdpklbhfaaGreat
open Go.RowKit
set_option maxRecDepth 100000
set_option linter.unusedVariables false
set_option linter.unusedSimpArgs false
structure MR where
  a : Option Addr
  c : Nat
  L : List Itm
def MR.zero : MR := ⟨none, 0, []⟩
def mrAt (L : List MR) (k : Nat) : MR := L.getD k MR.zero
def mrV (r : MR) : Value := .slice r.a r.L.length r.c
def mrC (L : List MR) : List Value := L.map mrV
theorem mrC_at (L : List MR) (k : Nat) (h : k < L.length) : (mrC L)[k]? = some (mrV (mrAt L k)) := by
  unfold mrC mrAt
  rw [List.getElem?_map, List.getD_eq_getElem?_getD, List.getElem?_eq_getElem h]
  rfl
theorem mrAt_set {L : List MR} {k j : Nat} (hk : k < L.length) (y : MR) : mrAt (L.set k y) j = if j = k then y else mrAt L j := by
  unfold mrAt
  rw [List.getD_eq_getElem?_getD, List.getD_eq_getElem?_getD, List.getElem?_set]
  by_cases h : k = j
  · subst h
    rw [if_pos rfl, if_pos hk, if_pos rfl]
    rfl
  · rw [if_neg h, if_neg (fun e => h e.symm)]
structure MpR (B B2 : Nat) (u : World) (A : Option Addr) (c : Nat) (L : List MR) : Prop where
  row : u.ownsRow B 82 1 (.slice A L.length c) L.length (mrC L)
  low : ∀ x, (Value.slice A L.length c).ownBlock = some x → x < B2
  own : ∀ k, k < L.length → ItR B2 u (mrV (mrAt L k)) (mrAt L k).L
  le : B ≤ B2
theorem MpR.after {B B2 : Nat} {u u' : World} {A : Option Addr} {c : Nat} {L : List MR} (h : MpR B B2 u A c L) (b : Below u.heap.size u u') : MpR B B2 u' A c L :=
  ⟨own_after h.row b, h.low, fun k hk => (h.own k hk).after b, h.le⟩
theorem ItR.base {B B' : Nat} {u : World} {v : Value} {L : List Itm} (h : ItR B u v L) (hb : B' ≤ B) : ItR B' u v L :=
  ⟨own_base h.row (fun k hk => Nat.le_trans hb (h.row.lt k hk).1), h.byt, fun j hj g o => ⟨fun e => Nat.le_trans hb ((h.low j hj g o).1 e), fun e => Nat.le_trans hb ((h.low j hj g o).2 e)⟩, h.sep⟩
def mItems (S : MS) : List (List It) := (List.range S.D.length).map fun i : Nat => tItems S.T S.M (i : Int)
theorem make_rows (w : World) (n : Nat) (hn : n ≤ 1000) : (Instr.makeSlice 25 (.int .i64 (n : Int)) (.int .i64 (n : Int))).run Tryz.prog w = .ok (.slice (some ⟨w.heap.size, 0, none⟩) n n) (w.alloc (.cells (mrC (List.replicate n MR.zero)).toArray 82)) := by
  obtain ⟨i, hi, hz, h1, h2⟩ := info_parts (show (Tryz.prog.info? 82).map (fun i => (i.zero, i.size, i.bytes)) = some (some (.slice none 0 0), 1, 24) by kernel_rfl)
  have hr := run_make (P := Tryz.prog) w 25 82 i (.slice none 0 0) Tryz.underlying25 hi hz .i64 .i64 n n (by omega) (Int.le_refl _) (by rw [h2]; omega) (by omega)
  rw [hr, h1]
  simp only [Int.toNat_natCast, Nat.mul_one]
  have e : madeCells (Value.slice none 0 0).cells n = (mrC (List.replicate n MR.zero)).toArray := by
    apply Array.ext'
    have e2 : mrC (List.replicate n MR.zero) = List.replicate n (Value.slice none 0 0) := by
      unfold mrC
      rw [List.map_replicate]
      rfl
    rw [e2]
    exact toList_madeCells_one _ _
  rw [e]
structure MpJ (w : World) (B2 g n : Nat) (S : MS) (j : Nat) (L : List MR) (u : World) : Prop where
  below : Below w.heap.size w u
  row : u.ownsRow w.heap.size 82 1 (.slice (some ⟨g, 0, none⟩) n n) n (mrC L)
  len : L.length = n
  low : g < B2 ∧ w.heap.size ≤ g
  le : w.heap.size ≤ B2 ∧ B2 ≤ u.heap.size
  own : ∀ k, k < j → ItR B2 u (mrV (mrAt L k)) (mrAt L k).L ∧ itL (mrAt L k).L = tItems S.T S.M (k : Int)
theorem MpJ.next {w u u' : World} {B2 g n : Nat} {S : MS} {j : Nat} {L : List MR} (h : MpJ w B2 g n S j L u) (hj : j < n) (b : Below u.heap.size u u') {A : Option Addr} {c : Nat} {K : List Itm} (hk : ItR u.heap.size u' (.slice A K.length c) K) (he : itL K = tItems S.T S.M (j : Int)) :
    MpJ w B2 g n S (j + 1) (L.set j ⟨A, c, K⟩) (u'.setCell ⟨g, j, none⟩ (.slice A K.length c)) := by
  have hl : j < L.length := by rw [h.len]; exact hj
  have hs : ∀ x, B2 ≤ x → x < u'.heap.size → (u'.setCell ⟨g, j, none⟩ (.slice A K.length c)).heap[x]? = u'.heap[x]? := fun x hx _ => Below.heap_setCell _ _ _ _ (fun e => by
    have := h.low.1
    have e2 : g = x ∨ x = g := by first | exact .inl e | exact .inr e
    omega)
  have hz : u'.heap.size ≤ (u'.setCell ⟨g, j, none⟩ (.slice A K.length c)).heap.size := by rw [setCell_size]; exact Nat.le_refl _
  refine ⟨(below_next' h.below b).setCell (p := ⟨g, j, none⟩) h.low.2 _, ?_, by rw [List.length_set]; exact h.len, h.low, ⟨h.le.1, Nat.le_trans h.le.2 (Nat.le_trans b.size hz)⟩, fun k hk2 => ?_⟩
  · have e : (mrC L).set j (.slice A K.length c) = mrC (L.set j ⟨A, c, K⟩) := by unfold mrC; rw [List.map_set]; rfl
    rw [← e]
    exact ((own_after h.row b).stored _ _).1
  · by_cases e : k = j
    · subst e
      rw [mrAt_set hl, if_pos rfl]
      exact ⟨(ItR.base hk h.le.2).stay hz hs, he⟩
    · rw [mrAt_set hl, if_neg e]
      obtain ⟨q1, q2⟩ := h.own k (by omega)
      exact ⟨(q1.after b).stay hz hs, q2⟩
theorem MpJ.end_ {w u : World} {B2 g n : Nat} {S : MS} {L : List MR} (h : MpJ w B2 g n S n L u) (hn : n = S.D.length) : MpR w.heap.size B2 u (some ⟨g, 0, none⟩) n L ∧ L.map (fun r => itL r.L) = mItems S := by
  have hl := h.len
  refine ⟨⟨by rw [hl]; exact h.row, fun x hx => ?_, fun k hk => (h.own k (by omega)).1, h.le.1⟩, ?_⟩
  · have e3 : g = x := by simpa [Value.ownBlock] using hx
    rw [← e3]; exact h.low.1
  · unfold mItems
    apply List.ext_getElem?
    intro i
    rw [List.getElem?_map, List.getElem?_map]
    by_cases hi : i < n
    · rw [List.getElem?_eq_getElem (by omega), List.getElem?_range (by omega)]
      have q := (h.own i hi).2
      unfold mrAt at q
      rw [List.getD_eq_getElem?_getD, List.getElem?_eq_getElem (by omega)] at q
      simp only [Option.map_some]
      exact congrArg some q
    · rw [List.getElem?_eq_none (by omega), List.getElem?_eq_none (by rw [List.length_range]; omega)]
      rfl
set_option maxHeartbeats 8000000 in
theorem m11_items (w : World) (g : Nat) (S : MS) (H : Nat → Prop) (h : (sysX g S).R w H) :
    Calls Tryz.prog 39 #[.pointer (some ⟨g, 0, none⟩)] w (fun e w' => ∃ A c L B2, e = .returned (.slice A S.D.length c) ∧ MpR w.heap.size B2 w' A c L ∧ L.map (fun r => itL r.L) = mItems S ∧ Below w.heap.size w w') := by
  have hok := sysX_ok h
  obtain ⟨gm, gt, FT, cm, ct, hTT, hTH, -⟩ := sysX_map h
  have CT := Lib.hid fun u (b : Below w.heap.size w u) => cell_on ct b
  have IT := Lib.hid fun (j : Nat) u (b : Below w.heap.size w u) => by
    obtain ⟨F, G, hD, _⟩ := (sysT gt gm S.T S.M).after hTT b
    exact q9_Items u gt gm S.T S.M F G (j : Int) hD (by have := hok.D.1; have := hok.D.2.1; omega)
  obtain ⟨A0, _, hb0, _, _⟩ := sysX_blk h
  obtain ⟨-, c1, -⟩ := xc_head hb0
  have hD8 : S.D.length ≤ 8 := hok.D.1
  have MK := Lib.hid (make_rows w S.D.length (by omega))
  have J0 : Hid (MpJ w (w.heap.size + 1) w.heap.size S.D.length S 0 (List.replicate S.D.length MR.zero) (w.alloc (.cells (mrC (List.replicate S.D.length MR.zero)).toArray 82))) := by
    have b := below_alloc (Below.refl w.heap.size w) (.cells (mrC (List.replicate S.D.length MR.zero)).toArray 82)
    refine Lib.hid ⟨b, own_full (Blk.new w _ _ rfl) (by simp [mrC]) (by omega) (Nat.le_refl _), by simp, ⟨by omega, Nat.le_refl _⟩, ⟨by omega, by simp⟩, fun k hk => absurd hk (Nat.not_lt_zero _)⟩
  have EN := Lib.hid fun B2 g2 L u (q : MpJ w B2 g2 S.D.length S S.D.length L u) => q.end_ rfl
  clear h hok cm ct hTT hTH hb0
  generalize hn : S.D.length = n at *
  have HL : Hid (∀ j L u, MpJ w (w.heap.size + 1) w.heap.size n S j L u → L.length = n) := Lib.hid fun j L u q => q.len
  clear hn
  generalize hw1 : w.alloc (.cells (mrC (List.replicate n MR.zero)).toArray 82) = w1 at *
  clear hw1
  have mk := MK.out
  clear MK
  go_enter Tryz.func39, Tryz.ntmps39
  go_wp2_with fail
  go_loopw [13] (fun iv wr => ∃ (j : Nat) (L : List MR), iv = .int .i64 j ∧ j ≤ n ∧ Hid (MpJ w (w.heap.size + 1) w.heap.size n S j L wr)) (fun iv wr => n - (intOf iv).toNat)
  case atStart => exact ⟨0, _, rfl, by omega, J0⟩
  case round =>
    obtain ⟨j, L, rfl, hj, J⟩ := hrel
    by_cases hlt : (j : Int) < n
    · have hjn : j < n := by omega
      have t0 := CT.out wr J.out.below
      have IT1 := Lib.hid (IT.out j wr J.out.below)
      go_wp2_with fail
      refine (IT1.out).mono ?_
      rintro e w3 ⟨a3, c3, K, rfl, hK, hR, b3⟩
      have hlen : K.length = (tItems S.T S.M (j : Int)).length := by rw [← hK]; unfold itL; rw [List.length_map]
      rw [← hlen] at hR ⊢
      have f0 := (own_after J.out.row b3).frozenAt j
      have z0 : w3.cell? ⟨w.heap.size, j, none⟩ = some (mrV (mrAt L j)) := by
        rw [(own_after J.out.row b3).cellAt j (by omega)]
        exact mrC_at L j (by rw [J.out.len]; exact hjn)
      have NX := Lib.hid (J.out.next hjn b3 hR hK)
      generalize mrV (mrAt L j) = mv at *
      clear hR hK b3 IT1 t0 J hlen
      go_wp2_with fail
      go_round
      case rel => exact ⟨j + 1, _, by go_num, by omega, NX⟩
      case measure => simp [intOf]; omega
    · have hjn : j = n := by omega
      subst hjn
      go_wp2_with fail
      go_ret
      obtain ⟨q1, q2⟩ := EN.out _ _ L wr J.out
      have q3 := J.out.below
      first
        | exact ⟨_, _, L, _, rfl, q1, q2, q3⟩
        | exact ⟨_, _, rfl, L, ⟨_, q1⟩, q2, q3⟩
        | exact ⟨_, _, rfl, L, _, q1, q2, q3⟩
def pRunF (n : Int) : Nat → MS → MS
  | 0, S => S
  | k + 1, S => if S.over then S else if (S.steps : Int) < n then pRunF n k (pStep S).1 else S
def pRun (n : Int) (S : MS) : MS := pRunF n (n - S.steps).toNat S
def MS.can (S : MS) : Prop := S.over = false → S.calls.length ≤ S.steps ∧ S.M.length ≤ 20000 + S.steps
theorem runF_stop {n : Int} {S : MS} (h : S.over = true ∨ n ≤ S.steps) (k : Nat) : pRunF n k S = S := by
  cases k with
  | zero => rfl
  | succ k =>
    unfold pRunF
    split
    · rfl
    · rename_i ho
      rcases h with h | h
      · exact absurd h ho
      · rw [if_neg (by omega)]
theorem run_stop {n : Int} {S : MS} (h : S.over = true ∨ n ≤ S.steps) : pRun n S = S := runF_stop h _
theorem step_steps {S : MS} (ho : S.over = false) : (pStep S).1.over = true ∨ (pStep S).1.steps = S.steps + 1 := by
  unfold pStep
  rw [ho, if_neg Bool.false_ne_true]
  split
  · right
    show (pDo S).S.steps + 1 = _
    rw [(pDo_same S).2.1]
  · left
    rfl
theorem run_step {n : Int} {S : MS} (ho : S.over = false) (hs : (S.steps : Int) < n) : pRun n S = pRun n (pStep S).1 := by
  obtain ⟨k, hk⟩ : ∃ k, (n - S.steps).toNat = k + 1 := ⟨(n - S.steps).toNat - 1, by omega⟩
  have e : pRun n S = pRunF n k (pStep S).1 := by
    unfold pRun
    rw [hk]
    show (if S.over then S else if (S.steps : Int) < n then pRunF n k (pStep S).1 else S) = _
    rw [ho, if_neg Bool.false_ne_true, if_pos hs]
  rw [e]
  rcases step_steps ho with h | h
  · rw [runF_stop (.inl h), run_stop (.inl h)]
  · unfold pRun
    rw [h, show (n - ((S.steps + 1 : Nat) : Int)).toNat = k by omega]
theorem run_end (n : Int) (S : MS) : (pRun n S).over = true ∨ n ≤ (pRun n S).steps := by
  generalize hk : (n - S.steps).toNat = k
  induction k generalizing S with
  | zero =>
    rw [run_stop (.inr (by omega))]
    exact .inr (by omega)
  | succ k ih =>
    cases ho : S.over
    · rw [run_step ho (by omega)]
      rcases step_steps ho with h | h
      · rw [run_stop (.inl h)]; exact .inl h
      · exact ih _ (by rw [h]; omega)
    · rw [run_stop (.inl ho)]; exact .inl ho
theorem run_run {k n : Int} (h : k ≤ n) (S : MS) : pRun n (pRun k S) = pRun n S := by
  generalize hm : (k - S.steps).toNat = m
  induction m generalizing S with
  | zero => rw [run_stop (n := k) (.inr (by omega))]
  | succ m ih =>
    cases ho : S.over
    · rw [run_step (n := k) ho (by omega), run_step (n := n) ho (by omega)]
      rcases step_steps ho with h2 | h2
      · rw [run_stop (n := k) (.inl h2)]
      · exact ih _ (by rw [h2]; omega)
    · rw [run_stop (n := k) (.inl ho)]
theorem mTells_size (S : MS) (c : Cl) : (mTells S c).M.length ≤ S.M.length + 1 := by
  unfold mTells
  split
  · exact Nat.le_succ _
  · split
    · exact (tPut_same S.T S.M c.map c.k c.v (bAt c.n 0)).2
    · split
      · exact Nat.le_succ _
      · split
        · exact Nat.le_succ _
        · split <;> exact Nat.le_succ _
theorem mCall_size (S : MS) (id : Int) : (mCall S id).1.calls.length ≤ S.calls.length + 1 ∧ (mCall S id).1.M.length ≤ S.M.length + 1 := by
  unfold mCall
  split
  · split
    · have q := mTells_size S { (mTolds S 0 (hS id).told Cl.zero).1 with id := id }
      unfold mDone
      split
      · refine ⟨?_, q⟩
        show (S.calls ++ [_]).length ≤ _
        rw [List.length_append, List.length_singleton]
        exact Nat.le_refl _
      · exact ⟨Nat.le_succ _, q⟩
    · exact ⟨Nat.le_succ _, Nat.le_succ _⟩
  · exact ⟨Nat.le_succ _, Nat.le_succ _⟩
theorem mStore_size (S : MS) (x : Ins) (v : Wh) : (mStore S x v).1.length = S.M.length := by
  unfold mStore
  split
  · split
    · split
      · split
        · exact pStore_lenM _ _ _ _
        · rfl
      · exact pStore_lenM _ _ _ _
    · rfl
  · rfl
theorem pDo_size (S : MS) : (pDo S).S.calls.length ≤ S.calls.length + 1 ∧ (pDo S).S.M.length ≤ S.M.length + 1 := by
  rw [pDo_eq]
  unfold pDoX
  split
  · split <;> exact ⟨Nat.le_succ _, Nat.le_succ _⟩
  · split
    · exact ⟨Nat.le_succ _, Nat.le_succ _⟩
    · split
      · exact ⟨Nat.le_succ _, Nat.le_succ _⟩
      · split
        · exact mCall_size S _
        · split
          · refine ⟨Nat.le_succ _, ?_⟩
            show (mStore S _ _).1.length ≤ _
            rw [mStore_size]
            exact Nat.le_succ _
          · split <;> exact ⟨Nat.le_succ _, Nat.le_succ _⟩
theorem step_can {S : MS} (ho : S.over = false) (h : S.can) : (pStep S).1.can := by
  obtain ⟨h1, h2⟩ := h ho
  obtain ⟨k1, k2⟩ := pDo_size S
  have k3 := (pDo_same S).2.1
  unfold pStep
  rw [ho, if_neg Bool.false_ne_true]
  split
  · intro _
    refine ⟨?_, ?_⟩
    · show (pDo S).S.calls.length ≤ (pDo S).S.steps + 1
      omega
    · show (pDo S).S.M.length ≤ 20000 + ((pDo S).S.steps + 1)
      omega
  · intro hf
    cases hf
theorem can_go {S : MS} (h : S.can) (ho : S.over = false) (hs : S.steps ≤ 50000) : S.go := ⟨(h ho).1, (h ho).2, hs⟩
theorem run_can (n : Int) (S : MS) (h : S.can) : (pRun n S).can := by
  generalize hk : (n - S.steps).toNat = k
  induction k generalizing S with
  | zero => rw [run_stop (.inr (by omega))]; exact h
  | succ k ih =>
    cases ho : S.over
    · rw [run_step ho (by omega)]
      rcases step_steps ho with h2 | h2
      · rw [run_stop (.inl h2)]; exact step_can ho h
      · exact ih _ (step_can ho h) (by rw [h2]; omega)
    · rw [run_stop (.inl ho)]; exact h
theorem step_same {S : MS} (ho : S.over = false) : ((pStep S).1.over = true ∧ (pStep S).1.steps = S.steps) ∨ (pStep S).1.steps = S.steps + 1 := by
  unfold pStep
  rw [ho, if_neg Bool.false_ne_true]
  split
  · right
    show (pDo S).S.steps + 1 = _
    rw [(pDo_same S).2.1]
  · left
    exact ⟨rfl, (pDo_same S).2.1⟩
theorem run_steps (n : Int) (S : MS) : ((pRun n S).steps : Int) ≤ n ∨ (pRun n S).steps = S.steps := by
  generalize hk : (n - S.steps).toNat = k
  induction k generalizing S with
  | zero => exact .inr (by rw [run_stop (.inr (by omega))])
  | succ k ih =>
    cases ho : S.over
    · rw [run_step ho (by omega)]
      rcases step_same ho with ⟨h2, h3⟩ | h2
      · exact .inr (by rw [run_stop (.inl h2), h3])
      · rcases ih _ (by rw [h2]; omega) with c | c
        · exact .inl c
        · left; rw [c, h2]; omega
    · exact .inr (by rw [run_stop (.inl ho)])
def mCode (S : MS) : Int := if S.over then S.why else 111
def mR0 (S : MS) : Int := if S.over && S.why == 0 then (rg S.r 0).1 else 0
end Go.Proofs.YtlbhffdpklbhfaaGreat
