/-
  P4.1, P4.2: of numbers that are known what arithmetic makes is known, and what is known of the lowest bits is theirs.
  Conditions: none beyond the row's own.
-/
import Derived.Test.YtkiekbkjhlbnhaaTnumBoxes
import Derived.Test.YtkiekbkjhlbnhaaRef02Eight
import Derived.Deep.RegionHeld3
namespace Go.Proofs.Ytkiekbkjhlbnhaa
open Go.RowKit
set_option linter.unusedVariables false

theorem of_to (x : BitVec 64) (w : World) : Calls Try.prog 15 #[uV x] w (Gives (.agg #[uV x, .int .u64 0]) w) := of_says x w
theorem cut_to (x : BitVec 64) (k : Int) (h1 : 1 ≤ k) (h2 : k ≤ 63) (w : World) : Calls Try.prog 22 #[.agg #[uV x, .int .u64 0], .int .i64 k] w (Gives (.agg #[uV (tLow x k.toNat), .int .u64 0]) w) := by
  have h := cut_says (x, 0#64) k w
  rw [cut_of x k h1 h2] at h
  exact h
/-- A width that is made of a byte, and its power of two. -/
theorem width_facts (width : Int) (h0 : 0 ≤ width) (x : BitVec 64) : ∃ (k P : Int) (L : BitVec 64), width % 63 + 1 = k ∧ 1 ≤ k ∧ k ≤ 63 ∧ IntKind.u64.wrap (2 ^ k.toNat) = P ∧ 1 ≤ P ∧ (x.toNat : Int).tmod P = (L.toNat : Int) ∧ L = tLow x k.toNat := by
  refine ⟨width % 63 + 1, 2 ^ (width % 63 + 1).toNat, tLow x (width % 63 + 1).toNat, rfl, by omega, by omega, ?_, (pow_le_64 _ (by omega)).1, ?_, rfl⟩
  · rw [IntKind.wrap_u64]; exact pow_lt_64 _ (by omega)
  · rw [low_int]; exact Int.tmod_eq_emod_of_nonneg (bv_rng x).1

set_option maxHeartbeats 4000000 in
theorem known_no (op : Int) (x y : BitVec 64) (width : Int) (w : World) (h0 : 0 ≤ width) (h1 : width ≤ 255) (h : tDok op (x, 0#64) (y, 0#64) = false) :
    Calls Try.prog 7 #[.int .u8 op, uV x, uV y, .int .u8 width] w (Fine w) := by
  have D : ∀ w, Calls Try.prog 24 #[.int .u8 op, .agg #[uV x, .int .u64 0], .agg #[uV y, .int .u64 0]] w (Gives (.tuple #[.agg #[.int .u64 0, .int .u64 0], .bool false]) w) :=
    do_to (a := (x, 0#64)) (b := (y, 0#64)) (t := (0#64, 0#64)) (by unfold tDo; rw [if_neg (by rw [h]; decide)]) h
  have D := Lib.hid D
  clear h
  have hm : width.tmod 63 = width % 63 := Int.tmod_eq_emod_of_nonneg h0
  obtain ⟨k, P, L, e1, e2, e3, e4, e5, e6, e7⟩ := width_facts width h0 x
  have C := Lib.hid (cut_to x k e2 e3)
  rw [← e7] at C
  clear e7
  have e8 : (P == 0) = false := beq_eq_false_iff_ne.mpr (by omega)
  have e9 : ¬ P = 0 := by omega
  go_enter Try.func7, Try.ntmps7
  go_wp2_with fail
  refine (tnum_shown _).mono ?_; rintro e w0 ⟨rfl, b0⟩
  go_wp2_with fail
  refine (of_to _ _).mono ?_; rintro e w1 ⟨rfl, b1⟩
  go_wp2_with fail
  refine (of_to _ _).mono ?_; rintro e w2 ⟨rfl, b2⟩
  go_wp2_with fail
  refine (D.out _).mono ?_; rintro e w3 ⟨rfl, b3⟩
  have X3 := Lib.hid (below_alloc (below_next' (below_next' (below_next' b0 b1) b2) b3) (.cells #[.int .u64 0, .int .u64 0] 24))
  clear b0 b1 b2 b3
  go_wp2_with fail
  generalize w3.alloc (.cells #[.int .u64 0, .int .u64 0] 24) = w4 at *
  have HB : Below w4.heap.size w4 w4.drew := Below.drew (Below.refl _ _)
  go_region_held3 (fun w' => True)
    (trivial)
    (first
      | (go_at_call 15; refine (of_to _ _).mono ?_; rintro e w6 ⟨rfl, hb6⟩; replace HB := below_next' HB hb6; clear hb6)
      | (go_at_call 22; refine (C.out _).mono ?_; rintro e w6 ⟨rfl, hb6⟩; replace HB := below_next' HB hb6; clear hb6))
  all_goals
    go_wp2_with fail
    go_ret
    exact ⟨rfl, below_next' X3.out HB⟩

set_option maxHeartbeats 4000000 in
theorem known_yes (op : Int) (x y : BitVec 64) (width : Int) (w : World) (h0 : 0 ≤ width) (h1 : width ≤ 255) (h : tDok op (x, 0#64) (y, 0#64) = true) :
    Calls Try.prog 7 #[.int .u8 op, uV x, uV y, .int .u8 width] w (Fine w) := by
  have D : ∀ w, Calls Try.prog 24 #[.int .u8 op, .agg #[uV x, .int .u64 0], .agg #[uV y, .int .u64 0]] w (Gives (.tuple #[.agg #[uV (bvDo op x y), .int .u64 0], .bool true]) w) :=
    do_to (a := (x, 0#64)) (b := (y, 0#64)) (t := (bvDo op x y, 0#64)) (do_known h) h
  have D := Lib.hid D
  have R := Lib.hid (ref8 h x y)
  clear h
  generalize bvDo op x y = z at *
  have hm : width.tmod 63 = width % 63 := Int.tmod_eq_emod_of_nonneg h0
  obtain ⟨k, P, L, e1, e2, e3, e4, e5, e6, e7⟩ := width_facts width h0 x
  have C := Lib.hid (cut_to x k e2 e3)
  rw [← e7] at C
  clear e7
  have e8 : (P == 0) = false := beq_eq_false_iff_ne.mpr (by omega)
  have e9 : ¬ P = 0 := by omega
  go_enter Try.func7, Try.ntmps7
  go_wp2_with fail
  refine (tnum_shown _).mono ?_; rintro e w0 ⟨rfl, b0⟩
  go_wp2_with fail
  refine (of_to _ _).mono ?_; rintro e w1 ⟨rfl, b1⟩
  go_wp2_with fail
  refine (of_to _ _).mono ?_; rintro e w2 ⟨rfl, b2⟩
  go_wp2_with fail
  refine (D.out _).mono ?_; rintro e w3 ⟨rfl, b3⟩
  have x3 := (Boxes.none_ (below_next' (below_next' (below_next' b0 b1) b2) b3)).new (z, 0#64)
  have X3 := Lib.hid (show Below w.heap.size w (w3.alloc (.cells #[uV z, .int .u64 0] 24)) from x3.1)
  have H : Hid (∀ wx : World, Below (w3.alloc (.cells #[uV z, .int .u64 0] 24)).heap.size (w3.alloc (.cells #[uV z, .int .u64 0] 24)) wx → wx.cell? ⟨w3.heap.size, 0, none⟩ = some (uV z) ∧ wx.cell? ⟨w3.heap.size, 1, none⟩ = some (.int .u64 0)) :=
    Lib.hid (fun (wx : World) (hx : Below _ _ wx) => ((x3.after hx).at_ (p := (w3.heap.size, (z, 0#64))) (by simp)).2)
  clear b0 b1 b2 b3 x3
  go_wp2_with fail
  refine (R.out _).mono ?_; rintro e w4 ⟨rfl, rfl⟩
  go_wp2_with fail
  generalize w3.heap.size = g at *
  generalize w3.alloc (.cells #[uV z, .int .u64 0] 24) = w4 at *
  have HB : Below w4.heap.size w4 w4.drew := Below.drew (Below.refl _ _)
  go_region_held3 (fun w' => w'.cell? ⟨g, 0, none⟩ = some (uV z) ∧ w'.cell? ⟨g, 1, none⟩ = some (.int .u64 0))
    (first | exact (Hid.out H) _ (by assumption) | exact (Hid.out H) _ (Below.drew (by assumption)))
    (first
      | (go_at_call 15; refine (of_to _ _).mono ?_; rintro e w6 ⟨rfl, hb6⟩; replace HB := below_next' HB hb6; clear hb6))
  all_goals
    have Y := Lib.hid (below_next' X3.out HB)
    clear HB H X3
    generalize hw6 : w6 = w5 at *
    have HB : Below w5.heap.size w5 w5.drew := Below.drew (Below.refl _ _)
    have X3 := Y
    go_wp2_with fail
    go_region_held3 (fun w' => True)
      (trivial)
      (first
        | (go_at_call 15; refine (of_to _ _).mono ?_; rintro e w6 ⟨rfl, hb6⟩; replace HB := below_next' HB hb6; clear hb6)
        | (go_at_call 22; refine (C.out _).mono ?_; rintro e w6 ⟨rfl, hb6⟩; replace HB := below_next' HB hb6; clear hb6))
    all_goals
      go_wp2_with fail
      go_ret
      exact ⟨rfl, below_next' X3.out HB⟩

theorem known_walk (op : Int) (x y : BitVec 64) (width : Int) (w : World) (h : 0 ≤ width ∧ width ≤ 255) : Calls Try.prog 7 #[.int .u8 op, uV x, uV y, .int .u8 width] w (Fine w) := by
  cases hd : tDok op (x, 0#64) (y, 0#64)
  · exact known_no op x y width w h.1 h.2 hd
  · exact known_yes op x y width w h.1 h.2 hd

end Go.Proofs.Ytkiekbkjhlbnhaa
