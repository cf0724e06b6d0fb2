/-
  P2.3: Div and Mod go together.
  Conditions: none beyond the row's own.
-/
import Derived.Test.YthafidhcmahomaaAluShown
namespace Go.Proofs.Ythafidhcmahomaa
open Go.RowKit
set_option linter.unusedVariables false

set_option maxHeartbeats 1000000 in
theorem parts_walk (wide signed : Bool) (a b : Int) (w : World) (ha : 0 ≤ a ∧ a ≤ 18446744073709551615) (hb : 0 ≤ b ∧ b ≤ 18446744073709551615) :
    Calls Try.prog 6 #[.bool wide, .bool signed, .int .u64 a, .int .u64 b] w fun e w' => e = .returned (.bool true) ∧ Below w.heap.size w w' := by
  have heq := parts_eq wide signed a b
  generalize hq : aluV wide 48 (if signed then 1 else 0) a b = q at heq
  generalize hr : aluV wide 144 (if signed then 1 else 0) a b = r at heq
  generalize hm : aluV wide 32 0 q b = m at heq
  generalize hx : aluV wide 176 0 0 a = x at heq
  have q0 : 0 ≤ q := by rw [← hq]; exact (aluV_range _ _ _ _ _).1
  have r0 : 0 ≤ r := by rw [← hr]; exact (aluV_range _ _ _ _ _).1
  have m0 : 0 ≤ m := by rw [← hm]; exact (aluV_range _ _ _ _ _).1
  refine Calls.mono ?_ fun e w' => Yes.below
  cases signed
  all_goals
    have h1 := Lib.hid fun w => did_to w ha.1 hb.1 hq (k := 0) (by cases wide <;> rfl)
    have h2 := Lib.hid fun w => did_to w ha.1 hb.1 hr (k := 0) (by cases wide <;> rfl)
    have h3 := Lib.hid fun w => did_to w q0 hb.1 hm (k := 0) (by cases wide <;> rfl)
    have h4 := Lib.hid fun w => did_to w m0 r0 heq (k := 0) (by cases wide <;> rfl)
    have h5 := Lib.hid fun w => did_to (b := a) w (Int.le_refl 0) ha.1 hx (k := 0) (by cases wide <;> rfl)
    clear hq hr hm hx heq
    go_enter Try.func6, Try.ntmps6
    go_wp2_with fail
    refine (shown_true _).mono ?_; rintro e w' ⟨rfl, n0, rfl⟩
    go_wp2_with fail
    refine (h1.out _).mono ?_; rintro e w' ⟨rfl, n1, rfl⟩
    go_wp2_with fail
    refine (h2.out _).mono ?_; rintro e w' ⟨rfl, n2, rfl⟩
    go_wp2_with fail
    refine (h3.out _).mono ?_; rintro e w' ⟨rfl, n3, rfl⟩
    go_wp2_with fail
    refine (h4.out _).mono ?_; rintro e w' ⟨rfl, n4, rfl⟩
    go_wp2_with fail
    refine (h5.out _).mono ?_; rintro e w' ⟨rfl, n5, rfl⟩
    go_wp2_with fail
    go_ret
    exact ⟨rfl, _, rfl⟩

end Go.Proofs.Ythafidhcmahomaa
