/-
  P2.1: a number whose lowest bytes are turned about, or cut, and its lowest bits, signed, are the document's.
  Conditions: none beyond the row's own.
-/
import Derived.Test.YthafidhcmahomaaRef02Swap
namespace Go.Proofs.Ythafidhcmahomaa
open Go.RowKit
set_option linter.unusedVariables false

set_option maxHeartbeats 1000000 in
theorem swaps_walk (turn : Bool) (k a : Int) (w : World) (ha : 0 ≤ a ∧ a ≤ 18446744073709551615) :
    Calls Try.prog 4 #[.bool turn, .int .i64 k, .int .u64 a] w fun e w' => e = .returned (.bool true) ∧ Below w.heap.size w w' := by
  have h1 := Lib.hid fun w => swap_any turn k a w ha.1 ha.2
  have h2 := Lib.hid fun w => ref_swap_any turn k a w ha.1 ha.2
  have h3 := Lib.hid fun w => sign_any a k w ha.1 ha.2
  have h4 := Lib.hid fun w => ref_sign a k w ha.1 ha.2
  refine Calls.mono ?_ fun e w' => Yes.below
  generalize swapV turn k a = v at *
  generalize swapE k = n at *
  generalize signW a k = s at *
  go_enter Try.func4, Try.ntmps4
  go_wp2_with fail
  refine (h1.out _).mono ?_; rintro e w' ⟨rfl, rfl⟩
  go_wp2_with fail
  refine (h2.out _).mono ?_; rintro e w' ⟨rfl, rfl⟩
  go_wp2_with fail
  refine (shown_true _).mono ?_; rintro e w' ⟨rfl, n3, rfl⟩
  go_wp2_with fail
  refine (h3.out _).mono ?_; rintro e w' ⟨rfl, rfl⟩
  go_wp2_with fail
  refine (h4.out _).mono ?_; rintro e w' ⟨rfl, rfl⟩
  go_wp2_with fail
  go_ret
  exact ⟨rfl, _, rfl⟩

end Go.Proofs.Ythafidhcmahomaa
