/-
  P2.2: what arithmetic makes of two numbers is the document's.
  Conditions: none beyond the row's own.
-/
import Derived.Test.YthafidhcmahomaaRef02Do
namespace Go.Proofs.Ythafidhcmahomaa
open Go.RowKit
set_option linter.unusedVariables false

set_option maxHeartbeats 1000000 in
theorem does_walk (op off a b : Int) (wide : Bool) (w : World) (ha : 0 ≤ a ∧ a ≤ 18446744073709551615) (hb : 0 ≤ b ∧ b ≤ 18446744073709551615) :
    Calls Try.prog 3 #[.int .u8 op, .bool wide, .int .i16 off, .int .u64 a, .int .u64 b] w fun e w' => e = .returned (.bool true) ∧ Below w.heap.size w w' := by
  have h1 := Lib.hid fun w => did_any op off a b wide w ha.1 hb.1
  have h2 := Lib.hid fun w => refdo_any op off a b wide w ha.1 ha.2 hb.1 hb.2
  refine Calls.mono ?_ fun e w' => Yes.below
  generalize aluV wide op off a b = v at *
  generalize aluE wide op off = k at *
  go_enter Try.func3, Try.ntmps3
  go_wp2_with fail
  refine (h1.out _).mono ?_; rintro e w' ⟨rfl, n1, rfl⟩
  go_wp2_with fail
  refine (h2.out _).mono ?_; rintro e w' ⟨rfl, n2, rfl⟩
  go_wp2_with fail
  refine (shown_true _).mono ?_; rintro e w' ⟨rfl, n3, rfl⟩
  go_wp2_with fail
  go_ret
  exact ⟨rfl, _, rfl⟩

end Go.Proofs.Ythafidhcmahomaa
