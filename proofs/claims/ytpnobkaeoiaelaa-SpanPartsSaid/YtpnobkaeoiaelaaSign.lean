/-
  alu.Sign: a number's lowest bits, signed, modulo 2^64.
  Conditions: the number fits its kind.
-/
import Derived.Test.YtpnobkaeoiaelaaAluPlain
import Derived.Test.YtpnobkaeoiaelaaKit
namespace Go.Proofs.Ytpnobkaeoiaelaa
open Go.RowKit
set_option linter.unusedVariables false

theorem sign_says (n k : Int) (w : World) (h : 0 ≤ n) (h' : n ≤ 18446744073709551615) :
    Calls Try.prog 47 #[.int .u64 n, .int .i64 k] w fun e w' => e = .returned (.int .u64 (signW n k)) ∧ w = w' := by
  by_cases h1 : 1 ≤ k
  · by_cases h2 : k ≤ 64
    · go_enter Try.func47, Try.ntmps47
      go_wp2
      go_ret
      exact ⟨end_int (by unfold signW; rw [if_pos ⟨h1, h2⟩, IntKind.wrap_u64, IntKind.wrap_u64, up_down_signed n k h1 h2]), rfl⟩
    · go_enter Try.func47, Try.ntmps47
      go_wp2
      go_ret
      exact ⟨end_int (by unfold signW; rw [if_neg (by omega)]), rfl⟩
  · go_enter Try.func47, Try.ntmps47
    go_wp2
    go_ret
    exact ⟨end_int (by unfold signW; rw [if_neg (by omega)]), rfl⟩

end Go.Proofs.Ytpnobkaeoiaelaa
