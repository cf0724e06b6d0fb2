/-
  The document's own Sign of layer 2, at 32 and 64 bits.
  Conditions: the number fits its kind.
-/
import Derived.Test.YtpnobkaeoiaelaaAluPlain
import Derived.Test.YtpnobkaeoiaelaaKit
namespace Go.Proofs.Ytpnobkaeoiaelaa
open Go.RowKit
set_option linter.unusedVariables false

theorem rcut_64 (n : Int) (w : World) (h : 0 ≤ n) (h' : n ≤ 18446744073709551615) :
    Calls Try.prog 30 #[.int .u64 n, .int .i64 64] w fun e w' => e = .returned (.int .u64 n) ∧ w = w' := by
  go_enter Try.func30, Try.ntmps30
  go_wp2
  go_ret
  exact ⟨rfl, rfl⟩
theorem rcut_32 (n : Int) (w : World) (h : 0 ≤ n) :
    Calls Try.prog 30 #[.int .u64 n, .int .i64 32] w fun e w' => e = .returned (.int .u64 (n % 4294967296)) ∧ w = w' := by
  go_enter Try.func30, Try.ntmps30
  go_wp2
  go_ret
  exact ⟨end_int (by omega), rfl⟩

set_option maxHeartbeats 1000000 in
theorem rsign_64 (n : Int) (w : World) (h : 0 ≤ n) (h' : n ≤ 18446744073709551615) :
    Calls Try.prog 31 #[.int .u64 n, .int .i64 64] w fun e w' => e = .returned (.int .u64 (signW n 64)) ∧ w = w' := by
  have e9 : signW n 64 = n := by rw [signW_64]; omega
  rw [e9]
  clear e9
  by_cases hz : n / 9223372036854775808 = 0
  all_goals
    have hz2 := hz
    clear hz
    go_enter Try.func31, Try.ntmps31
    go_wp2_with (go_at_call 30; refine (rcut_64 _ _ (by omega) (by omega)).mono ?_; rintro e w' ⟨rfl, rfl⟩)
    go_ret
    exact ⟨rfl, rfl⟩

set_option maxHeartbeats 1000000 in
theorem rsign_32 (n : Int) (w : World) (h : 0 ≤ n) (h' : n ≤ 18446744073709551615) :
    Calls Try.prog 31 #[.int .u64 n, .int .i64 32] w fun e w' => e = .returned (.int .u64 (signW n 32)) ∧ w = w' := by
  have hc := Lib.hid fun w => rcut_32 n w h
  have e9 : signW n 32 = wrap32 n % 18446744073709551616 := signW_32 n
  rw [e9]
  have e8 := Lib.hid (show n % 4294967296 / 2147483648 = 0 → n % 4294967296 = wrap32 n % 18446744073709551616 by unfold wrap32; omega)
  have e7 := Lib.hid (show ¬ n % 4294967296 / 2147483648 = 0 → IntKind.u64.wrap (n % 4294967296 - 4294967296) = wrap32 n % 18446744073709551616 by rw [IntKind.wrap_u64]; unfold wrap32; omega)
  have x1 : 0 ≤ n % 4294967296 := by omega
  have x2 : n % 4294967296 ≤ 4294967295 := by omega
  generalize wrap32 n % 18446744073709551616 = r at *
  generalize n % 4294967296 = x at *
  by_cases hz : x / 2147483648 = 0
  · have hz1 : (x / 2147483648 == 0) = true := beq_iff_eq.mpr hz
    have e6 := Lib.hid (e8.out hz)
    clear e9 e8 e7 hz
    go_enter Try.func31, Try.ntmps31
    go_wp2_with (go_at_call 30; refine (hc.out _).mono ?_; rintro e w' ⟨rfl, rfl⟩)
    go_ret
    exact ⟨end_int e6.out, rfl⟩
  · have hz1 : (x / 2147483648 == 0) = false := beq_eq_false_iff_ne.mpr hz
    have e6 := Lib.hid (e7.out hz)
    clear e9 e8 e7 hz
    go_enter Try.func31, Try.ntmps31
    go_wp2_with (go_at_call 30; refine (hc.out _).mono ?_; rintro e w' ⟨rfl, rfl⟩)
    go_ret
    exact ⟨end_int e6.out, rfl⟩

end Go.Proofs.Ytpnobkaeoiaelaa
