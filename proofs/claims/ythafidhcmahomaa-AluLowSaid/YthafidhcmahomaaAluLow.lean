/-
  P2.3: what is narrow is below 2^32, and hangs on the lowest 32 bits alone.
  Conditions: none beyond the row's own.
-/
import Derived.Test.YthafidhcmahomaaAluShown
namespace Go.Proofs.Ythafidhcmahomaa
open Go.RowKit
set_option linter.unusedVariables false

set_option maxHeartbeats 1000000 in
theorem low_walk (op off a b c : Int) (w : World) (ha : 0 ≤ a ∧ a ≤ 18446744073709551615) (hb : 0 ≤ b ∧ b ≤ 18446744073709551615) (hc : 0 ≤ c ∧ c ≤ 18446744073709551615) :
    Calls Try.prog 5 #[.int .u8 op, .int .i16 off, .int .u64 a, .int .u64 b, .int .u64 c] w fun e w' => e = .returned (.bool true) ∧ Below w.heap.size w w' := by
  obtain ⟨x1, x2, x3⟩ := xor_high a (c * 4294967296 % 18446744073709551616) ha.1 ha.2 (by omega) (by omega) (by omega)
  obtain ⟨y1, y2, y3⟩ := xor_high b (c / 4294967296 * 4294967296) hb.1 hb.2 (by omega) (by omega) (by omega)
  have ev := narrow_low op off a b _ _ x1 y1
  have hr := narrow_range op off a b
  generalize hv : aluV false op off a b = v at ev hr
  generalize hk : aluE false op off = k
  have h1 := Lib.hid fun w => did_to w ha.1 hb.1 hv hk
  have h2 := Lib.hid fun w => did_to w x2 y2 ev hk
  have e1 : IntKind.u64.wrap (c * 4294967296) = c * 4294967296 % 18446744073709551616 := IntKind.wrap_u64 _
  obtain ⟨r1, r2⟩ := hr
  obtain ⟨a1, a2⟩ := ha
  obtain ⟨b1, b2⟩ := hb
  obtain ⟨c1, c2⟩ := hc
  clear x1 x2 x3 y1 y2 y3 ev hv hk
  refine Calls.mono ?_ fun e w' => Yes.below
  go_enter Try.func5, Try.ntmps5
  go_wp2_with fail
  refine (h1.out _).mono ?_; rintro e w' ⟨rfl, n1, rfl⟩
  go_wp2_with fail
  refine (h2.out _).mono ?_; rintro e w' ⟨rfl, n2, rfl⟩
  go_wp2_with fail
  refine (shown_true _).mono ?_; rintro e w' ⟨rfl, n3, rfl⟩
  go_wp2_with fail
  go_ret
  exact ⟨ret_bool (decide_eq_true (by omega)), _, rfl⟩

end Go.Proofs.Ythafidhcmahomaa
