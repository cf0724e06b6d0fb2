/-
  P3.1: what is asked narrow hangs on the lowest 32 bits alone, and of numbers below 2^31 is as what is asked wide.
  Conditions: none beyond the row's own.
-/
import Derived.Test.YtpgjheiobjgcdaaCondShown
import Derived.Test.YtpgjheiobjgcdaaCondMath
import Derived.Test.YtpgjheiobjgcdaaAluMath
namespace Go.Proofs.Ytpgjheiobjgcdaa
open Go.RowKit
set_option linter.unusedVariables false

theorem cond_low (op a b a' b' : Int) (h1 : a' % 4294967296 = a % 4294967296) (h2 : b' % 4294967296 = b % 4294967296) : condV op false a' b' = condV op false a b := by
  show condXY false op (a' % 4294967296) (b' % 4294967296) = condXY false op (a % 4294967296) (b % 4294967296)
  rw [h1, h2]
theorem cond_small (op u v : Int) (h1 : 0 ≤ u ∧ u < 2147483648) (h2 : 0 ≤ v ∧ v < 2147483648) : condV op true u v = condV op false u v := by
  have e1 : sg true u = u := by show wrap64 u = u; unfold wrap64; omega
  have e2 : sg true v = v := by show wrap64 v = v; unfold wrap64; omega
  have f1 : sg false u = u := by show wrap32 u = u; unfold wrap32; omega
  have f2 : sg false v = v := by show wrap32 v = v; unfold wrap32; omega
  have m1 : u % aM true = u := Int.emod_eq_of_lt h1.1 (by show u < 18446744073709551616; omega)
  have m2 : v % aM true = v := Int.emod_eq_of_lt h2.1 (by show v < 18446744073709551616; omega)
  have n1 : u % aM false = u := Int.emod_eq_of_lt h1.1 (by show u < 4294967296; omega)
  have n2 : v % aM false = v := Int.emod_eq_of_lt h2.1 (by show v < 4294967296; omega)
  unfold condV
  rw [m1, m2, n1, n2]
  unfold condXY
  rw [e1, e2, f1, f2]

set_option maxHeartbeats 1000000 in
theorem low_go (op a b c : Int) (w : World) (ha : 0 ≤ a ∧ a ≤ 18446744073709551615) (hb : 0 ≤ b ∧ b ≤ 18446744073709551615) (hc : 0 ≤ c ∧ c ≤ 18446744073709551615) :
    Calls Try.prog 8 #[.int .u8 op, .int .u64 a, .int .u64 b, .int .u64 c] w (Fine w) := by
  obtain ⟨x1, x2, x3⟩ := xor_high a (c * 4294967296 % 18446744073709551616) ha.1 ha.2 (by omega) (by omega) (by omega)
  obtain ⟨y1, y2, y3⟩ := xor_high b (c / 4294967296 * 4294967296) hb.1 hb.2 (by omega) (by omega) (by omega)
  have ev := cond_low op a b _ _ x1 y1
  have es := cond_small op (a % 2147483648) (b % 2147483648) (by omega) (by omega)
  generalize hv : condV op false a b = v at ev
  generalize hu : condV op false (a % 2147483648) (b % 2147483648) = u at es
  generalize hk : condE op = k
  have h1 := Lib.hid fun w => is_to w ha hb hv hk
  have h2 := Lib.hid fun w => is_to w ⟨x2, x3⟩ ⟨y2, y3⟩ ev hk
  have h3 := Lib.hid fun w => is_to (a := a % 2147483648) (b := b % 2147483648) w (by omega) (by omega) hu hk
  have h4 := Lib.hid fun w => is_to (a := a % 2147483648) (b := b % 2147483648) w (by omega) (by omega) es hk
  have e1 : IntKind.u64.wrap (c * 4294967296) = c * 4294967296 % 18446744073709551616 := IntKind.wrap_u64 _
  obtain ⟨a1, a2⟩ := ha
  obtain ⟨b1, b2⟩ := hb
  obtain ⟨c1, c2⟩ := hc
  clear x1 x2 x3 y1 y2 y3 ev es hv hu hk
  go_enter Try.func8, Try.ntmps8
  go_wp2_with fail
  refine (cond_shown _).mono ?_; rintro e w0 ⟨rfl, b0⟩
  go_wp2_with fail
  refine (h1.out _).mono ?_; rintro e w1 ⟨rfl, b1⟩
  go_wp2_with fail
  refine (h2.out _).mono ?_; rintro e w2 ⟨rfl, b2⟩
  go_wp2_with fail
  refine (h3.out _).mono ?_; rintro e w3 ⟨rfl, b3⟩
  go_wp2_with fail
  refine (h4.out _).mono ?_; rintro e w4 ⟨rfl, b4⟩
  go_wp2_with fail
  go_ret
  exact ⟨rfl, below_next' (below_next' (below_next' (below_next' b0 b1) b2) b3) b4⟩

end Go.Proofs.Ytpgjheiobjgcdaa
