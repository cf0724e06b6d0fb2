/-
  Plain numbers: moving bits down, with and without the sign. No program is named here.
-/
import Derived.Test.YtpnobkaeoiaelaaRef02Parts
namespace Go.Proofs.Ytpnobkaeoiaelaa
open Go Go.RowKit
set_option linter.unusedVariables false

theorem shr_range (x : Int) (k : Nat) (hx : 0 ≤ x) : 0 ≤ x / 2 ^ k ∧ x / 2 ^ k ≤ x := by
  have h := two_pow_pos k
  exact ⟨Int.ediv_nonneg hx (by omega), Int.ediv_le_self _ hx⟩

/-- Of a number with the sign's bit: what lies behind it is ones. -/
theorem arsh_parts (w k : Nat) (hk : k < w) (x : Int) (hx : 0 ≤ x) (hx' : x < 2 ^ w) :
    (x - 2 ^ w) / 2 ^ k = x / 2 ^ k - 2 ^ (w - k) ∧ ((2 : Int) ^ w - 1) / 2 ^ k = 2 ^ (w - k) - 1 ∧ x / 2 ^ k < 2 ^ (w - k) := by
  have hP := two_pow_pos k
  have hQ := two_pow_pos (w - k)
  have hs : (2 : Int) ^ w = 2 ^ (w - k) * 2 ^ k := by rw [← Int.pow_add, show w - k + k = w by omega]
  rw [hs] at hx'
  rw [hs]
  generalize (2 : Int) ^ k = P at *
  generalize (2 : Int) ^ (w - k) = Q at *
  refine ⟨?_, ?_, ?_⟩
  · rw [show x - Q * P = x + (-Q) * P by rw [Int.neg_mul]; omega, Int.add_mul_ediv_right _ _ (by omega)]
    omega
  · rw [show Q * P - 1 = (P - 1) + (Q - 1) * P by rw [Int.sub_mul]; omega, Int.add_mul_ediv_right _ _ (by omega), Int.ediv_eq_zero_of_lt (by omega) (by omega)]
    omega
  · exact Int.ediv_lt_of_lt_mul hP hx'

theorem arsh_neg_64 (x y : Int) (hx : 0 ≤ x) (hx' : x ≤ 18446744073709551615) (hc : ¬ x * 2 < 18446744073709551616) :
    IntKind.u64.wrap (IntKind.u64.wrap (18446744073709551615 - 18446744073709551615 / 2 ^ (y % 64).toNat) + x / 2 ^ (y % 64).toNat) % 18446744073709551616 = wrap64 x / 2 ^ (y % 64).toNat % 18446744073709551616 := by
  obtain ⟨h1, h2, h3⟩ := arsh_parts 64 (y % 64).toNat (by omega) x hx (by show x < 18446744073709551616; omega)
  have hw : wrap64 x = x - 2 ^ 64 := by show _ = x - 18446744073709551616; unfold wrap64; omega
  have ho : (18446744073709551615 : Int) / 2 ^ (y % 64).toNat = 2 ^ (64 - (y % 64).toNat) - 1 := h2
  rw [hw, h1, ho, IntKind.wrap_u64, IntKind.wrap_u64]
  omega
theorem arsh_neg_32 (x y : Int) (hx : 0 ≤ x) (hx' : x ≤ 4294967295) (hc : ¬ x * 2 < 4294967296) :
    IntKind.u64.wrap (IntKind.u64.wrap (4294967295 - 4294967295 / 2 ^ (y % 32).toNat) + x / 2 ^ (y % 32).toNat) % 4294967296 = wrap32 x / 2 ^ (y % 32).toNat % 4294967296 := by
  obtain ⟨h1, h2, h3⟩ := arsh_parts 32 (y % 32).toNat (by omega) x hx (by show x < 4294967296; omega)
  have hw : wrap32 x = x - 2 ^ 32 := by show _ = x - 4294967296; unfold wrap32; omega
  have ho : (4294967295 : Int) / 2 ^ (y % 32).toNat = 2 ^ (32 - (y % 32).toNat) - 1 := h2
  rw [hw, h1, ho, IntKind.wrap_u64, IntKind.wrap_u64]
  omega

theorem ref_parts_1_64 (x y : Int) (w : World) (hx : 0 ≤ x) (hx' : x ≤ 18446744073709551615) (hy : 0 ≤ y) (hy' : y ≤ 18446744073709551615) :
    Calls Try.prog 32 #[.int .u64 x, .int .u64 y, .int .i64 64, .bool true] w (Parted (aluZ true 48 1 x y % 18446744073709551616) (aluZ true 144 1 x y % 18446744073709551616) w) := by
  by_cases h : y = 0
  · subst h; exact ref_parts_z_64 x w hx hx'
  · exact ref_parts_s_64 x y w hx hx' (by omega) hy'
theorem ref_parts_1_32 (x y : Int) (w : World) (hx : 0 ≤ x) (hx' : x ≤ 4294967295) (hy : 0 ≤ y) (hy' : y ≤ 4294967295) :
    Calls Try.prog 32 #[.int .u64 x, .int .u64 y, .int .i64 32, .bool true] w (Parted (aluZ false 48 1 x y % 4294967296) (aluZ false 144 1 x y % 4294967296) w) := by
  by_cases h : y = 0
  · subst h; exact ref_parts_z_32 x w hx hx'
  · exact ref_parts_s_32 x y w hx hx' (by omega) hy'

end Go.Proofs.Ytpnobkaeoiaelaa
