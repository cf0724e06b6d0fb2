/-
  Division of the document's own answers: by sizes and signs, as aluZ has it.
  Conditions: the numbers are cut to the width.
-/
import Derived.Test.YtpnobkaeoiaelaaRef02
namespace Go.Proofs.Ytpnobkaeoiaelaa
open Go.RowKit
set_option linter.unusedVariables false

/-- A signed number's size. -/
def szOf (M x : Int) : Int := if x * 2 < M then x else M - x

theorem wrap64_mod (z : Int) : wrap64 z % 18446744073709551616 = z % 18446744073709551616 := by unfold wrap64; omega
theorem wrap32_mod (z : Int) : wrap32 z % 4294967296 = z % 4294967296 := by unfold wrap32; omega
theorem tdiv_pos (a b : Int) (ha : 0 ≤ a) : a.tdiv b = a / b := Int.tdiv_eq_ediv_of_nonneg ha
theorem tmod_pos (a b : Int) (ha : 0 ≤ a) : a.tmod b = a % b := Int.tmod_eq_emod_of_nonneg ha
theorem quo_range (a b : Int) (ha : 0 ≤ a) (hb : 1 ≤ b) : (0 ≤ a / b ∧ a / b ≤ a) ∧ (0 ≤ a % b ∧ a % b < b) ∧ a % b ≤ a := by
  have h1 := Int.ediv_le_self b ha
  have h2 := Int.ediv_nonneg ha (b := b) (by omega)
  have h3 := Int.emod_nonneg a (b := b) (by omega)
  have h4 := Int.emod_lt_of_pos a (b := b) (by omega)
  have h5 := Int.mul_ediv_add_emod a b
  have h6 := Int.mul_nonneg (show 0 ≤ b by omega) h2
  omega

theorem ref_neg_64 (x : Int) (b : Bool) (w : World) (h : (x / 9223372036854775808 == 1) = b) :
    Calls Try.prog 33 #[.int .u64 x, .int .i64 64] w fun e w' => e = .returned (.bool b) ∧ w = w' := by
  go_enter Try.func33, Try.ntmps33
  go_wp2
  go_ret
  exact ⟨rfl, rfl⟩
theorem ref_size_64 (x : Int) (w : World) (h0 : 0 ≤ x) (h1 : x ≤ 18446744073709551615) :
    Calls Try.prog 41 #[.int .u64 x, .int .i64 64] w fun e w' => e = .returned (.int .u64 (szOf 18446744073709551616 x)) ∧ w = w' := by
  by_cases hx : x * 2 < 18446744073709551616
  · have e1 : (x / 9223372036854775808 == 1) = false := beq_eq_false_iff_ne.mpr (by omega)
    have e2 : szOf 18446744073709551616 x = x := by unfold szOf; rw [if_pos hx]
    rw [e2]
    have hn := Lib.hid fun w => ref_neg_64 x false w e1
    clear e1 e2
    go_enter Try.func41, Try.ntmps41
    go_wp2_with (go_at_call 33; refine (hn.out _).mono ?_; rintro e w' ⟨rfl, rfl⟩)
    go_ret
    exact ⟨rfl, rfl⟩
  · have e1 : (x / 9223372036854775808 == 1) = true := beq_iff_eq.mpr (by omega)
    have e2 : szOf 18446744073709551616 x = 18446744073709551616 - x := by unfold szOf; rw [if_neg hx]
    rw [e2]
    have hn := Lib.hid fun w => ref_neg_64 x true w e1
    have e3 : IntKind.u64.wrap (-x) = 18446744073709551616 - x := by rw [IntKind.wrap_u64]; omega
    clear e1 e2
    go_enter Try.func41, Try.ntmps41
    go_wp2_with (first | (go_at_call 33; refine (hn.out _).mono ?_; rintro e w' ⟨rfl, rfl⟩) | (go_at_call 30; refine (ref_cut_64 _ _ (by omega) (by omega)).mono ?_; rintro e w' ⟨rfl, rfl⟩))
    go_ret
    exact ⟨ret_int (by omega), rfl⟩

/-- Signed division by sizes and signs. -/
theorem parts_plain_64 (x y : Int) (hx : 0 ≤ x) (hx' : x ≤ 18446744073709551615) (hy : 1 ≤ y) (hy' : y ≤ 18446744073709551615) :
    (x * 2 < 18446744073709551616 → y * 2 < 18446744073709551616 → aluZ true 48 1 x y % 18446744073709551616 = szOf 18446744073709551616 x / szOf 18446744073709551616 y ∧ aluZ true 144 1 x y % 18446744073709551616 = szOf 18446744073709551616 x % szOf 18446744073709551616 y) ∧
    (x * 2 < 18446744073709551616 → ¬ y * 2 < 18446744073709551616 → aluZ true 48 1 x y % 18446744073709551616 = (-(szOf 18446744073709551616 x / szOf 18446744073709551616 y)) % 18446744073709551616 ∧ aluZ true 144 1 x y % 18446744073709551616 = szOf 18446744073709551616 x % szOf 18446744073709551616 y) ∧
    (¬ x * 2 < 18446744073709551616 → y * 2 < 18446744073709551616 → aluZ true 48 1 x y % 18446744073709551616 = (-(szOf 18446744073709551616 x / szOf 18446744073709551616 y)) % 18446744073709551616 ∧ aluZ true 144 1 x y % 18446744073709551616 = (-(szOf 18446744073709551616 x % szOf 18446744073709551616 y)) % 18446744073709551616) ∧
    (¬ x * 2 < 18446744073709551616 → ¬ y * 2 < 18446744073709551616 → aluZ true 48 1 x y % 18446744073709551616 = szOf 18446744073709551616 x / szOf 18446744073709551616 y ∧ aluZ true 144 1 x y % 18446744073709551616 = (-(szOf 18446744073709551616 x % szOf 18446744073709551616 y)) % 18446744073709551616) := by
  have z1 : aluZ true 48 1 x y % 18446744073709551616 = ((wrap64 x).tdiv (wrap64 y)) % 18446744073709551616 := by
    have e : aluZ true 48 1 x y = wrap64 ((wrap64 x).tdiv (wrap64 y)) := rfl
    rw [e, wrap64_mod]
  have z2 : aluZ true 144 1 x y % 18446744073709551616 = ((wrap64 x).tmod (wrap64 y)) % 18446744073709551616 := by
    have e : aluZ true 144 1 x y = (wrap64 x).tmod (wrap64 y) := rfl
    rw [e]
  rw [z1, z2]
  clear z1 z2
  have px : x * 2 < 18446744073709551616 → wrap64 x = x := fun h => by unfold wrap64; omega
  have nx : ¬ x * 2 < 18446744073709551616 → wrap64 x = -(18446744073709551616 - x) := fun h => by unfold wrap64; omega
  have py : y * 2 < 18446744073709551616 → wrap64 y = y := fun h => by unfold wrap64; omega
  have ny : ¬ y * 2 < 18446744073709551616 → wrap64 y = -(18446744073709551616 - y) := fun h => by unfold wrap64; omega
  refine ⟨fun h k => ?_, fun h k => ?_, fun h k => ?_, fun h k => ?_⟩
  · have q := quo_range x y hx hy
    unfold szOf
    rw [px h, py k, if_pos h, if_pos k, tdiv_pos _ _ hx, tmod_pos _ _ hx]
    constructor
    · exact Int.emod_eq_of_lt q.1.1 (by omega)
    · exact Int.emod_eq_of_lt q.2.1.1 (by omega)
  · have q := quo_range x (18446744073709551616 - y) hx (by omega)
    unfold szOf
    rw [px h, ny k, if_pos h, if_neg k, Int.tdiv_neg, Int.tmod_neg, tdiv_pos _ _ hx, tmod_pos _ _ hx]
    exact ⟨rfl, Int.emod_eq_of_lt q.2.1.1 (by omega)⟩
  · unfold szOf
    rw [nx h, py k, if_neg h, if_pos k, Int.neg_tdiv, Int.neg_tmod, tdiv_pos _ _ (by omega), tmod_pos _ _ (by omega)]
    exact ⟨rfl, rfl⟩
  · have q := quo_range (18446744073709551616 - x) (18446744073709551616 - y) (by omega) (by omega)
    unfold szOf
    rw [nx h, ny k, if_neg h, if_neg k, Int.neg_tdiv, Int.tdiv_neg, Int.neg_neg, Int.neg_tmod, Int.tmod_neg, tdiv_pos _ _ (by omega), tmod_pos _ _ (by omega)]
    exact ⟨Int.emod_eq_of_lt q.1.1 (by omega), rfl⟩

theorem ref_neg_32 (x : Int) (b : Bool) (w : World) (h : (x / 2147483648 == 1) = b) :
    Calls Try.prog 33 #[.int .u64 x, .int .i64 32] w fun e w' => e = .returned (.bool b) ∧ w = w' := by
  go_enter Try.func33, Try.ntmps33
  go_wp2
  go_ret
  exact ⟨rfl, rfl⟩
theorem ref_size_32 (x : Int) (w : World) (h0 : 0 ≤ x) (h1 : x ≤ 4294967295) :
    Calls Try.prog 41 #[.int .u64 x, .int .i64 32] w fun e w' => e = .returned (.int .u64 (szOf 4294967296 x)) ∧ w = w' := by
  by_cases hx : x * 2 < 4294967296
  · have e1 : (x / 2147483648 == 1) = false := beq_eq_false_iff_ne.mpr (by omega)
    have e2 : szOf 4294967296 x = x := by unfold szOf; rw [if_pos hx]
    rw [e2]
    have hn := Lib.hid fun w => ref_neg_32 x false w e1
    clear e1 e2
    go_enter Try.func41, Try.ntmps41
    go_wp2_with (go_at_call 33; refine (hn.out _).mono ?_; rintro e w' ⟨rfl, rfl⟩)
    go_ret
    exact ⟨rfl, rfl⟩
  · have e1 : (x / 2147483648 == 1) = true := beq_iff_eq.mpr (by omega)
    have e2 : szOf 4294967296 x = 4294967296 - x := by unfold szOf; rw [if_neg hx]
    rw [e2]
    have hn := Lib.hid fun w => ref_neg_32 x true w e1
    have e3 : IntKind.u64.wrap (-x) = 18446744073709551616 - x := by rw [IntKind.wrap_u64]; omega
    clear e1 e2
    go_enter Try.func41, Try.ntmps41
    go_wp2_with (first | (go_at_call 33; refine (hn.out _).mono ?_; rintro e w' ⟨rfl, rfl⟩) | (go_at_call 30; refine (ref_cut_32 _ _ (by omega)).mono ?_; rintro e w' ⟨rfl, rfl⟩))
    go_ret
    exact ⟨ret_int (by omega), rfl⟩

/-- Signed division by sizes and signs. -/
theorem parts_plain_32 (x y : Int) (hx : 0 ≤ x) (hx' : x ≤ 4294967295) (hy : 1 ≤ y) (hy' : y ≤ 4294967295) :
    (x * 2 < 4294967296 → y * 2 < 4294967296 → aluZ false 48 1 x y % 4294967296 = szOf 4294967296 x / szOf 4294967296 y ∧ aluZ false 144 1 x y % 4294967296 = szOf 4294967296 x % szOf 4294967296 y) ∧
    (x * 2 < 4294967296 → ¬ y * 2 < 4294967296 → aluZ false 48 1 x y % 4294967296 = (-(szOf 4294967296 x / szOf 4294967296 y)) % 4294967296 ∧ aluZ false 144 1 x y % 4294967296 = szOf 4294967296 x % szOf 4294967296 y) ∧
    (¬ x * 2 < 4294967296 → y * 2 < 4294967296 → aluZ false 48 1 x y % 4294967296 = (-(szOf 4294967296 x / szOf 4294967296 y)) % 4294967296 ∧ aluZ false 144 1 x y % 4294967296 = (-(szOf 4294967296 x % szOf 4294967296 y)) % 4294967296) ∧
    (¬ x * 2 < 4294967296 → ¬ y * 2 < 4294967296 → aluZ false 48 1 x y % 4294967296 = szOf 4294967296 x / szOf 4294967296 y ∧ aluZ false 144 1 x y % 4294967296 = (-(szOf 4294967296 x % szOf 4294967296 y)) % 4294967296) := by
  have z1 : aluZ false 48 1 x y % 4294967296 = ((wrap32 x).tdiv (wrap32 y)) % 4294967296 := by
    have e : aluZ false 48 1 x y = wrap32 ((wrap32 x).tdiv (wrap32 y)) := rfl
    rw [e, wrap32_mod]
  have z2 : aluZ false 144 1 x y % 4294967296 = ((wrap32 x).tmod (wrap32 y)) % 4294967296 := by
    have e : aluZ false 144 1 x y = (wrap32 x).tmod (wrap32 y) := rfl
    rw [e]
  rw [z1, z2]
  clear z1 z2
  have px : x * 2 < 4294967296 → wrap32 x = x := fun h => by unfold wrap32; omega
  have nx : ¬ x * 2 < 4294967296 → wrap32 x = -(4294967296 - x) := fun h => by unfold wrap32; omega
  have py : y * 2 < 4294967296 → wrap32 y = y := fun h => by unfold wrap32; omega
  have ny : ¬ y * 2 < 4294967296 → wrap32 y = -(4294967296 - y) := fun h => by unfold wrap32; omega
  refine ⟨fun h k => ?_, fun h k => ?_, fun h k => ?_, fun h k => ?_⟩
  · have q := quo_range x y hx hy
    unfold szOf
    rw [px h, py k, if_pos h, if_pos k, tdiv_pos _ _ hx, tmod_pos _ _ hx]
    constructor
    · exact Int.emod_eq_of_lt q.1.1 (by omega)
    · exact Int.emod_eq_of_lt q.2.1.1 (by omega)
  · have q := quo_range x (4294967296 - y) hx (by omega)
    unfold szOf
    rw [px h, ny k, if_pos h, if_neg k, Int.tdiv_neg, Int.tmod_neg, tdiv_pos _ _ hx, tmod_pos _ _ hx]
    exact ⟨rfl, Int.emod_eq_of_lt q.2.1.1 (by omega)⟩
  · unfold szOf
    rw [nx h, py k, if_neg h, if_pos k, Int.neg_tdiv, Int.neg_tmod, tdiv_pos _ _ (by omega), tmod_pos _ _ (by omega)]
    exact ⟨rfl, rfl⟩
  · have q := quo_range (4294967296 - x) (4294967296 - y) (by omega) (by omega)
    unfold szOf
    rw [nx h, ny k, if_neg h, if_neg k, Int.neg_tdiv, Int.tdiv_neg, Int.neg_neg, Int.neg_tmod, Int.tmod_neg, tdiv_pos _ _ (by omega), tmod_pos _ _ (by omega)]
    exact ⟨Int.emod_eq_of_lt q.1.1 (by omega), rfl⟩

end Go.Proofs.Ytpnobkaeoiaelaa
