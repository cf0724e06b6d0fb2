/-
  The document's own Is of layer 3, wide.
  Conditions: the numbers fit their kinds.
-/
import Derived.Test.YtpnobkaeoiaelaaRef02Sign
import Derived.Test.YtpnobkaeoiaelaaCondIs
namespace Go.Proofs.Ytpnobkaeoiaelaa
open Go.RowKit
set_option linter.unusedVariables false

/-- A signed number, moved by half of all numbers. -/
theorem half_moved (S : Int) (h : 0 ≤ S) (h' : S ≤ 18446744073709551615) : (S + 9223372036854775808) % 18446744073709551616 = wrap64 S + 9223372036854775808 := by unfold wrap64; omega

set_option maxHeartbeats 2000000 in
theorem ref_is_64 (op a b : Int) (w : World) (ha : 0 ≤ a ∧ a ≤ 18446744073709551615) (hb : 0 ≤ b ∧ b ≤ 18446744073709551615)
    (ho : op = 0 ∨ op = 16 ∨ op = 80 ∨ op = 32 ∨ op = 48 ∨ op = 160 ∨ op = 176 ∨ op = 96 ∨ op = 112 ∨ op = 192 ∨ op = 208 ∨ op = 64) :
    Calls Try.prog 24 #[.int .u8 op, .bool true, .int .u64 a, .int .u64 b] w (Told (condXY true op a b) 0 w) := by
  obtain ⟨a1, a2⟩ := ha
  obtain ⟨b1, b2⟩ := hb
  have hs1 := Lib.hid fun w => rsign_64 a w a1 (by omega)
  have hs2 := Lib.hid fun w => rsign_64 b w b1 (by omega)
  obtain ⟨r1, r2⟩ := signW_range a 64 a1 (by omega)
  obtain ⟨r3, r4⟩ := signW_range b 64 b1 (by omega)
  have e1 := (s64_64 a a1 a2).symm
  have e2 := (s64_64 b b1 b2).symm
  have m1 := half_moved _ r1 r2
  have m2 := half_moved _ r3 r4
  rw [← e1] at m1
  rw [← e2] at m2
  have n1 : IntKind.u64.wrap (signW a 64 + 9223372036854775808) = sg true a + 9223372036854775808 := by rw [IntKind.wrap_u64]; exact m1
  have n2 : IntKind.u64.wrap (signW b 64 + 9223372036854775808) = sg true b + 9223372036854775808 := by rw [IntKind.wrap_u64]; exact m2
  clear e1 e2
  have hbits := Lib.hid (bits_none a b a1 (by omega) b1 (by omega))
  have hbeq := Lib.hid (show (a == b) = decide (a = b) from rfl)
  have hbne := Lib.hid (show (a != b) = !decide (a = b) from rfl)
  unfold condXY
  generalize sg true a = s at *
  generalize sg true b = t at *
  generalize signW a 64 = p at *
  generalize signW b 64 = q at *
  rcases ho with rfl | rfl | rfl | rfl | rfl | rfl | rfl | rfl | rfl | rfl | rfl | rfl
  · go_enter Try.func24, Try.ntmps24
    go_wp2_with fail
    refine (hs1.out _).mono ?_; rintro e w' ⟨rfl, rfl⟩
    go_wp2_with fail
    refine (hs2.out _).mono ?_; rintro e w' ⟨rfl, rfl⟩
    go_wp2_with fail
    go_ret2
    exact ⟨rfl, Below.refl _ _⟩
  · go_enter Try.func24, Try.ntmps24
    go_wp2_with fail
    refine (hs1.out _).mono ?_; rintro e w' ⟨rfl, rfl⟩
    go_wp2_with fail
    refine (hs2.out _).mono ?_; rintro e w' ⟨rfl, rfl⟩
    go_wp2_with fail
    go_ret2
    exact ⟨end_told hbeq.out, Below.refl _ _⟩
  · go_enter Try.func24, Try.ntmps24
    go_wp2_with fail
    refine (hs1.out _).mono ?_; rintro e w' ⟨rfl, rfl⟩
    go_wp2_with fail
    refine (hs2.out _).mono ?_; rintro e w' ⟨rfl, rfl⟩
    go_wp2_with fail
    go_ret2
    exact ⟨end_told hbne.out, Below.refl _ _⟩
  · go_enter Try.func24, Try.ntmps24
    go_wp2_with fail
    refine (hs1.out _).mono ?_; rintro e w' ⟨rfl, rfl⟩
    go_wp2_with fail
    refine (hs2.out _).mono ?_; rintro e w' ⟨rfl, rfl⟩
    go_wp2_with fail
    go_ret2
    exact ⟨rfl, Below.refl _ _⟩
  · go_enter Try.func24, Try.ntmps24
    go_wp2_with fail
    refine (hs1.out _).mono ?_; rintro e w' ⟨rfl, rfl⟩
    go_wp2_with fail
    refine (hs2.out _).mono ?_; rintro e w' ⟨rfl, rfl⟩
    go_wp2_with fail
    go_ret2
    exact ⟨rfl, Below.refl _ _⟩
  · go_enter Try.func24, Try.ntmps24
    go_wp2_with fail
    refine (hs1.out _).mono ?_; rintro e w' ⟨rfl, rfl⟩
    go_wp2_with fail
    refine (hs2.out _).mono ?_; rintro e w' ⟨rfl, rfl⟩
    go_wp2_with fail
    go_ret2
    exact ⟨rfl, Below.refl _ _⟩
  · go_enter Try.func24, Try.ntmps24
    go_wp2_with fail
    refine (hs1.out _).mono ?_; rintro e w' ⟨rfl, rfl⟩
    go_wp2_with fail
    refine (hs2.out _).mono ?_; rintro e w' ⟨rfl, rfl⟩
    go_wp2_with fail
    go_ret2
    exact ⟨rfl, Below.refl _ _⟩
  · go_enter Try.func24, Try.ntmps24
    go_wp2_with fail
    refine (hs1.out _).mono ?_; rintro e w' ⟨rfl, rfl⟩
    go_wp2_with fail
    refine (hs2.out _).mono ?_; rintro e w' ⟨rfl, rfl⟩
    go_wp2_with fail
    go_ret2
    exact ⟨end_told (decide_eq_decide.mpr (by omega)), Below.refl _ _⟩
  · go_enter Try.func24, Try.ntmps24
    go_wp2_with fail
    refine (hs1.out _).mono ?_; rintro e w' ⟨rfl, rfl⟩
    go_wp2_with fail
    refine (hs2.out _).mono ?_; rintro e w' ⟨rfl, rfl⟩
    go_wp2_with fail
    go_ret2
    exact ⟨end_told (decide_eq_decide.mpr (by omega)), Below.refl _ _⟩
  · go_enter Try.func24, Try.ntmps24
    go_wp2_with fail
    refine (hs1.out _).mono ?_; rintro e w' ⟨rfl, rfl⟩
    go_wp2_with fail
    refine (hs2.out _).mono ?_; rintro e w' ⟨rfl, rfl⟩
    go_wp2_with fail
    go_ret2
    exact ⟨end_told (decide_eq_decide.mpr (by omega)), Below.refl _ _⟩
  · go_enter Try.func24, Try.ntmps24
    go_wp2_with fail
    refine (hs1.out _).mono ?_; rintro e w' ⟨rfl, rfl⟩
    go_wp2_with fail
    refine (hs2.out _).mono ?_; rintro e w' ⟨rfl, rfl⟩
    go_wp2_with fail
    go_ret2
    exact ⟨end_told (decide_eq_decide.mpr (by omega)), Below.refl _ _⟩
  · go_enter Try.func24, Try.ntmps24
    go_wp2_with fail
    refine (hs1.out _).mono ?_; rintro e w' ⟨rfl, rfl⟩
    go_wp2_with fail
    refine (hs2.out _).mono ?_; rintro e w' ⟨rfl, rfl⟩
    go_wp2_with fail
    go_ret2
    exact ⟨end_told (by rw [hbits.out]; simp), Below.refl _ _⟩

set_option maxHeartbeats 1000000 in
theorem ref_is_none_64 (op a b : Int) (w : World) (ha : 0 ≤ a ∧ a ≤ 18446744073709551615) (hb : 0 ≤ b ∧ b ≤ 18446744073709551615) (ho : condFits op = false) :
    Calls Try.prog 24 #[.int .u8 op, .bool true, .int .u64 a, .int .u64 b] w (Told false 1 w) := by
  obtain ⟨h1, h2, h3, h4, h5, h6, h7, h8, h9, h10, h11, h12⟩ := fits_not ho
  have k1 : (op == 0) = false := beq_eq_false_iff_ne.mpr h1
  have k2 : (op == 16) = false := beq_eq_false_iff_ne.mpr h2
  have k3 : (op == 80) = false := beq_eq_false_iff_ne.mpr h3
  have k4 : (op == 64) = false := beq_eq_false_iff_ne.mpr h4
  have k5 : (op == 32) = false := beq_eq_false_iff_ne.mpr h5
  have k6 : (op == 48) = false := beq_eq_false_iff_ne.mpr h6
  have k7 : (op == 160) = false := beq_eq_false_iff_ne.mpr h7
  have k8 : (op == 176) = false := beq_eq_false_iff_ne.mpr h8
  have k9 : (op == 96) = false := beq_eq_false_iff_ne.mpr h9
  have k10 : (op == 112) = false := beq_eq_false_iff_ne.mpr h10
  have k11 : (op == 192) = false := beq_eq_false_iff_ne.mpr h11
  have k12 : (op == 208) = false := beq_eq_false_iff_ne.mpr h12
  clear h1 h2 h3 h4 h5 h6 h7 h8 h9 h10 h11 h12 ho
  obtain ⟨a1, a2⟩ := ha
  obtain ⟨b1, b2⟩ := hb
  have hs1 := Lib.hid fun w => rsign_64 a w a1 (by omega)
  have hs2 := Lib.hid fun w => rsign_64 b w b1 (by omega)
  obtain ⟨r1, r2⟩ := signW_range a 64 a1 (by omega)
  obtain ⟨r3, r4⟩ := signW_range b 64 b1 (by omega)
  have e1 := (s64_64 a a1 a2).symm
  have e2 := (s64_64 b b1 b2).symm
  have m1 := half_moved _ r1 r2
  have m2 := half_moved _ r3 r4
  rw [← e1] at m1
  rw [← e2] at m2
  have n1 : IntKind.u64.wrap (signW a 64 + 9223372036854775808) = sg true a + 9223372036854775808 := by rw [IntKind.wrap_u64]; exact m1
  have n2 : IntKind.u64.wrap (signW b 64 + 9223372036854775808) = sg true b + 9223372036854775808 := by rw [IntKind.wrap_u64]; exact m2
  clear e1 e2
  generalize sg true a = s at *
  generalize sg true b = t at *
  generalize signW a 64 = p at *
  generalize signW b 64 = q at *
  go_enter Try.func24, Try.ntmps24
  go_wp2_with fail
  refine (hs1.out _).mono ?_; rintro e w' ⟨rfl, rfl⟩
  go_wp2_with fail
  refine (hs2.out _).mono ?_; rintro e w' ⟨rfl, rfl⟩
  go_wp2_with fail
  go_ret2
  exact ⟨rfl, Below.refl _ _⟩

end Go.Proofs.Ytpnobkaeoiaelaa
