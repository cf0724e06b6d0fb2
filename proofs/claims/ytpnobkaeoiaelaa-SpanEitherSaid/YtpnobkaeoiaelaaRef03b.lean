/-
  The document's own Is of layer 3, narrow.
  Conditions: the numbers fit their kinds.
-/
import Derived.Test.YtpnobkaeoiaelaaRef03
namespace Go.Proofs.Ytpnobkaeoiaelaa
open Go.RowKit
set_option linter.unusedVariables false

set_option maxHeartbeats 2000000 in
theorem ref_is_32 (op a b : Int) (w : World) (ha : 0 ≤ a ∧ a ≤ 18446744073709551615) (hb : 0 ≤ b ∧ b ≤ 18446744073709551615)
    (ho : op = 0 ∨ op = 16 ∨ op = 80 ∨ op = 32 ∨ op = 48 ∨ op = 160 ∨ op = 176 ∨ op = 96 ∨ op = 112 ∨ op = 192 ∨ op = 208 ∨ op = 64) :
    Calls Try.prog 24 #[.int .u8 op, .bool false, .int .u64 a, .int .u64 b] w (Told (condXY false op (a % 4294967296) (b % 4294967296)) 0 w) := by
  obtain ⟨a1, a2⟩ := ha
  obtain ⟨b1, b2⟩ := hb
  have x1 : 0 ≤ a % 4294967296 := by omega
  have x2 : a % 4294967296 ≤ 4294967295 := by omega
  have y1 : 0 ≤ b % 4294967296 := by omega
  have y2 : b % 4294967296 ≤ 4294967295 := by omega
  generalize hx : a % 4294967296 = x at *
  generalize hy : b % 4294967296 = y at *
  have hs1 := Lib.hid fun w => rsign_32 x w x1 (by omega)
  have hs2 := Lib.hid fun w => rsign_32 y w y1 (by omega)
  obtain ⟨r1, r2⟩ := signW_range x 32 x1 (by omega)
  obtain ⟨r3, r4⟩ := signW_range y 32 y1 (by omega)
  have e1 := (s64_32 x x1 x2).symm
  have e2 := (s64_32 y y1 y2).symm
  have m1 := half_moved _ r1 r2
  have m2 := half_moved _ r3 r4
  rw [← e1] at m1
  rw [← e2] at m2
  have n1 : IntKind.u64.wrap (signW x 32 + 9223372036854775808) = sg false x + 9223372036854775808 := by rw [IntKind.wrap_u64]; exact m1
  have n2 : IntKind.u64.wrap (signW y 32 + 9223372036854775808) = sg false y + 9223372036854775808 := by rw [IntKind.wrap_u64]; exact m2
  clear e1 e2
  have hbits := Lib.hid (bits_none x y x1 (by omega) y1 (by omega))
  have hbeq := Lib.hid (show (x == y) = decide (x = y) from rfl)
  have hbne := Lib.hid (show (x != y) = !decide (x = y) from rfl)
  unfold condXY
  generalize sg false x = s at *
  generalize sg false y = t at *
  generalize signW x 32 = p at *
  generalize signW y 32 = q at *
  rcases ho with rfl | rfl | rfl | rfl | rfl | rfl | rfl | rfl | rfl | rfl | rfl | rfl
  · go_enter Try.func24, Try.ntmps24
    go_wp2_with fail
    refine (hs1.out _).mono ?_; rintro e w' ⟨rfl, rfl⟩
    go_wp2_with fail
    refine (hs2.out _).mono ?_; rintro e w' ⟨rfl, rfl⟩
    go_wp2_with fail
    go_ret2
    exact ⟨rfl, Below.refl _ _⟩
  · go_enter Try.func24, Try.ntmps24
    go_wp2_with fail
    refine (hs1.out _).mono ?_; rintro e w' ⟨rfl, rfl⟩
    go_wp2_with fail
    refine (hs2.out _).mono ?_; rintro e w' ⟨rfl, rfl⟩
    go_wp2_with fail
    go_ret2
    exact ⟨end_told hbeq.out, Below.refl _ _⟩
  · go_enter Try.func24, Try.ntmps24
    go_wp2_with fail
    refine (hs1.out _).mono ?_; rintro e w' ⟨rfl, rfl⟩
    go_wp2_with fail
    refine (hs2.out _).mono ?_; rintro e w' ⟨rfl, rfl⟩
    go_wp2_with fail
    go_ret2
    exact ⟨end_told hbne.out, Below.refl _ _⟩
  · go_enter Try.func24, Try.ntmps24
    go_wp2_with fail
    refine (hs1.out _).mono ?_; rintro e w' ⟨rfl, rfl⟩
    go_wp2_with fail
    refine (hs2.out _).mono ?_; rintro e w' ⟨rfl, rfl⟩
    go_wp2_with fail
    go_ret2
    exact ⟨rfl, Below.refl _ _⟩
  · go_enter Try.func24, Try.ntmps24
    go_wp2_with fail
    refine (hs1.out _).mono ?_; rintro e w' ⟨rfl, rfl⟩
    go_wp2_with fail
    refine (hs2.out _).mono ?_; rintro e w' ⟨rfl, rfl⟩
    go_wp2_with fail
    go_ret2
    exact ⟨rfl, Below.refl _ _⟩
  · go_enter Try.func24, Try.ntmps24
    go_wp2_with fail
    refine (hs1.out _).mono ?_; rintro e w' ⟨rfl, rfl⟩
    go_wp2_with fail
    refine (hs2.out _).mono ?_; rintro e w' ⟨rfl, rfl⟩
    go_wp2_with fail
    go_ret2
    exact ⟨rfl, Below.refl _ _⟩
  · go_enter Try.func24, Try.ntmps24
    go_wp2_with fail
    refine (hs1.out _).mono ?_; rintro e w' ⟨rfl, rfl⟩
    go_wp2_with fail
    refine (hs2.out _).mono ?_; rintro e w' ⟨rfl, rfl⟩
    go_wp2_with fail
    go_ret2
    exact ⟨rfl, Below.refl _ _⟩
  · go_enter Try.func24, Try.ntmps24
    go_wp2_with fail
    refine (hs1.out _).mono ?_; rintro e w' ⟨rfl, rfl⟩
    go_wp2_with fail
    refine (hs2.out _).mono ?_; rintro e w' ⟨rfl, rfl⟩
    go_wp2_with fail
    go_ret2
    exact ⟨end_told (decide_eq_decide.mpr (by omega)), Below.refl _ _⟩
  · go_enter Try.func24, Try.ntmps24
    go_wp2_with fail
    refine (hs1.out _).mono ?_; rintro e w' ⟨rfl, rfl⟩
    go_wp2_with fail
    refine (hs2.out _).mono ?_; rintro e w' ⟨rfl, rfl⟩
    go_wp2_with fail
    go_ret2
    exact ⟨end_told (decide_eq_decide.mpr (by omega)), Below.refl _ _⟩
  · go_enter Try.func24, Try.ntmps24
    go_wp2_with fail
    refine (hs1.out _).mono ?_; rintro e w' ⟨rfl, rfl⟩
    go_wp2_with fail
    refine (hs2.out _).mono ?_; rintro e w' ⟨rfl, rfl⟩
    go_wp2_with fail
    go_ret2
    exact ⟨end_told (decide_eq_decide.mpr (by omega)), Below.refl _ _⟩
  · go_enter Try.func24, Try.ntmps24
    go_wp2_with fail
    refine (hs1.out _).mono ?_; rintro e w' ⟨rfl, rfl⟩
    go_wp2_with fail
    refine (hs2.out _).mono ?_; rintro e w' ⟨rfl, rfl⟩
    go_wp2_with fail
    go_ret2
    exact ⟨end_told (decide_eq_decide.mpr (by omega)), Below.refl _ _⟩
  · go_enter Try.func24, Try.ntmps24
    go_wp2_with fail
    refine (hs1.out _).mono ?_; rintro e w' ⟨rfl, rfl⟩
    go_wp2_with fail
    refine (hs2.out _).mono ?_; rintro e w' ⟨rfl, rfl⟩
    go_wp2_with fail
    go_ret2
    exact ⟨end_told (by rw [hbits.out]; simp), Below.refl _ _⟩

set_option maxHeartbeats 1000000 in
theorem ref_is_none_32 (op a b : Int) (w : World) (ha : 0 ≤ a ∧ a ≤ 18446744073709551615) (hb : 0 ≤ b ∧ b ≤ 18446744073709551615) (ho : condFits op = false) :
    Calls Try.prog 24 #[.int .u8 op, .bool false, .int .u64 a, .int .u64 b] w (Told false 1 w) := by
  obtain ⟨h1, h2, h3, h4, h5, h6, h7, h8, h9, h10, h11, h12⟩ := fits_not ho
  have k1 : (op == 0) = false := beq_eq_false_iff_ne.mpr h1
  have k2 : (op == 16) = false := beq_eq_false_iff_ne.mpr h2
  have k3 : (op == 80) = false := beq_eq_false_iff_ne.mpr h3
  have k4 : (op == 64) = false := beq_eq_false_iff_ne.mpr h4
  have k5 : (op == 32) = false := beq_eq_false_iff_ne.mpr h5
  have k6 : (op == 48) = false := beq_eq_false_iff_ne.mpr h6
  have k7 : (op == 160) = false := beq_eq_false_iff_ne.mpr h7
  have k8 : (op == 176) = false := beq_eq_false_iff_ne.mpr h8
  have k9 : (op == 96) = false := beq_eq_false_iff_ne.mpr h9
  have k10 : (op == 112) = false := beq_eq_false_iff_ne.mpr h10
  have k11 : (op == 192) = false := beq_eq_false_iff_ne.mpr h11
  have k12 : (op == 208) = false := beq_eq_false_iff_ne.mpr h12
  clear h1 h2 h3 h4 h5 h6 h7 h8 h9 h10 h11 h12 ho
  obtain ⟨a1, a2⟩ := ha
  obtain ⟨b1, b2⟩ := hb
  have x1 : 0 ≤ a % 4294967296 := by omega
  have x2 : a % 4294967296 ≤ 4294967295 := by omega
  have y1 : 0 ≤ b % 4294967296 := by omega
  have y2 : b % 4294967296 ≤ 4294967295 := by omega
  generalize hx : a % 4294967296 = x at *
  generalize hy : b % 4294967296 = y at *
  have hs1 := Lib.hid fun w => rsign_32 x w x1 (by omega)
  have hs2 := Lib.hid fun w => rsign_32 y w y1 (by omega)
  obtain ⟨r1, r2⟩ := signW_range x 32 x1 (by omega)
  obtain ⟨r3, r4⟩ := signW_range y 32 y1 (by omega)
  have e1 := (s64_32 x x1 x2).symm
  have e2 := (s64_32 y y1 y2).symm
  have m1 := half_moved _ r1 r2
  have m2 := half_moved _ r3 r4
  rw [← e1] at m1
  rw [← e2] at m2
  have n1 : IntKind.u64.wrap (signW x 32 + 9223372036854775808) = sg false x + 9223372036854775808 := by rw [IntKind.wrap_u64]; exact m1
  have n2 : IntKind.u64.wrap (signW y 32 + 9223372036854775808) = sg false y + 9223372036854775808 := by rw [IntKind.wrap_u64]; exact m2
  clear e1 e2
  generalize sg false x = s at *
  generalize sg false y = t at *
  generalize signW x 32 = p at *
  generalize signW y 32 = q at *
  go_enter Try.func24, Try.ntmps24
  go_wp2_with fail
  refine (hs1.out _).mono ?_; rintro e w' ⟨rfl, rfl⟩
  go_wp2_with fail
  refine (hs2.out _).mono ?_; rintro e w' ⟨rfl, rfl⟩
  go_wp2_with fail
  go_ret2
  exact ⟨rfl, Below.refl _ _⟩

end Go.Proofs.Ytpnobkaeoiaelaa
