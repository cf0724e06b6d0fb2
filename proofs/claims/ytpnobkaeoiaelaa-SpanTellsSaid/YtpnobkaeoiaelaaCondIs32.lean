/-
  cond.Is: whether a condition holds of two numbers.
  Conditions: the numbers fit their kinds.
-/
import Derived.Test.YtpnobkaeoiaelaaCondIs
namespace Go.Proofs.Ytpnobkaeoiaelaa
open Go.RowKit
set_option linter.unusedVariables false

set_option maxHeartbeats 1000000 in
theorem is_32_same (op a b : Int) (w : World) (ha : 0 ≤ a ∧ a ≤ 18446744073709551615) (hb : 0 ≤ b ∧ b ≤ 18446744073709551615) (hc : (a % 4294967296) = (b % 4294967296))
    (ho : op = 0 ∨ op = 16 ∨ op = 80 ∨ op = 64 ∨ op = 32 ∨ op = 48 ∨ op = 96 ∨ op = 112) :
    Calls Try.prog 46 #[.int .u8 op, .bool false, .int .u64 a, .int .u64 b] w (Told (condXY false op (a % 4294967296) (b % 4294967296)) 0 w) := by
  obtain ⟨a1, a2⟩ := ha
  obtain ⟨b1, b2⟩ := hb
  have x1 : 0 ≤ a % 4294967296 := by omega
  have x2 : a % 4294967296 ≤ 4294967295 := by omega
  have y1 : 0 ≤ b % 4294967296 := by omega
  have y2 : b % 4294967296 ≤ 4294967295 := by omega
  have f1 : IntKind.u32.wrap a = a % 4294967296 := IntKind.wrap_u32 _
  have f2 : IntKind.u32.wrap b = b % 4294967296 := IntKind.wrap_u32 _
  generalize a % 4294967296 = x at *
  generalize b % 4294967296 = y at *
  have hs1 := Lib.hid fun w => sign_says x 32 w x1 (by omega)
  have hs2 := Lib.hid fun w => sign_says y 32 w y1 (by omega)
  have e1 := s64_32 x x1 x2
  have e2 := s64_32 y y1 y2
  have hab := sg_inj false x y ⟨x1, by show x < 4294967296; omega⟩ ⟨y1, by show y < 4294967296; omega⟩
  have hbits := Lib.hid (bits_none x y x1 (by omega) y1 (by omega))
  unfold condXY
  generalize sg false x = s at *
  generalize sg false y = t at *
  have hst := Lib.hid (hab.mpr hc)
  have hc1 : (x == y) = true := beq_iff_eq.mpr hc
  have hc2 := Lib.hid hc
  clear hab hc
  rcases ho with rfl | rfl | rfl | rfl | rfl | rfl | rfl | rfl
  · go_enter Try.func46, Try.ntmps46
    go_wp2_with fail
    refine (hs1.out _).mono ?_; rintro e w' ⟨rfl, rfl⟩
    go_wp2_with fail
    refine (hs2.out _).mono ?_; rintro e w' ⟨rfl, rfl⟩
    go_wp2_with fail
    go_ret2
    exact ⟨rfl, Below.refl _ _⟩
  · go_enter Try.func46, Try.ntmps46
    go_wp2_with fail
    refine (hs1.out _).mono ?_; rintro e w' ⟨rfl, rfl⟩
    go_wp2_with fail
    refine (hs2.out _).mono ?_; rintro e w' ⟨rfl, rfl⟩
    go_wp2_with fail
    go_ret2
    exact ⟨end_told (decide_eq_true hc2.out).symm, Below.refl _ _⟩
  · go_enter Try.func46, Try.ntmps46
    go_wp2_with fail
    refine (hs1.out _).mono ?_; rintro e w' ⟨rfl, rfl⟩
    go_wp2_with fail
    refine (hs2.out _).mono ?_; rintro e w' ⟨rfl, rfl⟩
    go_wp2_with fail
    go_ret2
    exact ⟨end_told (by rw [decide_eq_true hc2.out]; rfl), Below.refl _ _⟩
  · go_enter Try.func46, Try.ntmps46
    go_wp2_with fail
    refine (hs1.out _).mono ?_; rintro e w' ⟨rfl, rfl⟩
    go_wp2_with fail
    refine (hs2.out _).mono ?_; rintro e w' ⟨rfl, rfl⟩
    go_wp2_with fail
    go_ret2
    exact ⟨end_told (by rw [hbits.out]; simp), Below.refl _ _⟩
  · go_enter Try.func46, Try.ntmps46
    go_wp2_with fail
    refine (hs1.out _).mono ?_; rintro e w' ⟨rfl, rfl⟩
    go_wp2_with fail
    refine (hs2.out _).mono ?_; rintro e w' ⟨rfl, rfl⟩
    go_wp2_with fail
    go_ret2
    exact ⟨rfl, Below.refl _ _⟩
  · go_enter Try.func46, Try.ntmps46
    go_wp2_with fail
    refine (hs1.out _).mono ?_; rintro e w' ⟨rfl, rfl⟩
    go_wp2_with fail
    refine (hs2.out _).mono ?_; rintro e w' ⟨rfl, rfl⟩
    go_wp2_with fail
    go_ret2
    exact ⟨end_told (decide_eq_true (Int.le_of_eq hc2.out.symm)).symm, Below.refl _ _⟩
  · go_enter Try.func46, Try.ntmps46
    go_wp2_with fail
    refine (hs1.out _).mono ?_; rintro e w' ⟨rfl, rfl⟩
    go_wp2_with fail
    refine (hs2.out _).mono ?_; rintro e w' ⟨rfl, rfl⟩
    go_wp2_with fail
    go_ret2
    exact ⟨rfl, Below.refl _ _⟩
  · go_enter Try.func46, Try.ntmps46
    go_wp2_with fail
    refine (hs1.out _).mono ?_; rintro e w' ⟨rfl, rfl⟩
    go_wp2_with fail
    refine (hs2.out _).mono ?_; rintro e w' ⟨rfl, rfl⟩
    go_wp2_with fail
    go_ret2
    exact ⟨end_told (decide_eq_true (Int.le_of_eq hst.out.symm)).symm, Below.refl _ _⟩

set_option maxHeartbeats 1000000 in
theorem is_32_not (op a b : Int) (w : World) (ha : 0 ≤ a ∧ a ≤ 18446744073709551615) (hb : 0 ≤ b ∧ b ≤ 18446744073709551615) (hc : ¬ (a % 4294967296) = (b % 4294967296))
    (ho : op = 0 ∨ op = 16 ∨ op = 80 ∨ op = 64 ∨ op = 32 ∨ op = 48 ∨ op = 96 ∨ op = 112) :
    Calls Try.prog 46 #[.int .u8 op, .bool false, .int .u64 a, .int .u64 b] w (Told (condXY false op (a % 4294967296) (b % 4294967296)) 0 w) := by
  obtain ⟨a1, a2⟩ := ha
  obtain ⟨b1, b2⟩ := hb
  have x1 : 0 ≤ a % 4294967296 := by omega
  have x2 : a % 4294967296 ≤ 4294967295 := by omega
  have y1 : 0 ≤ b % 4294967296 := by omega
  have y2 : b % 4294967296 ≤ 4294967295 := by omega
  have f1 : IntKind.u32.wrap a = a % 4294967296 := IntKind.wrap_u32 _
  have f2 : IntKind.u32.wrap b = b % 4294967296 := IntKind.wrap_u32 _
  generalize a % 4294967296 = x at *
  generalize b % 4294967296 = y at *
  have hs1 := Lib.hid fun w => sign_says x 32 w x1 (by omega)
  have hs2 := Lib.hid fun w => sign_says y 32 w y1 (by omega)
  have e1 := s64_32 x x1 x2
  have e2 := s64_32 y y1 y2
  have hab := sg_inj false x y ⟨x1, by show x < 4294967296; omega⟩ ⟨y1, by show y < 4294967296; omega⟩
  have hbits := Lib.hid (bits_none x y x1 (by omega) y1 (by omega))
  unfold condXY
  generalize sg false x = s at *
  generalize sg false y = t at *
  have hst := Lib.hid (fun z => hc (hab.mp z))
  have hc1 : (x == y) = false := beq_eq_false_iff_ne.mpr hc
  have hc2 := Lib.hid hc
  clear hab hc
  rcases ho with rfl | rfl | rfl | rfl | rfl | rfl | rfl | rfl
  · go_enter Try.func46, Try.ntmps46
    go_wp2_with fail
    refine (hs1.out _).mono ?_; rintro e w' ⟨rfl, rfl⟩
    go_wp2_with fail
    refine (hs2.out _).mono ?_; rintro e w' ⟨rfl, rfl⟩
    go_wp2_with fail
    go_ret2
    exact ⟨rfl, Below.refl _ _⟩
  · go_enter Try.func46, Try.ntmps46
    go_wp2_with fail
    refine (hs1.out _).mono ?_; rintro e w' ⟨rfl, rfl⟩
    go_wp2_with fail
    refine (hs2.out _).mono ?_; rintro e w' ⟨rfl, rfl⟩
    go_wp2_with fail
    go_ret2
    exact ⟨end_told (decide_eq_false hc2.out).symm, Below.refl _ _⟩
  · go_enter Try.func46, Try.ntmps46
    go_wp2_with fail
    refine (hs1.out _).mono ?_; rintro e w' ⟨rfl, rfl⟩
    go_wp2_with fail
    refine (hs2.out _).mono ?_; rintro e w' ⟨rfl, rfl⟩
    go_wp2_with fail
    go_ret2
    exact ⟨end_told (by rw [decide_eq_false hc2.out]; rfl), Below.refl _ _⟩
  · go_enter Try.func46, Try.ntmps46
    go_wp2_with fail
    refine (hs1.out _).mono ?_; rintro e w' ⟨rfl, rfl⟩
    go_wp2_with fail
    refine (hs2.out _).mono ?_; rintro e w' ⟨rfl, rfl⟩
    go_wp2_with fail
    go_ret2
    exact ⟨end_told (by rw [hbits.out]; simp), Below.refl _ _⟩
  · go_enter Try.func46, Try.ntmps46
    go_wp2_with fail
    refine (hs1.out _).mono ?_; rintro e w' ⟨rfl, rfl⟩
    go_wp2_with fail
    refine (hs2.out _).mono ?_; rintro e w' ⟨rfl, rfl⟩
    go_wp2_with fail
    go_ret2
    exact ⟨rfl, Below.refl _ _⟩
  · go_enter Try.func46, Try.ntmps46
    go_wp2_with fail
    refine (hs1.out _).mono ?_; rintro e w' ⟨rfl, rfl⟩
    go_wp2_with fail
    refine (hs2.out _).mono ?_; rintro e w' ⟨rfl, rfl⟩
    go_wp2_with fail
    go_ret2
    exact ⟨end_told (decide_eq_decide.mpr ⟨fun h => Int.le_of_lt h, fun h => Int.lt_iff_le_and_ne.mpr ⟨h, fun x => hc2.out x.symm⟩⟩), Below.refl _ _⟩
  · go_enter Try.func46, Try.ntmps46
    go_wp2_with fail
    refine (hs1.out _).mono ?_; rintro e w' ⟨rfl, rfl⟩
    go_wp2_with fail
    refine (hs2.out _).mono ?_; rintro e w' ⟨rfl, rfl⟩
    go_wp2_with fail
    go_ret2
    exact ⟨rfl, Below.refl _ _⟩
  · go_enter Try.func46, Try.ntmps46
    go_wp2_with fail
    refine (hs1.out _).mono ?_; rintro e w' ⟨rfl, rfl⟩
    go_wp2_with fail
    refine (hs2.out _).mono ?_; rintro e w' ⟨rfl, rfl⟩
    go_wp2_with fail
    go_ret2
    exact ⟨end_told (decide_eq_decide.mpr ⟨fun h => Int.le_of_lt h, fun h => Int.lt_iff_le_and_ne.mpr ⟨h, fun x => hst.out x.symm⟩⟩), Below.refl _ _⟩

end Go.Proofs.Ytpnobkaeoiaelaa
