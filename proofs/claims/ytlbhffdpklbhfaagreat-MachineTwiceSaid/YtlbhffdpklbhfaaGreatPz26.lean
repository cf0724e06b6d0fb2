/-
  Texts, one behind the other: CondIs, CondIs32, CondSays.
  Conditions: those that each theorem states.
-/
import Derived.Test.YtlbhffdpklbhfaaGreatPz25
import Derived.Test.YtlbhffdpklbhfaaGreatPz5
namespace Go.Proofs.YtlbhffdpklbhfaaGreat
open Go.RowKit
set_option linter.unusedVariables false
def Told (v : Bool) (k : Int) (w : World) (e : Ending) (w' : World) : Prop := e = .returned (.tuple #[.bool v, .int .i64 k]) ∧ Below w.heap.size w w'
theorem end_told {a b : Bool} {k : Int} (h : a = b) : Ending.returned (.tuple #[.bool a, .int .i64 k]) = .returned (.tuple #[.bool b, .int .i64 k]) := by rw [h]
theorem s64_64 (x : Int) (h : 0 ≤ x) (h' : x ≤ 18446744073709551615) : wrap64 (signW x 64) = sg true x := by
  rw [signW_64]; show _ = wrap64 x; exact wrap64_low x
theorem s64_32 (x : Int) (h : 0 ≤ x) (h' : x ≤ 4294967295) : wrap64 (signW x 32) = sg false x := by
  rw [signW_32]; exact wrap64_wrap32 x
theorem bits_none (x y : Int) (hx : 0 ≤ x) (hx' : x ≤ 18446744073709551615) (hy : 0 ≤ y) (hy' : y ≤ 18446744073709551615) : (bits BinOp.and IntKind.u64 x y != 0) = !decide (((x.toNat &&& y.toNat : Nat) : Int) = 0) := by
  rw [u64_and x y hx (by omega) hy (by omega)]; rfl
set_option maxHeartbeats 1000000 in
theorem is_64_same (op a b : Int) (w : World) (ha : 0 ≤ a ∧ a ≤ 18446744073709551615) (hb : 0 ≤ b ∧ b ≤ 18446744073709551615) (hc : a = b)
    (ho : op = 0 ∨ op = 16 ∨ op = 80 ∨ op = 64 ∨ op = 32 ∨ op = 48 ∨ op = 96 ∨ op = 112) :
    Calls Tryz.prog 106 #[.int .u8 op, .bool true, .int .u64 a, .int .u64 b] w (Told (condXY true op a b) 0 w) := by
  obtain ⟨a1, a2⟩ := ha
  obtain ⟨b1, b2⟩ := hb
  have hs1 := Lib.hid fun w => sign_says a 64 w a1 (by omega)
  have hs2 := Lib.hid fun w => sign_says b 64 w b1 (by omega)
  have e1 := s64_64 a a1 a2
  have e2 := s64_64 b b1 b2
  have hab := sg_inj true a b ⟨a1, by show a < 18446744073709551616; omega⟩ ⟨b1, by show b < 18446744073709551616; omega⟩
  have hbits := Lib.hid (bits_none a b a1 (by omega) b1 (by omega))
  unfold condXY
  generalize sg true a = s at *
  generalize sg true b = t at *
  have hst := Lib.hid (hab.mpr hc)
  have hc1 : (a == b) = true := beq_iff_eq.mpr hc
  have hc2 := Lib.hid hc
  clear hab hc
  rcases ho with rfl | rfl | rfl | rfl | rfl | rfl | rfl | rfl
  · go_enter Tryz.func106, Tryz.ntmps106
    go_wp2_with fail
    refine (hs1.out _).mono ?_; rintro e w' ⟨rfl, rfl⟩
    go_wp2_with fail
    refine (hs2.out _).mono ?_; rintro e w' ⟨rfl, rfl⟩
    go_wp2_with fail
    go_ret2
    exact ⟨rfl, Below.refl _ _⟩
  · go_enter Tryz.func106, Tryz.ntmps106
    go_wp2_with fail
    refine (hs1.out _).mono ?_; rintro e w' ⟨rfl, rfl⟩
    go_wp2_with fail
    refine (hs2.out _).mono ?_; rintro e w' ⟨rfl, rfl⟩
    go_wp2_with fail
    go_ret2
    exact ⟨end_told (decide_eq_true hc2.out).symm, Below.refl _ _⟩
  · go_enter Tryz.func106, Tryz.ntmps106
    go_wp2_with fail
    refine (hs1.out _).mono ?_; rintro e w' ⟨rfl, rfl⟩
    go_wp2_with fail
    refine (hs2.out _).mono ?_; rintro e w' ⟨rfl, rfl⟩
    go_wp2_with fail
    go_ret2
    exact ⟨end_told (by rw [decide_eq_true hc2.out]; rfl), Below.refl _ _⟩
  · go_enter Tryz.func106, Tryz.ntmps106
    go_wp2_with fail
    refine (hs1.out _).mono ?_; rintro e w' ⟨rfl, rfl⟩
    go_wp2_with fail
    refine (hs2.out _).mono ?_; rintro e w' ⟨rfl, rfl⟩
    go_wp2_with fail
    go_ret2
    exact ⟨end_told (by rw [hbits.out]; simp), Below.refl _ _⟩
  · go_enter Tryz.func106, Tryz.ntmps106
    go_wp2_with fail
    refine (hs1.out _).mono ?_; rintro e w' ⟨rfl, rfl⟩
    go_wp2_with fail
    refine (hs2.out _).mono ?_; rintro e w' ⟨rfl, rfl⟩
    go_wp2_with fail
    go_ret2
    exact ⟨rfl, Below.refl _ _⟩
  · go_enter Tryz.func106, Tryz.ntmps106
    go_wp2_with fail
    refine (hs1.out _).mono ?_; rintro e w' ⟨rfl, rfl⟩
    go_wp2_with fail
    refine (hs2.out _).mono ?_; rintro e w' ⟨rfl, rfl⟩
    go_wp2_with fail
    go_ret2
    exact ⟨end_told (decide_eq_true (Int.le_of_eq hc2.out.symm)).symm, Below.refl _ _⟩
  · go_enter Tryz.func106, Tryz.ntmps106
    go_wp2_with fail
    refine (hs1.out _).mono ?_; rintro e w' ⟨rfl, rfl⟩
    go_wp2_with fail
    refine (hs2.out _).mono ?_; rintro e w' ⟨rfl, rfl⟩
    go_wp2_with fail
    go_ret2
    exact ⟨rfl, Below.refl _ _⟩
  · go_enter Tryz.func106, Tryz.ntmps106
    go_wp2_with fail
    refine (hs1.out _).mono ?_; rintro e w' ⟨rfl, rfl⟩
    go_wp2_with fail
    refine (hs2.out _).mono ?_; rintro e w' ⟨rfl, rfl⟩
    go_wp2_with fail
    go_ret2
    exact ⟨end_told (decide_eq_true (Int.le_of_eq hst.out.symm)).symm, Below.refl _ _⟩
set_option maxHeartbeats 1000000 in
theorem is_64_not (op a b : Int) (w : World) (ha : 0 ≤ a ∧ a ≤ 18446744073709551615) (hb : 0 ≤ b ∧ b ≤ 18446744073709551615) (hc : ¬ a = b)
    (ho : op = 0 ∨ op = 16 ∨ op = 80 ∨ op = 64 ∨ op = 32 ∨ op = 48 ∨ op = 96 ∨ op = 112) :
    Calls Tryz.prog 106 #[.int .u8 op, .bool true, .int .u64 a, .int .u64 b] w (Told (condXY true op a b) 0 w) := by
  obtain ⟨a1, a2⟩ := ha
  obtain ⟨b1, b2⟩ := hb
  have hs1 := Lib.hid fun w => sign_says a 64 w a1 (by omega)
  have hs2 := Lib.hid fun w => sign_says b 64 w b1 (by omega)
  have e1 := s64_64 a a1 a2
  have e2 := s64_64 b b1 b2
  have hab := sg_inj true a b ⟨a1, by show a < 18446744073709551616; omega⟩ ⟨b1, by show b < 18446744073709551616; omega⟩
  have hbits := Lib.hid (bits_none a b a1 (by omega) b1 (by omega))
  unfold condXY
  generalize sg true a = s at *
  generalize sg true b = t at *
  have hst := Lib.hid (fun z => hc (hab.mp z))
  have hc1 : (a == b) = false := beq_eq_false_iff_ne.mpr hc
  have hc2 := Lib.hid hc
  clear hab hc
  rcases ho with rfl | rfl | rfl | rfl | rfl | rfl | rfl | rfl
  · go_enter Tryz.func106, Tryz.ntmps106
    go_wp2_with fail
    refine (hs1.out _).mono ?_; rintro e w' ⟨rfl, rfl⟩
    go_wp2_with fail
    refine (hs2.out _).mono ?_; rintro e w' ⟨rfl, rfl⟩
    go_wp2_with fail
    go_ret2
    exact ⟨rfl, Below.refl _ _⟩
  · go_enter Tryz.func106, Tryz.ntmps106
    go_wp2_with fail
    refine (hs1.out _).mono ?_; rintro e w' ⟨rfl, rfl⟩
    go_wp2_with fail
    refine (hs2.out _).mono ?_; rintro e w' ⟨rfl, rfl⟩
    go_wp2_with fail
    go_ret2
    exact ⟨end_told (decide_eq_false hc2.out).symm, Below.refl _ _⟩
  · go_enter Tryz.func106, Tryz.ntmps106
    go_wp2_with fail
    refine (hs1.out _).mono ?_; rintro e w' ⟨rfl, rfl⟩
    go_wp2_with fail
    refine (hs2.out _).mono ?_; rintro e w' ⟨rfl, rfl⟩
    go_wp2_with fail
    go_ret2
    exact ⟨end_told (by rw [decide_eq_false hc2.out]; rfl), Below.refl _ _⟩
  · go_enter Tryz.func106, Tryz.ntmps106
    go_wp2_with fail
    refine (hs1.out _).mono ?_; rintro e w' ⟨rfl, rfl⟩
    go_wp2_with fail
    refine (hs2.out _).mono ?_; rintro e w' ⟨rfl, rfl⟩
    go_wp2_with fail
    go_ret2
    exact ⟨end_told (by rw [hbits.out]; simp), Below.refl _ _⟩
  · go_enter Tryz.func106, Tryz.ntmps106
    go_wp2_with fail
    refine (hs1.out _).mono ?_; rintro e w' ⟨rfl, rfl⟩
    go_wp2_with fail
    refine (hs2.out _).mono ?_; rintro e w' ⟨rfl, rfl⟩
    go_wp2_with fail
    go_ret2
    exact ⟨rfl, Below.refl _ _⟩
  · go_enter Tryz.func106, Tryz.ntmps106
    go_wp2_with fail
    refine (hs1.out _).mono ?_; rintro e w' ⟨rfl, rfl⟩
    go_wp2_with fail
    refine (hs2.out _).mono ?_; rintro e w' ⟨rfl, rfl⟩
    go_wp2_with fail
    go_ret2
    exact ⟨end_told (decide_eq_decide.mpr ⟨fun h => Int.le_of_lt h, fun h => Int.lt_iff_le_and_ne.mpr ⟨h, fun x => hc2.out x.symm⟩⟩), Below.refl _ _⟩
  · go_enter Tryz.func106, Tryz.ntmps106
    go_wp2_with fail
    refine (hs1.out _).mono ?_; rintro e w' ⟨rfl, rfl⟩
    go_wp2_with fail
    refine (hs2.out _).mono ?_; rintro e w' ⟨rfl, rfl⟩
    go_wp2_with fail
    go_ret2
    exact ⟨rfl, Below.refl _ _⟩
  · go_enter Tryz.func106, Tryz.ntmps106
    go_wp2_with fail
    refine (hs1.out _).mono ?_; rintro e w' ⟨rfl, rfl⟩
    go_wp2_with fail
    refine (hs2.out _).mono ?_; rintro e w' ⟨rfl, rfl⟩
    go_wp2_with fail
    go_ret2
    exact ⟨end_told (decide_eq_decide.mpr ⟨fun h => Int.le_of_lt h, fun h => Int.lt_iff_le_and_ne.mpr ⟨h, fun x => hst.out x.symm⟩⟩), Below.refl _ _⟩
set_option maxHeartbeats 1000000 in
theorem is_32_same (op a b : Int) (w : World) (ha : 0 ≤ a ∧ a ≤ 18446744073709551615) (hb : 0 ≤ b ∧ b ≤ 18446744073709551615) (hc : (a % 4294967296) = (b % 4294967296))
    (ho : op = 0 ∨ op = 16 ∨ op = 80 ∨ op = 64 ∨ op = 32 ∨ op = 48 ∨ op = 96 ∨ op = 112) :
    Calls Tryz.prog 106 #[.int .u8 op, .bool false, .int .u64 a, .int .u64 b] w (Told (condXY false op (a % 4294967296) (b % 4294967296)) 0 w) := by
  obtain ⟨a1, a2⟩ := ha
  obtain ⟨b1, b2⟩ := hb
  have x1 : 0 ≤ a % 4294967296 := by omega
  have x2 : a % 4294967296 ≤ 4294967295 := by omega
  have y1 : 0 ≤ b % 4294967296 := by omega
  have y2 : b % 4294967296 ≤ 4294967295 := by omega
  have f1 : IntKind.u32.wrap a = a % 4294967296 := IntKind.wrap_u32 _
  have f2 : IntKind.u32.wrap b = b % 4294967296 := IntKind.wrap_u32 _
  generalize a % 4294967296 = x at *
  generalize b % 4294967296 = y at *
  have hs1 := Lib.hid fun w => sign_says x 32 w x1 (by omega)
  have hs2 := Lib.hid fun w => sign_says y 32 w y1 (by omega)
  have e1 := s64_32 x x1 x2
  have e2 := s64_32 y y1 y2
  have hab := sg_inj false x y ⟨x1, by show x < 4294967296; omega⟩ ⟨y1, by show y < 4294967296; omega⟩
  have hbits := Lib.hid (bits_none x y x1 (by omega) y1 (by omega))
  unfold condXY
  generalize sg false x = s at *
  generalize sg false y = t at *
  have hst := Lib.hid (hab.mpr hc)
  have hc1 : (x == y) = true := beq_iff_eq.mpr hc
  have hc2 := Lib.hid hc
  clear hab hc
  rcases ho with rfl | rfl | rfl | rfl | rfl | rfl | rfl | rfl
  · go_enter Tryz.func106, Tryz.ntmps106
    go_wp2_with fail
    refine (hs1.out _).mono ?_; rintro e w' ⟨rfl, rfl⟩
    go_wp2_with fail
    refine (hs2.out _).mono ?_; rintro e w' ⟨rfl, rfl⟩
    go_wp2_with fail
    go_ret2
    exact ⟨rfl, Below.refl _ _⟩
  · go_enter Tryz.func106, Tryz.ntmps106
    go_wp2_with fail
    refine (hs1.out _).mono ?_; rintro e w' ⟨rfl, rfl⟩
    go_wp2_with fail
    refine (hs2.out _).mono ?_; rintro e w' ⟨rfl, rfl⟩
    go_wp2_with fail
    go_ret2
    exact ⟨end_told (decide_eq_true hc2.out).symm, Below.refl _ _⟩
  · go_enter Tryz.func106, Tryz.ntmps106
    go_wp2_with fail
    refine (hs1.out _).mono ?_; rintro e w' ⟨rfl, rfl⟩
    go_wp2_with fail
    refine (hs2.out _).mono ?_; rintro e w' ⟨rfl, rfl⟩
    go_wp2_with fail
    go_ret2
    exact ⟨end_told (by rw [decide_eq_true hc2.out]; rfl), Below.refl _ _⟩
  · go_enter Tryz.func106, Tryz.ntmps106
    go_wp2_with fail
    refine (hs1.out _).mono ?_; rintro e w' ⟨rfl, rfl⟩
    go_wp2_with fail
    refine (hs2.out _).mono ?_; rintro e w' ⟨rfl, rfl⟩
    go_wp2_with fail
    go_ret2
    exact ⟨end_told (by rw [hbits.out]; simp), Below.refl _ _⟩
  · go_enter Tryz.func106, Tryz.ntmps106
    go_wp2_with fail
    refine (hs1.out _).mono ?_; rintro e w' ⟨rfl, rfl⟩
    go_wp2_with fail
    refine (hs2.out _).mono ?_; rintro e w' ⟨rfl, rfl⟩
    go_wp2_with fail
    go_ret2
    exact ⟨rfl, Below.refl _ _⟩
  · go_enter Tryz.func106, Tryz.ntmps106
    go_wp2_with fail
    refine (hs1.out _).mono ?_; rintro e w' ⟨rfl, rfl⟩
    go_wp2_with fail
    refine (hs2.out _).mono ?_; rintro e w' ⟨rfl, rfl⟩
    go_wp2_with fail
    go_ret2
    exact ⟨end_told (decide_eq_true (Int.le_of_eq hc2.out.symm)).symm, Below.refl _ _⟩
  · go_enter Tryz.func106, Tryz.ntmps106
    go_wp2_with fail
    refine (hs1.out _).mono ?_; rintro e w' ⟨rfl, rfl⟩
    go_wp2_with fail
    refine (hs2.out _).mono ?_; rintro e w' ⟨rfl, rfl⟩
    go_wp2_with fail
    go_ret2
    exact ⟨rfl, Below.refl _ _⟩
  · go_enter Tryz.func106, Tryz.ntmps106
    go_wp2_with fail
    refine (hs1.out _).mono ?_; rintro e w' ⟨rfl, rfl⟩
    go_wp2_with fail
    refine (hs2.out _).mono ?_; rintro e w' ⟨rfl, rfl⟩
    go_wp2_with fail
    go_ret2
    exact ⟨end_told (decide_eq_true (Int.le_of_eq hst.out.symm)).symm, Below.refl _ _⟩
set_option maxHeartbeats 1000000 in
theorem is_32_not (op a b : Int) (w : World) (ha : 0 ≤ a ∧ a ≤ 18446744073709551615) (hb : 0 ≤ b ∧ b ≤ 18446744073709551615) (hc : ¬ (a % 4294967296) = (b % 4294967296))
    (ho : op = 0 ∨ op = 16 ∨ op = 80 ∨ op = 64 ∨ op = 32 ∨ op = 48 ∨ op = 96 ∨ op = 112) :
    Calls Tryz.prog 106 #[.int .u8 op, .bool false, .int .u64 a, .int .u64 b] w (Told (condXY false op (a % 4294967296) (b % 4294967296)) 0 w) := by
  obtain ⟨a1, a2⟩ := ha
  obtain ⟨b1, b2⟩ := hb
  have x1 : 0 ≤ a % 4294967296 := by omega
  have x2 : a % 4294967296 ≤ 4294967295 := by omega
  have y1 : 0 ≤ b % 4294967296 := by omega
  have y2 : b % 4294967296 ≤ 4294967295 := by omega
  have f1 : IntKind.u32.wrap a = a % 4294967296 := IntKind.wrap_u32 _
  have f2 : IntKind.u32.wrap b = b % 4294967296 := IntKind.wrap_u32 _
  generalize a % 4294967296 = x at *
  generalize b % 4294967296 = y at *
  have hs1 := Lib.hid fun w => sign_says x 32 w x1 (by omega)
  have hs2 := Lib.hid fun w => sign_says y 32 w y1 (by omega)
  have e1 := s64_32 x x1 x2
  have e2 := s64_32 y y1 y2
  have hab := sg_inj false x y ⟨x1, by show x < 4294967296; omega⟩ ⟨y1, by show y < 4294967296; omega⟩
  have hbits := Lib.hid (bits_none x y x1 (by omega) y1 (by omega))
  unfold condXY
  generalize sg false x = s at *
  generalize sg false y = t at *
  have hst := Lib.hid (fun z => hc (hab.mp z))
  have hc1 : (x == y) = false := beq_eq_false_iff_ne.mpr hc
  have hc2 := Lib.hid hc
  clear hab hc
  rcases ho with rfl | rfl | rfl | rfl | rfl | rfl | rfl | rfl
  · go_enter Tryz.func106, Tryz.ntmps106
    go_wp2_with fail
    refine (hs1.out _).mono ?_; rintro e w' ⟨rfl, rfl⟩
    go_wp2_with fail
    refine (hs2.out _).mono ?_; rintro e w' ⟨rfl, rfl⟩
    go_wp2_with fail
    go_ret2
    exact ⟨rfl, Below.refl _ _⟩
  · go_enter Tryz.func106, Tryz.ntmps106
    go_wp2_with fail
    refine (hs1.out _).mono ?_; rintro e w' ⟨rfl, rfl⟩
    go_wp2_with fail
    refine (hs2.out _).mono ?_; rintro e w' ⟨rfl, rfl⟩
    go_wp2_with fail
    go_ret2
    exact ⟨end_told (decide_eq_false hc2.out).symm, Below.refl _ _⟩
  · go_enter Tryz.func106, Tryz.ntmps106
    go_wp2_with fail
    refine (hs1.out _).mono ?_; rintro e w' ⟨rfl, rfl⟩
    go_wp2_with fail
    refine (hs2.out _).mono ?_; rintro e w' ⟨rfl, rfl⟩
    go_wp2_with fail
    go_ret2
    exact ⟨end_told (by rw [decide_eq_false hc2.out]; rfl), Below.refl _ _⟩
  · go_enter Tryz.func106, Tryz.ntmps106
    go_wp2_with fail
    refine (hs1.out _).mono ?_; rintro e w' ⟨rfl, rfl⟩
    go_wp2_with fail
    refine (hs2.out _).mono ?_; rintro e w' ⟨rfl, rfl⟩
    go_wp2_with fail
    go_ret2
    exact ⟨end_told (by rw [hbits.out]; simp), Below.refl _ _⟩
  · go_enter Tryz.func106, Tryz.ntmps106
    go_wp2_with fail
    refine (hs1.out _).mono ?_; rintro e w' ⟨rfl, rfl⟩
    go_wp2_with fail
    refine (hs2.out _).mono ?_; rintro e w' ⟨rfl, rfl⟩
    go_wp2_with fail
    go_ret2
    exact ⟨rfl, Below.refl _ _⟩
  · go_enter Tryz.func106, Tryz.ntmps106
    go_wp2_with fail
    refine (hs1.out _).mono ?_; rintro e w' ⟨rfl, rfl⟩
    go_wp2_with fail
    refine (hs2.out _).mono ?_; rintro e w' ⟨rfl, rfl⟩
    go_wp2_with fail
    go_ret2
    exact ⟨end_told (decide_eq_decide.mpr ⟨fun h => Int.le_of_lt h, fun h => Int.lt_iff_le_and_ne.mpr ⟨h, fun x => hc2.out x.symm⟩⟩), Below.refl _ _⟩
  · go_enter Tryz.func106, Tryz.ntmps106
    go_wp2_with fail
    refine (hs1.out _).mono ?_; rintro e w' ⟨rfl, rfl⟩
    go_wp2_with fail
    refine (hs2.out _).mono ?_; rintro e w' ⟨rfl, rfl⟩
    go_wp2_with fail
    go_ret2
    exact ⟨rfl, Below.refl _ _⟩
  · go_enter Tryz.func106, Tryz.ntmps106
    go_wp2_with fail
    refine (hs1.out _).mono ?_; rintro e w' ⟨rfl, rfl⟩
    go_wp2_with fail
    refine (hs2.out _).mono ?_; rintro e w' ⟨rfl, rfl⟩
    go_wp2_with fail
    go_ret2
    exact ⟨end_told (decide_eq_decide.mpr ⟨fun h => Int.le_of_lt h, fun h => Int.lt_iff_le_and_ne.mpr ⟨h, fun x => hst.out x.symm⟩⟩), Below.refl _ _⟩
theorem is_plain (op a b : Int) (wide : Bool) (w : World) (ha : 0 ≤ a ∧ a ≤ 18446744073709551615) (hb : 0 ≤ b ∧ b ≤ 18446744073709551615)
    (ho : op = 0 ∨ op = 16 ∨ op = 80 ∨ op = 64 ∨ op = 32 ∨ op = 48 ∨ op = 96 ∨ op = 112) :
    Calls Tryz.prog 106 #[.int .u8 op, .bool wide, .int .u64 a, .int .u64 b] w (Told (condV op wide a b) 0 w) := by
  unfold condV
  cases wide
  · show Calls _ _ _ _ (Told (condXY false op (a % 4294967296) (b % 4294967296)) 0 w)
    by_cases h : a % 4294967296 = b % 4294967296
    · exact is_32_same op a b w ha hb h ho
    · exact is_32_not op a b w ha hb h ho
  · have ea : a % aM true = a := Int.emod_eq_of_lt ha.1 (by show a < 18446744073709551616; omega)
    have eb : b % aM true = b := Int.emod_eq_of_lt hb.1 (by show b < 18446744073709551616; omega)
    rw [ea, eb]
    by_cases h : a = b
    · exact is_64_same op a b w ha hb h ho
    · exact is_64_not op a b w ha hb h ho
theorem turned_to {op k : Int} (h : pairOf turnPairs op = (k, true)) (w : World) :
    Calls Tryz.prog 155 #[.int .u8 op] w fun e w' => e = .returned (.tuple #[.int .u8 k, .bool true]) ∧ Below w.heap.size w w' := by
  have h1 := turned_any op w
  unfold Paired at h1
  rw [h] at h1
  exact h1
set_option maxHeartbeats 1000000 in
theorem is_less_64 (op k a b : Int) (w : World) (ha : 0 ≤ a ∧ a ≤ 18446744073709551615) (hb : 0 ≤ b ∧ b ≤ 18446744073709551615)
    (ho : (op = 160 ∧ k = 32) ∨ (op = 176 ∧ k = 48) ∨ (op = 192 ∧ k = 96) ∨ (op = 208 ∧ k = 112)) :
    Calls Tryz.prog 106 #[.int .u8 op, .bool true, .int .u64 a, .int .u64 b] w (Told (condV k true b a) 0 w) := by
  have hi := Lib.hid fun w => is_plain k b a true w hb ha (by omega)
  obtain ⟨a1, a2⟩ := ha
  obtain ⟨b1, b2⟩ := hb
  have hs1 := Lib.hid fun w => sign_says a 64 w a1 a2
  have hs2 := Lib.hid fun w => sign_says b 64 w b1 b2
  generalize condV k true b a = v at *
  have ht : ∀ w, Calls Tryz.prog 155 #[.int .u8 op] w fun e w' => e = .returned (.tuple #[.int .u8 k, .bool true]) ∧ Below w.heap.size w w' := fun w => turned_to (by rcases ho with ⟨rfl, rfl⟩ | ⟨rfl, rfl⟩ | ⟨rfl, rfl⟩ | ⟨rfl, rfl⟩ <;> decide) w
  have HT := Lib.hid ht
  clear ht
  rcases ho with ⟨rfl, rfl⟩ | ⟨rfl, rfl⟩ | ⟨rfl, rfl⟩ | ⟨rfl, rfl⟩
  all_goals
    go_enter Tryz.func106, Tryz.ntmps106
    go_wp2_with fail
    refine (hs1.out _).mono ?_; rintro e w' ⟨rfl, rfl⟩
    go_wp2_with fail
    refine (hs2.out _).mono ?_; rintro e w' ⟨rfl, rfl⟩
    go_wp2_with fail
    refine (HT.out _).mono ?_; rintro e w1 ⟨rfl, hb1⟩
    go_wp2_with fail
    refine (hi.out _).mono ?_; rintro e w2 ⟨rfl, hb2⟩
    go_wp2_with fail
    go_ret2
    exact ⟨rfl, below_next' hb1 hb2⟩
set_option maxHeartbeats 1000000 in
theorem is_less_32 (op k a b : Int) (w : World) (ha : 0 ≤ a ∧ a ≤ 18446744073709551615) (hb : 0 ≤ b ∧ b ≤ 18446744073709551615)
    (ho : (op = 160 ∧ k = 32) ∨ (op = 176 ∧ k = 48) ∨ (op = 192 ∧ k = 96) ∨ (op = 208 ∧ k = 112)) :
    Calls Tryz.prog 106 #[.int .u8 op, .bool false, .int .u64 a, .int .u64 b] w (Told (condV k false b a) 0 w) := by
  have hi := Lib.hid fun w => is_plain k b a false w hb ha (by omega)
  obtain ⟨a1, a2⟩ := ha
  obtain ⟨b1, b2⟩ := hb
  have f1 : IntKind.u32.wrap a = a % 4294967296 := IntKind.wrap_u32 _
  have f2 : IntKind.u32.wrap b = b % 4294967296 := IntKind.wrap_u32 _
  have hs1 := Lib.hid fun w => sign_says (a % 4294967296) 32 w (by omega) (by omega)
  have hs2 := Lib.hid fun w => sign_says (b % 4294967296) 32 w (by omega) (by omega)
  generalize condV k false b a = v at *
  have ht : ∀ w, Calls Tryz.prog 155 #[.int .u8 op] w fun e w' => e = .returned (.tuple #[.int .u8 k, .bool true]) ∧ Below w.heap.size w w' := fun w => turned_to (by rcases ho with ⟨rfl, rfl⟩ | ⟨rfl, rfl⟩ | ⟨rfl, rfl⟩ | ⟨rfl, rfl⟩ <;> decide) w
  have HT := Lib.hid ht
  clear ht
  rcases ho with ⟨rfl, rfl⟩ | ⟨rfl, rfl⟩ | ⟨rfl, rfl⟩ | ⟨rfl, rfl⟩
  all_goals
    go_enter Tryz.func106, Tryz.ntmps106
    go_wp2_with fail
    refine (hs1.out _).mono ?_; rintro e w' ⟨rfl, rfl⟩
    go_wp2_with fail
    refine (hs2.out _).mono ?_; rintro e w' ⟨rfl, rfl⟩
    go_wp2_with fail
    refine (HT.out _).mono ?_; rintro e w1 ⟨rfl, hb1⟩
    go_wp2_with fail
    refine (hi.out _).mono ?_; rintro e w2 ⟨rfl, hb2⟩
    go_wp2_with fail
    go_ret2
    exact ⟨rfl, below_next' hb1 hb2⟩
set_option maxHeartbeats 1000000 in
theorem is_none_64 (op a b : Int) (w : World) (ha : 0 ≤ a ∧ a ≤ 18446744073709551615) (hb : 0 ≤ b ∧ b ≤ 18446744073709551615) (ho : condFits op = false) :
    Calls Tryz.prog 106 #[.int .u8 op, .bool true, .int .u64 a, .int .u64 b] w (Told false 1 w) := by
  obtain ⟨h1, h2, h3, h4, h5, h6, h7, h8, h9, h10, h11, h12⟩ := fits_not ho
  have k1 : (op == 0) = false := beq_eq_false_iff_ne.mpr h1
  have k2 : (op == 16) = false := beq_eq_false_iff_ne.mpr h2
  have k3 : (op == 80) = false := beq_eq_false_iff_ne.mpr h3
  have k4 : (op == 64) = false := beq_eq_false_iff_ne.mpr h4
  have k5 : (op == 32) = false := beq_eq_false_iff_ne.mpr h5
  have k6 : (op == 48) = false := beq_eq_false_iff_ne.mpr h6
  have k7 : (op == 160) = false := beq_eq_false_iff_ne.mpr h7
  have k8 : (op == 176) = false := beq_eq_false_iff_ne.mpr h8
  have k9 : (op == 96) = false := beq_eq_false_iff_ne.mpr h9
  have k10 : (op == 112) = false := beq_eq_false_iff_ne.mpr h10
  have k11 : (op == 192) = false := beq_eq_false_iff_ne.mpr h11
  have k12 : (op == 208) = false := beq_eq_false_iff_ne.mpr h12
  clear h1 h2 h3 h4 h5 h6 h7 h8 h9 h10 h11 h12 ho
  obtain ⟨a1, a2⟩ := ha
  obtain ⟨b1, b2⟩ := hb
  have hs1 := Lib.hid fun w => sign_says a 64 w a1 a2
  have hs2 := Lib.hid fun w => sign_says b 64 w b1 b2
  go_enter Tryz.func106, Tryz.ntmps106
  go_wp2_with fail
  refine (hs1.out _).mono ?_; rintro e w' ⟨rfl, rfl⟩
  go_wp2_with fail
  refine (hs2.out _).mono ?_; rintro e w' ⟨rfl, rfl⟩
  go_wp2_with fail
  go_ret2
  exact ⟨rfl, Below.refl _ _⟩
set_option maxHeartbeats 1000000 in
theorem is_none_32 (op a b : Int) (w : World) (ha : 0 ≤ a ∧ a ≤ 18446744073709551615) (hb : 0 ≤ b ∧ b ≤ 18446744073709551615) (ho : condFits op = false) :
    Calls Tryz.prog 106 #[.int .u8 op, .bool false, .int .u64 a, .int .u64 b] w (Told false 1 w) := by
  obtain ⟨h1, h2, h3, h4, h5, h6, h7, h8, h9, h10, h11, h12⟩ := fits_not ho
  have k1 : (op == 0) = false := beq_eq_false_iff_ne.mpr h1
  have k2 : (op == 16) = false := beq_eq_false_iff_ne.mpr h2
  have k3 : (op == 80) = false := beq_eq_false_iff_ne.mpr h3
  have k4 : (op == 64) = false := beq_eq_false_iff_ne.mpr h4
  have k5 : (op == 32) = false := beq_eq_false_iff_ne.mpr h5
  have k6 : (op == 48) = false := beq_eq_false_iff_ne.mpr h6
  have k7 : (op == 160) = false := beq_eq_false_iff_ne.mpr h7
  have k8 : (op == 176) = false := beq_eq_false_iff_ne.mpr h8
  have k9 : (op == 96) = false := beq_eq_false_iff_ne.mpr h9
  have k10 : (op == 112) = false := beq_eq_false_iff_ne.mpr h10
  have k11 : (op == 192) = false := beq_eq_false_iff_ne.mpr h11
  have k12 : (op == 208) = false := beq_eq_false_iff_ne.mpr h12
  clear h1 h2 h3 h4 h5 h6 h7 h8 h9 h10 h11 h12 ho
  obtain ⟨a1, a2⟩ := ha
  obtain ⟨b1, b2⟩ := hb
  have f1 : IntKind.u32.wrap a = a % 4294967296 := IntKind.wrap_u32 _
  have f2 : IntKind.u32.wrap b = b % 4294967296 := IntKind.wrap_u32 _
  have hs1 := Lib.hid fun w => sign_says (a % 4294967296) 32 w (by omega) (by omega)
  have hs2 := Lib.hid fun w => sign_says (b % 4294967296) 32 w (by omega) (by omega)
  go_enter Tryz.func106, Tryz.ntmps106
  go_wp2_with fail
  refine (hs1.out _).mono ?_; rintro e w' ⟨rfl, rfl⟩
  go_wp2_with fail
  refine (hs2.out _).mono ?_; rintro e w' ⟨rfl, rfl⟩
  go_wp2_with fail
  go_ret2
  exact ⟨rfl, Below.refl _ _⟩
theorem is_any (op : Int) (wide : Bool) (a b : Int) (w : World) (ha : 0 ≤ a ∧ a ≤ 18446744073709551615) (hb : 0 ≤ b ∧ b ≤ 18446744073709551615) :
    Calls Tryz.prog 106 #[.int .u8 op, .bool wide, .int .u64 a, .int .u64 b] w (Told (condV op wide a b) (condE op) w) := by
  cases hf : condFits op
  · have e : condE op = 1 := by unfold condE; rw [hf]; rfl
    rw [e, condV_none hf]
    cases wide
    · exact is_none_32 op a b w ha hb hf
    · exact is_none_64 op a b w ha hb hf
  · have e : condE op = 0 := by unfold condE; rw [hf]; rfl
    rw [e]
    by_cases hl : op = 160 ∨ op = 176 ∨ op = 192 ∨ op = 208
    · cases wide
      · rcases hl with rfl | rfl | rfl | rfl
        · exact is_less_32 160 32 a b w ha hb (by omega)
        · exact is_less_32 176 48 a b w ha hb (by omega)
        · exact is_less_32 192 96 a b w ha hb (by omega)
        · exact is_less_32 208 112 a b w ha hb (by omega)
      · rcases hl with rfl | rfl | rfl | rfl
        · exact is_less_64 160 32 a b w ha hb (by omega)
        · exact is_less_64 176 48 a b w ha hb (by omega)
        · exact is_less_64 192 96 a b w ha hb (by omega)
        · exact is_less_64 208 112 a b w ha hb (by omega)
    · exact is_plain op a b wide w ha hb (by have h := fits_is hf; omega)
end Go.Proofs.YtlbhffdpklbhfaaGreat
