/-
  cond.Is: whether a condition holds of two numbers.
  Conditions: the numbers fit their kinds.
-/
import Derived.Test.YtpnobkaeoiaelaaCondTurn
import Derived.Test.YtpnobkaeoiaelaaCondPlain
import Derived.Test.YtpnobkaeoiaelaaSign
namespace Go.Proofs.Ytpnobkaeoiaelaa
open Go.RowKit
set_option linter.unusedVariables false

/-- A bool and an error's number, and nothing that was there has turned. -/
def Told (v : Bool) (k : Int) (w : World) (e : Ending) (w' : World) : Prop := e = .returned (.tuple #[.bool v, .int .i64 k]) ∧ Below w.heap.size w w'

theorem end_told {a b : Bool} {k : Int} (h : a = b) : Ending.returned (.tuple #[.bool a, .int .i64 k]) = .returned (.tuple #[.bool b, .int .i64 k]) := by rw [h]
theorem s64_64 (x : Int) (h : 0 ≤ x) (h' : x ≤ 18446744073709551615) : wrap64 (signW x 64) = sg true x := by
  rw [signW_64]; show _ = wrap64 x; exact wrap64_low x
theorem s64_32 (x : Int) (h : 0 ≤ x) (h' : x ≤ 4294967295) : wrap64 (signW x 32) = sg false x := by
  rw [signW_32]; exact wrap64_wrap32 x
theorem bits_none (x y : Int) (hx : 0 ≤ x) (hx' : x ≤ 18446744073709551615) (hy : 0 ≤ y) (hy' : y ≤ 18446744073709551615) : (bits BinOp.and IntKind.u64 x y != 0) = !decide (((x.toNat &&& y.toNat : Nat) : Int) = 0) := by
  rw [u64_and x y hx (by omega) hy (by omega)]; rfl

set_option maxHeartbeats 1000000 in
theorem is_64_same (op a b : Int) (w : World) (ha : 0 ≤ a ∧ a ≤ 18446744073709551615) (hb : 0 ≤ b ∧ b ≤ 18446744073709551615) (hc : a = b)
    (ho : op = 0 ∨ op = 16 ∨ op = 80 ∨ op = 64 ∨ op = 32 ∨ op = 48 ∨ op = 96 ∨ op = 112) :
    Calls Try.prog 46 #[.int .u8 op, .bool true, .int .u64 a, .int .u64 b] w (Told (condXY true op a b) 0 w) := by
  obtain ⟨a1, a2⟩ := ha
  obtain ⟨b1, b2⟩ := hb
  have hs1 := Lib.hid fun w => sign_says a 64 w a1 (by omega)
  have hs2 := Lib.hid fun w => sign_says b 64 w b1 (by omega)
  have e1 := s64_64 a a1 a2
  have e2 := s64_64 b b1 b2
  have hab := sg_inj true a b ⟨a1, by show a < 18446744073709551616; omega⟩ ⟨b1, by show b < 18446744073709551616; omega⟩
  have hbits := Lib.hid (bits_none a b a1 (by omega) b1 (by omega))
  unfold condXY
  generalize sg true a = s at *
  generalize sg true b = t at *
  have hst := Lib.hid (hab.mpr hc)
  have hc1 : (a == b) = true := beq_iff_eq.mpr hc
  have hc2 := Lib.hid hc
  clear hab hc
  rcases ho with rfl | rfl | rfl | rfl | rfl | rfl | rfl | rfl
  · go_enter Try.func46, Try.ntmps46
    go_wp2_with fail
    refine (hs1.out _).mono ?_; rintro e w' ⟨rfl, rfl⟩
    go_wp2_with fail
    refine (hs2.out _).mono ?_; rintro e w' ⟨rfl, rfl⟩
    go_wp2_with fail
    go_ret2
    exact ⟨rfl, Below.refl _ _⟩
  · go_enter Try.func46, Try.ntmps46
    go_wp2_with fail
    refine (hs1.out _).mono ?_; rintro e w' ⟨rfl, rfl⟩
    go_wp2_with fail
    refine (hs2.out _).mono ?_; rintro e w' ⟨rfl, rfl⟩
    go_wp2_with fail
    go_ret2
    exact ⟨end_told (decide_eq_true hc2.out).symm, Below.refl _ _⟩
  · go_enter Try.func46, Try.ntmps46
    go_wp2_with fail
    refine (hs1.out _).mono ?_; rintro e w' ⟨rfl, rfl⟩
    go_wp2_with fail
    refine (hs2.out _).mono ?_; rintro e w' ⟨rfl, rfl⟩
    go_wp2_with fail
    go_ret2
    exact ⟨end_told (by rw [decide_eq_true hc2.out]; rfl), Below.refl _ _⟩
  · go_enter Try.func46, Try.ntmps46
    go_wp2_with fail
    refine (hs1.out _).mono ?_; rintro e w' ⟨rfl, rfl⟩
    go_wp2_with fail
    refine (hs2.out _).mono ?_; rintro e w' ⟨rfl, rfl⟩
    go_wp2_with fail
    go_ret2
    exact ⟨end_told (by rw [hbits.out]; simp), Below.refl _ _⟩
  · go_enter Try.func46, Try.ntmps46
    go_wp2_with fail
    refine (hs1.out _).mono ?_; rintro e w' ⟨rfl, rfl⟩
    go_wp2_with fail
    refine (hs2.out _).mono ?_; rintro e w' ⟨rfl, rfl⟩
    go_wp2_with fail
    go_ret2
    exact ⟨rfl, Below.refl _ _⟩
  · go_enter Try.func46, Try.ntmps46
    go_wp2_with fail
    refine (hs1.out _).mono ?_; rintro e w' ⟨rfl, rfl⟩
    go_wp2_with fail
    refine (hs2.out _).mono ?_; rintro e w' ⟨rfl, rfl⟩
    go_wp2_with fail
    go_ret2
    exact ⟨end_told (decide_eq_true (Int.le_of_eq hc2.out.symm)).symm, Below.refl _ _⟩
  · go_enter Try.func46, Try.ntmps46
    go_wp2_with fail
    refine (hs1.out _).mono ?_; rintro e w' ⟨rfl, rfl⟩
    go_wp2_with fail
    refine (hs2.out _).mono ?_; rintro e w' ⟨rfl, rfl⟩
    go_wp2_with fail
    go_ret2
    exact ⟨rfl, Below.refl _ _⟩
  · go_enter Try.func46, Try.ntmps46
    go_wp2_with fail
    refine (hs1.out _).mono ?_; rintro e w' ⟨rfl, rfl⟩
    go_wp2_with fail
    refine (hs2.out _).mono ?_; rintro e w' ⟨rfl, rfl⟩
    go_wp2_with fail
    go_ret2
    exact ⟨end_told (decide_eq_true (Int.le_of_eq hst.out.symm)).symm, Below.refl _ _⟩

set_option maxHeartbeats 1000000 in
theorem is_64_not (op a b : Int) (w : World) (ha : 0 ≤ a ∧ a ≤ 18446744073709551615) (hb : 0 ≤ b ∧ b ≤ 18446744073709551615) (hc : ¬ a = b)
    (ho : op = 0 ∨ op = 16 ∨ op = 80 ∨ op = 64 ∨ op = 32 ∨ op = 48 ∨ op = 96 ∨ op = 112) :
    Calls Try.prog 46 #[.int .u8 op, .bool true, .int .u64 a, .int .u64 b] w (Told (condXY true op a b) 0 w) := by
  obtain ⟨a1, a2⟩ := ha
  obtain ⟨b1, b2⟩ := hb
  have hs1 := Lib.hid fun w => sign_says a 64 w a1 (by omega)
  have hs2 := Lib.hid fun w => sign_says b 64 w b1 (by omega)
  have e1 := s64_64 a a1 a2
  have e2 := s64_64 b b1 b2
  have hab := sg_inj true a b ⟨a1, by show a < 18446744073709551616; omega⟩ ⟨b1, by show b < 18446744073709551616; omega⟩
  have hbits := Lib.hid (bits_none a b a1 (by omega) b1 (by omega))
  unfold condXY
  generalize sg true a = s at *
  generalize sg true b = t at *
  have hst := Lib.hid (fun z => hc (hab.mp z))
  have hc1 : (a == b) = false := beq_eq_false_iff_ne.mpr hc
  have hc2 := Lib.hid hc
  clear hab hc
  rcases ho with rfl | rfl | rfl | rfl | rfl | rfl | rfl | rfl
  · go_enter Try.func46, Try.ntmps46
    go_wp2_with fail
    refine (hs1.out _).mono ?_; rintro e w' ⟨rfl, rfl⟩
    go_wp2_with fail
    refine (hs2.out _).mono ?_; rintro e w' ⟨rfl, rfl⟩
    go_wp2_with fail
    go_ret2
    exact ⟨rfl, Below.refl _ _⟩
  · go_enter Try.func46, Try.ntmps46
    go_wp2_with fail
    refine (hs1.out _).mono ?_; rintro e w' ⟨rfl, rfl⟩
    go_wp2_with fail
    refine (hs2.out _).mono ?_; rintro e w' ⟨rfl, rfl⟩
    go_wp2_with fail
    go_ret2
    exact ⟨end_told (decide_eq_false hc2.out).symm, Below.refl _ _⟩
  · go_enter Try.func46, Try.ntmps46
    go_wp2_with fail
    refine (hs1.out _).mono ?_; rintro e w' ⟨rfl, rfl⟩
    go_wp2_with fail
    refine (hs2.out _).mono ?_; rintro e w' ⟨rfl, rfl⟩
    go_wp2_with fail
    go_ret2
    exact ⟨end_told (by rw [decide_eq_false hc2.out]; rfl), Below.refl _ _⟩
  · go_enter Try.func46, Try.ntmps46
    go_wp2_with fail
    refine (hs1.out _).mono ?_; rintro e w' ⟨rfl, rfl⟩
    go_wp2_with fail
    refine (hs2.out _).mono ?_; rintro e w' ⟨rfl, rfl⟩
    go_wp2_with fail
    go_ret2
    exact ⟨end_told (by rw [hbits.out]; simp), Below.refl _ _⟩
  · go_enter Try.func46, Try.ntmps46
    go_wp2_with fail
    refine (hs1.out _).mono ?_; rintro e w' ⟨rfl, rfl⟩
    go_wp2_with fail
    refine (hs2.out _).mono ?_; rintro e w' ⟨rfl, rfl⟩
    go_wp2_with fail
    go_ret2
    exact ⟨rfl, Below.refl _ _⟩
  · go_enter Try.func46, Try.ntmps46
    go_wp2_with fail
    refine (hs1.out _).mono ?_; rintro e w' ⟨rfl, rfl⟩
    go_wp2_with fail
    refine (hs2.out _).mono ?_; rintro e w' ⟨rfl, rfl⟩
    go_wp2_with fail
    go_ret2
    exact ⟨end_told (decide_eq_decide.mpr ⟨fun h => Int.le_of_lt h, fun h => Int.lt_iff_le_and_ne.mpr ⟨h, fun x => hc2.out x.symm⟩⟩), Below.refl _ _⟩
  · go_enter Try.func46, Try.ntmps46
    go_wp2_with fail
    refine (hs1.out _).mono ?_; rintro e w' ⟨rfl, rfl⟩
    go_wp2_with fail
    refine (hs2.out _).mono ?_; rintro e w' ⟨rfl, rfl⟩
    go_wp2_with fail
    go_ret2
    exact ⟨rfl, Below.refl _ _⟩
  · go_enter Try.func46, Try.ntmps46
    go_wp2_with fail
    refine (hs1.out _).mono ?_; rintro e w' ⟨rfl, rfl⟩
    go_wp2_with fail
    refine (hs2.out _).mono ?_; rintro e w' ⟨rfl, rfl⟩
    go_wp2_with fail
    go_ret2
    exact ⟨end_told (decide_eq_decide.mpr ⟨fun h => Int.le_of_lt h, fun h => Int.lt_iff_le_and_ne.mpr ⟨h, fun x => hst.out x.symm⟩⟩), Below.refl _ _⟩

end Go.Proofs.Ytpnobkaeoiaelaa
