/-
  span.Do: whatever tells all numbers.
  Conditions: none.
-/
import Derived.Test.YtpnobkaeoiaelaaSpanDo
namespace Go.Proofs.Ytpnobkaeoiaelaa
open Go.RowKit
set_option linter.unusedVariables false

/-! Whatever tells all numbers. -/
set_option maxHeartbeats 1000000 in
theorem sdo_div0 (a b : Sp) (hz : b.1 = 0) (w : World) (h : sRR a b = true) :
    Calls Try.prog 23 #[.int .u8 48, sV a, sV b] w (Gives (sV sAll) w) := by
  have h1 := Lib.hid (sboth_says a b)
  rw [h] at h1
  have hx := Lib.hid (STrio.new a b w)
  have A := Lib.hid sall_says
  clear h
  have z1 : (b.1 != 0) = false := by rw [hz]; rfl
  clear hz
  generalize sAll = t at *
  go_enter Try.func23, Try.ntmps23
  go_wp2_with fail
  refine (h1.out _).mono ?_; rintro e w1 ⟨rfl, b1⟩
  have x1 := hx.out.after b1
  obtain ⟨p0, p1⟩ := x1.1.2.1.cells
  obtain ⟨q0, q1⟩ := x1.1.2.2.cells
  have X1 := Lib.hid x1
  clear x1 hx b1
  go_wp2_with fail
  refine (A.out _).mono ?_; rintro e w2 ⟨rfl, b2⟩
  have x2 := X1.out.after b2
  obtain ⟨c0, c1⟩ := x2.2.cells
  obtain ⟨f0, f1⟩ := x2.2.free
  have X2 := Lib.hid (x2.set t)
  clear x2 X1 b2 p0 p1 q0 q1
  go_wp2_with fail
  exact bodyPost_ret (v := sV t) (by simp [results, Try.results23, go_sem, c0, c1]) rfl ⟨rfl, X2.out.1.1⟩

set_option maxHeartbeats 1000000 in
theorem sdo_mod0 (a b : Sp) (hz : b.1 = 0) (w : World) (h : sRR a b = true) :
    Calls Try.prog 23 #[.int .u8 144, sV a, sV b] w (Gives (sV sAll) w) := by
  have h1 := Lib.hid (sboth_says a b)
  rw [h] at h1
  have hx := Lib.hid (STrio.new a b w)
  have A := Lib.hid sall_says
  clear h
  have z1 : (b.1 != 0) = false := by rw [hz]; rfl
  clear hz
  generalize sAll = t at *
  go_enter Try.func23, Try.ntmps23
  go_wp2_with fail
  refine (h1.out _).mono ?_; rintro e w1 ⟨rfl, b1⟩
  have x1 := hx.out.after b1
  obtain ⟨p0, p1⟩ := x1.1.2.1.cells
  obtain ⟨q0, q1⟩ := x1.1.2.2.cells
  have X1 := Lib.hid x1
  clear x1 hx b1
  go_wp2_with fail
  refine (A.out _).mono ?_; rintro e w2 ⟨rfl, b2⟩
  have x2 := X1.out.after b2
  obtain ⟨c0, c1⟩ := x2.2.cells
  obtain ⟨f0, f1⟩ := x2.2.free
  have X2 := Lib.hid (x2.set t)
  clear x2 X1 b2 p0 p1 q0 q1
  go_wp2_with fail
  exact bodyPost_ret (v := sV t) (by simp [results, Try.results23, go_sem, c0, c1]) rfl ⟨rfl, X2.out.1.1⟩

set_option maxHeartbeats 1000000 in
theorem sdo_rsh64 (a b : Sp) (hz : 64 ≤ b.2) (w : World) (h : sRR a b = true) :
    Calls Try.prog 23 #[.int .u8 112, sV a, sV b] w (Gives (sV sAll) w) := by
  have h1 := Lib.hid (sboth_says a b)
  rw [h] at h1
  have hx := Lib.hid (STrio.new a b w)
  have A := Lib.hid sall_says
  clear h
  generalize sAll = t at *
  go_enter Try.func23, Try.ntmps23
  go_wp2_with fail
  refine (h1.out _).mono ?_; rintro e w1 ⟨rfl, b1⟩
  have x1 := hx.out.after b1
  obtain ⟨p0, p1⟩ := x1.1.2.1.cells
  obtain ⟨q0, q1⟩ := x1.1.2.2.cells
  have X1 := Lib.hid x1
  clear x1 hx b1
  go_wp2_with fail
  refine (A.out _).mono ?_; rintro e w2 ⟨rfl, b2⟩
  have x2 := X1.out.after b2
  obtain ⟨c0, c1⟩ := x2.2.cells
  obtain ⟨f0, f1⟩ := x2.2.free
  have X2 := Lib.hid (x2.set t)
  clear x2 X1 b2 p0 p1 q0 q1
  go_wp2_with fail
  exact bodyPost_ret (v := sV t) (by simp [results, Try.results23, go_sem, c0, c1]) rfl ⟨rfl, X2.out.1.1⟩

set_option maxHeartbeats 1000000 in
theorem sdo_none (op : Int) (a b : Sp) (o1 : op ≠ 0) (o2 : op ≠ 16) (o3 : op ≠ 32) (o4 : op ≠ 48) (o5 : op ≠ 144) (o6 : op ≠ 80) (o7 : op ≠ 112) (w : World) (h : sRR a b = true) :
    Calls Try.prog 23 #[.int .u8 op, sV a, sV b] w (Gives (sV sAll) w) := by
  have h1 := Lib.hid (sboth_says a b)
  rw [h] at h1
  have hx := Lib.hid (STrio.new a b w)
  have A := Lib.hid sall_says
  clear h
  replace o1 := eq_false' o1
  replace o2 := eq_false' o2
  replace o3 := eq_false' o3
  replace o4 := eq_false' o4
  replace o5 := eq_false' o5
  replace o6 := eq_false' o6
  replace o7 := eq_false' o7
  generalize sAll = t at *
  go_enter Try.func23, Try.ntmps23
  go_wp2_with fail
  refine (h1.out _).mono ?_; rintro e w1 ⟨rfl, b1⟩
  have x1 := hx.out.after b1
  obtain ⟨p0, p1⟩ := x1.1.2.1.cells
  obtain ⟨q0, q1⟩ := x1.1.2.2.cells
  have X1 := Lib.hid x1
  clear x1 hx b1
  go_wp2_with fail
  refine (A.out _).mono ?_; rintro e w2 ⟨rfl, b2⟩
  have x2 := X1.out.after b2
  obtain ⟨c0, c1⟩ := x2.2.cells
  obtain ⟨f0, f1⟩ := x2.2.free
  have X2 := Lib.hid (x2.set t)
  clear x2 X1 b2 p0 p1 q0 q1
  go_wp2_with fail
  exact bodyPost_ret (v := sV t) (by simp [results, Try.results23, go_sem, c0, c1]) rfl ⟨rfl, X2.out.1.1⟩

end Go.Proofs.Ytpnobkaeoiaelaa
