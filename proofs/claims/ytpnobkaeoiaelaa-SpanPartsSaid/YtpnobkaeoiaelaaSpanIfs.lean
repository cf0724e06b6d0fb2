/-
  span.If, case by case.
  Conditions: the numbers fit their kinds.
-/
import Derived.Test.YtpnobkaeoiaelaaSpanUn
namespace Go.Proofs.Ytpnobkaeoiaelaa
open Go.RowKit
set_option linter.unusedVariables false

theorem sif_bad (op : Int) (a b : Sp) (w : World) (h : sRR a b = false) : Calls Try.prog 25 #[.int .u8 op, sV a, sV b] w (Gives (sBV (0, 0) false) w) := by
  have h1 := Lib.hid (sboth_says a b)
  rw [h] at h1
  clear h
  have hx := Lib.hid (STrio.new a b w)
  go_enter Try.func25, Try.ntmps25
  go_wp2_with fail
  refine (h1.out _).mono ?_; rintro e w1 ⟨rfl, b1⟩
  have x1 := hx.out.after b1
  obtain ⟨p0, p1⟩ := x1.1.2.1.cells
  obtain ⟨q0, q1⟩ := x1.1.2.2.cells
  obtain ⟨c0, c1⟩ := x1.2.cells
  obtain ⟨f0, f1⟩ := x1.2.free
  have X1 := Lib.hid (x1.set (0, 0))
  clear x1 hx b1
  go_wp2_with fail
  exact bodyPost_ret (v := sBV (0, 0) false) (by simp [results, Try.results25, go_sem, c0, c1]) rfl ⟨rfl, X1.out.1.1⟩

set_option maxHeartbeats 2000000 in
theorem sif_jeq (a b t : Sp) (k : Bool) (w : World) (h : sRR a b = true) (hc : ∀ w, Calls Try.prog 8 #[sV a, sV b] w (Gives (sBV t k) w)) :
    Calls Try.prog 25 #[.int .u8 16, sV a, sV b] w (Gives (sBV t k) w) := by
  have C := Lib.hid hc
  clear hc
  have h1 := Lib.hid (sboth_says a b)
  rw [h] at h1
  clear h
  have hx := Lib.hid (STrio.new a b w)
  go_enter Try.func25, Try.ntmps25
  go_wp2_with fail
  refine (h1.out _).mono ?_; rintro e w1 ⟨rfl, b1⟩
  have x1 := hx.out.after b1
  obtain ⟨p0, p1⟩ := x1.1.2.1.cells
  obtain ⟨q0, q1⟩ := x1.1.2.2.cells
  obtain ⟨c0, c1⟩ := x1.2.cells
  obtain ⟨f0, f1⟩ := x1.2.free
  have X1 := Lib.hid x1
  clear x1 hx b1
  go_wp2_with fail
  refine (C.out _).mono ?_; rintro e w2 ⟨rfl, b2⟩
  have x2 := X1.out.after b2
  clear c0 c1 f0 f1
  obtain ⟨c0, c1⟩ := x2.2.cells
  obtain ⟨f0, f1⟩ := x2.2.free
  have X2 := Lib.hid (x2.set t)
  clear x2 X1 b2 p0 p1 q0 q1
  go_wp2_with fail
  exact bodyPost_ret (v := sBV t k) (by simp [results, Try.results25, go_sem, c0, c1]) rfl ⟨rfl, X2.out.1.1⟩

set_option maxHeartbeats 2000000 in
theorem sif_jne (a b t : Sp) (k : Bool) (w : World) (h : sRR a b = true) (hc : ∀ w, Calls Try.prog 37 #[sV a, sV b] w (Gives (sBV t k) w)) :
    Calls Try.prog 25 #[.int .u8 80, sV a, sV b] w (Gives (sBV t k) w) := by
  have C := Lib.hid hc
  clear hc
  have h1 := Lib.hid (sboth_says a b)
  rw [h] at h1
  clear h
  have hx := Lib.hid (STrio.new a b w)
  go_enter Try.func25, Try.ntmps25
  go_wp2_with fail
  refine (h1.out _).mono ?_; rintro e w1 ⟨rfl, b1⟩
  have x1 := hx.out.after b1
  obtain ⟨p0, p1⟩ := x1.1.2.1.cells
  obtain ⟨q0, q1⟩ := x1.1.2.2.cells
  obtain ⟨c0, c1⟩ := x1.2.cells
  obtain ⟨f0, f1⟩ := x1.2.free
  have X1 := Lib.hid x1
  clear x1 hx b1
  go_wp2_with fail
  refine (C.out _).mono ?_; rintro e w2 ⟨rfl, b2⟩
  have x2 := X1.out.after b2
  clear c0 c1 f0 f1
  obtain ⟨c0, c1⟩ := x2.2.cells
  obtain ⟨f0, f1⟩ := x2.2.free
  have X2 := Lib.hid (x2.set t)
  clear x2 X1 b2 p0 p1 q0 q1
  go_wp2_with fail
  exact bodyPost_ret (v := sBV t k) (by simp [results, Try.results25, go_sem, c0, c1]) rfl ⟨rfl, X2.out.1.1⟩

set_option maxHeartbeats 2000000 in
theorem sif_jgt (a b t : Sp) (k : Bool) (w : World) (h : sRR a b = true) (hc : ∀ w, Calls Try.prog 38 #[.int .u8 32, sV a, .int .u64 b.1] w (Gives (sBV t k) w)) :
    Calls Try.prog 25 #[.int .u8 32, sV a, sV b] w (Gives (sBV t k) w) := by
  have C := Lib.hid hc
  clear hc
  have h1 := Lib.hid (sboth_says a b)
  rw [h] at h1
  clear h
  have hx := Lib.hid (STrio.new a b w)
  go_enter Try.func25, Try.ntmps25
  go_wp2_with fail
  refine (h1.out _).mono ?_; rintro e w1 ⟨rfl, b1⟩
  have x1 := hx.out.after b1
  obtain ⟨p0, p1⟩ := x1.1.2.1.cells
  obtain ⟨q0, q1⟩ := x1.1.2.2.cells
  obtain ⟨c0, c1⟩ := x1.2.cells
  obtain ⟨f0, f1⟩ := x1.2.free
  have X1 := Lib.hid x1
  clear x1 hx b1
  go_wp2_with fail
  refine (C.out _).mono ?_; rintro e w2 ⟨rfl, b2⟩
  have x2 := X1.out.after b2
  clear c0 c1 f0 f1
  obtain ⟨c0, c1⟩ := x2.2.cells
  obtain ⟨f0, f1⟩ := x2.2.free
  have X2 := Lib.hid (x2.set t)
  clear x2 X1 b2 p0 p1 q0 q1
  go_wp2_with fail
  exact bodyPost_ret (v := sBV t k) (by simp [results, Try.results25, go_sem, c0, c1]) rfl ⟨rfl, X2.out.1.1⟩

set_option maxHeartbeats 2000000 in
theorem sif_jge (a b t : Sp) (k : Bool) (w : World) (h : sRR a b = true) (hc : ∀ w, Calls Try.prog 38 #[.int .u8 48, sV a, .int .u64 b.1] w (Gives (sBV t k) w)) :
    Calls Try.prog 25 #[.int .u8 48, sV a, sV b] w (Gives (sBV t k) w) := by
  have C := Lib.hid hc
  clear hc
  have h1 := Lib.hid (sboth_says a b)
  rw [h] at h1
  clear h
  have hx := Lib.hid (STrio.new a b w)
  go_enter Try.func25, Try.ntmps25
  go_wp2_with fail
  refine (h1.out _).mono ?_; rintro e w1 ⟨rfl, b1⟩
  have x1 := hx.out.after b1
  obtain ⟨p0, p1⟩ := x1.1.2.1.cells
  obtain ⟨q0, q1⟩ := x1.1.2.2.cells
  obtain ⟨c0, c1⟩ := x1.2.cells
  obtain ⟨f0, f1⟩ := x1.2.free
  have X1 := Lib.hid x1
  clear x1 hx b1
  go_wp2_with fail
  refine (C.out _).mono ?_; rintro e w2 ⟨rfl, b2⟩
  have x2 := X1.out.after b2
  clear c0 c1 f0 f1
  obtain ⟨c0, c1⟩ := x2.2.cells
  obtain ⟨f0, f1⟩ := x2.2.free
  have X2 := Lib.hid (x2.set t)
  clear x2 X1 b2 p0 p1 q0 q1
  go_wp2_with fail
  exact bodyPost_ret (v := sBV t k) (by simp [results, Try.results25, go_sem, c0, c1]) rfl ⟨rfl, X2.out.1.1⟩

set_option maxHeartbeats 2000000 in
theorem sif_jlt (a b t : Sp) (k : Bool) (w : World) (h : sRR a b = true) (hc : ∀ w, Calls Try.prog 39 #[.int .u8 160, sV a, .int .u64 b.2] w (Gives (sBV t k) w)) :
    Calls Try.prog 25 #[.int .u8 160, sV a, sV b] w (Gives (sBV t k) w) := by
  have C := Lib.hid hc
  clear hc
  have h1 := Lib.hid (sboth_says a b)
  rw [h] at h1
  clear h
  have hx := Lib.hid (STrio.new a b w)
  go_enter Try.func25, Try.ntmps25
  go_wp2_with fail
  refine (h1.out _).mono ?_; rintro e w1 ⟨rfl, b1⟩
  have x1 := hx.out.after b1
  obtain ⟨p0, p1⟩ := x1.1.2.1.cells
  obtain ⟨q0, q1⟩ := x1.1.2.2.cells
  obtain ⟨c0, c1⟩ := x1.2.cells
  obtain ⟨f0, f1⟩ := x1.2.free
  have X1 := Lib.hid x1
  clear x1 hx b1
  go_wp2_with fail
  refine (C.out _).mono ?_; rintro e w2 ⟨rfl, b2⟩
  have x2 := X1.out.after b2
  clear c0 c1 f0 f1
  obtain ⟨c0, c1⟩ := x2.2.cells
  obtain ⟨f0, f1⟩ := x2.2.free
  have X2 := Lib.hid (x2.set t)
  clear x2 X1 b2 p0 p1 q0 q1
  go_wp2_with fail
  exact bodyPost_ret (v := sBV t k) (by simp [results, Try.results25, go_sem, c0, c1]) rfl ⟨rfl, X2.out.1.1⟩

set_option maxHeartbeats 2000000 in
theorem sif_jle (a b t : Sp) (k : Bool) (w : World) (h : sRR a b = true) (hc : ∀ w, Calls Try.prog 39 #[.int .u8 176, sV a, .int .u64 b.2] w (Gives (sBV t k) w)) :
    Calls Try.prog 25 #[.int .u8 176, sV a, sV b] w (Gives (sBV t k) w) := by
  have C := Lib.hid hc
  clear hc
  have h1 := Lib.hid (sboth_says a b)
  rw [h] at h1
  clear h
  have hx := Lib.hid (STrio.new a b w)
  go_enter Try.func25, Try.ntmps25
  go_wp2_with fail
  refine (h1.out _).mono ?_; rintro e w1 ⟨rfl, b1⟩
  have x1 := hx.out.after b1
  obtain ⟨p0, p1⟩ := x1.1.2.1.cells
  obtain ⟨q0, q1⟩ := x1.1.2.2.cells
  obtain ⟨c0, c1⟩ := x1.2.cells
  obtain ⟨f0, f1⟩ := x1.2.free
  have X1 := Lib.hid x1
  clear x1 hx b1
  go_wp2_with fail
  refine (C.out _).mono ?_; rintro e w2 ⟨rfl, b2⟩
  have x2 := X1.out.after b2
  clear c0 c1 f0 f1
  obtain ⟨c0, c1⟩ := x2.2.cells
  obtain ⟨f0, f1⟩ := x2.2.free
  have X2 := Lib.hid (x2.set t)
  clear x2 X1 b2 p0 p1 q0 q1
  go_wp2_with fail
  exact bodyPost_ret (v := sBV t k) (by simp [results, Try.results25, go_sem, c0, c1]) rfl ⟨rfl, X2.out.1.1⟩

set_option maxHeartbeats 2000000 in
theorem sif_jset_a (a b : Sp) (hz : a.2 = 0) (w : World) (h : sRR a b = true) :
    Calls Try.prog 25 #[.int .u8 64, sV a, sV b] w (Gives (sBV (0, 0) false) w) := by
  have h1 := Lib.hid (sboth_says a b)
  rw [h] at h1
  clear h
  have hx := Lib.hid (STrio.new a b w)
  have z1 := eqb_t hz
  clear hz
  go_enter Try.func25, Try.ntmps25
  go_wp2_with fail
  refine (h1.out _).mono ?_; rintro e w1 ⟨rfl, b1⟩
  have x1 := hx.out.after b1
  obtain ⟨p0, p1⟩ := x1.1.2.1.cells
  obtain ⟨q0, q1⟩ := x1.1.2.2.cells
  obtain ⟨c0, c1⟩ := x1.2.cells
  obtain ⟨f0, f1⟩ := x1.2.free
  have X1 := Lib.hid (x1.set (0, 0))
  clear x1 hx b1
  go_wp2_with fail
  exact bodyPost_ret (v := sBV (0, 0) false) (by simp [results, Try.results25, go_sem, c0, c1]) rfl ⟨rfl, X1.out.1.1⟩

set_option maxHeartbeats 2000000 in
theorem sif_jset_b (a b : Sp) (hz : ¬ a.2 = 0) (hy : b.2 = 0) (w : World) (h : sRR a b = true) :
    Calls Try.prog 25 #[.int .u8 64, sV a, sV b] w (Gives (sBV (0, 0) false) w) := by
  have h1 := Lib.hid (sboth_says a b)
  rw [h] at h1
  clear h
  have hx := Lib.hid (STrio.new a b w)
  have z1 := eqb_f hz
  have z2 := eqb_t hy
  clear hz hy
  go_enter Try.func25, Try.ntmps25
  go_wp2_with fail
  refine (h1.out _).mono ?_; rintro e w1 ⟨rfl, b1⟩
  have x1 := hx.out.after b1
  obtain ⟨p0, p1⟩ := x1.1.2.1.cells
  obtain ⟨q0, q1⟩ := x1.1.2.2.cells
  obtain ⟨c0, c1⟩ := x1.2.cells
  obtain ⟨f0, f1⟩ := x1.2.free
  have X1 := Lib.hid (x1.set (0, 0))
  clear x1 hx b1
  go_wp2_with fail
  exact bodyPost_ret (v := sBV (0, 0) false) (by simp [results, Try.results25, go_sem, c0, c1]) rfl ⟨rfl, X1.out.1.1⟩

set_option maxHeartbeats 2000000 in
theorem sif_jset (a b : Sp) (hz : ¬ a.2 = 0) (hy : ¬ b.2 = 0) (w : World) (h : sRR a b = true) :
    Calls Try.prog 25 #[.int .u8 64, sV a, sV b] w (Gives (sBV a true) w) := by
  have h1 := Lib.hid (sboth_says a b)
  rw [h] at h1
  clear h
  have hx := Lib.hid (STrio.new a b w)
  have z1 := eqb_f hz
  have z2 := eqb_f hy
  clear hz hy
  go_enter Try.func25, Try.ntmps25
  go_wp2_with fail
  refine (h1.out _).mono ?_; rintro e w1 ⟨rfl, b1⟩
  have x1 := hx.out.after b1
  obtain ⟨p0, p1⟩ := x1.1.2.1.cells
  obtain ⟨q0, q1⟩ := x1.1.2.2.cells
  obtain ⟨c0, c1⟩ := x1.2.cells
  obtain ⟨f0, f1⟩ := x1.2.free
  have X1 := Lib.hid (x1.set a)
  clear x1 hx b1
  go_wp2_with fail
  exact bodyPost_ret (v := sBV a true) (by simp [results, Try.results25, go_sem, c0, c1]) rfl ⟨rfl, X1.out.1.1⟩

set_option maxHeartbeats 2000000 in
theorem sif_other (op : Int) (a b : Sp) (o1 : ¬ op = 16) (o2 : ¬ op = 80) (o3 : ¬ op = 64) (o4 : ¬ op = 32) (o5 : ¬ op = 48) (o6 : ¬ op = 160) (o7 : ¬ op = 176) (w : World) (h : sRR a b = true) :
    Calls Try.prog 25 #[.int .u8 op, sV a, sV b] w (Gives (sBV a true) w) := by
  have h1 := Lib.hid (sboth_says a b)
  rw [h] at h1
  clear h
  have hx := Lib.hid (STrio.new a b w)
  replace o1 := eqb_f o1
  replace o2 := eqb_f o2
  replace o3 := eqb_f o3
  replace o4 := eqb_f o4
  replace o5 := eqb_f o5
  replace o6 := eqb_f o6
  replace o7 := eqb_f o7
  go_enter Try.func25, Try.ntmps25
  go_wp2_with fail
  refine (h1.out _).mono ?_; rintro e w1 ⟨rfl, b1⟩
  have x1 := hx.out.after b1
  obtain ⟨p0, p1⟩ := x1.1.2.1.cells
  obtain ⟨q0, q1⟩ := x1.1.2.2.cells
  obtain ⟨c0, c1⟩ := x1.2.cells
  obtain ⟨f0, f1⟩ := x1.2.free
  have X1 := Lib.hid (x1.set a)
  clear x1 hx b1
  go_wp2_with fail
  exact bodyPost_ret (v := sBV a true) (by simp [results, Try.results25, go_sem, c0, c1]) rfl ⟨rfl, X1.out.1.1⟩

end Go.Proofs.Ytpnobkaeoiaelaa
