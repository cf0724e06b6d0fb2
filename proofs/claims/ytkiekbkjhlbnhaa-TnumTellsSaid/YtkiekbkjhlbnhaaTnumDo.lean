/-
  What tnum.Do answers, op by op, and whole.
  Conditions: none.
-/
import Derived.Test.YtkiekbkjhlbnhaaTnumMul
namespace Go.Proofs.Ytkiekbkjhlbnhaa
open Go.RowKit
set_option linter.unusedVariables false

set_option maxHeartbeats 1000000 in
theorem do_wrong (op : Int) (a b : Tn) (w : World) (hr : tRR a b = false) : Calls Try.prog 24 #[.int .u8 op, tV a, tV b] w (Gives (tBV (0#64, 0#64) false) w) := by
  have hx := Lib.hid (Trio.new a b w)
  have h0 := Lib.hid (both_says a b)
  rw [hr] at h0
  clear hr
  go_enter Try.func24, Try.ntmps24
  go_wp2_with fail
  refine (h0.out _).mono ?_; rintro e w1 ⟨rfl, b1⟩
  have x1 := hx.out.after b1
  obtain ⟨p0, p1, p2, p3⟩ := x1.1.cells
  obtain ⟨c0, c1⟩ := x1.2.cells
  obtain ⟨f0, f1⟩ := x1.2.free
  have X1 := Lib.hid x1
  clear x1 b1 hx h0
  go_wp2_with fail
  have X2 := Lib.hid (X1.out.set (0#64, 0#64))
  exact bodyPost_ret (v := tBV (0#64, 0#64) false) (by simp [results, Try.results24, go_sem, c0, c1]) rfl ⟨rfl, X2.out.1.1⟩

set_option maxHeartbeats 1000000 in
theorem do_other (op : Int) (a b : Tn) (w : World) (hr : tRR a b = true) (h1 : ¬ op = 0) (h2 : ¬ op = 16) (h3 : ¬ op = 32) (h4 : ¬ op = 80) (h5 : ¬ op = 64) (h6 : ¬ op = 160) (h7 : ¬ op = 96) (h8 : ¬ op = 112) : Calls Try.prog 24 #[.int .u8 op, tV a, tV b] w (Gives (tBV (0#64, 0#64) false) w) := by
  have hx := Lib.hid (Trio.new a b w)
  have h0 := Lib.hid (both_says a b)
  rw [hr] at h0
  clear hr
  go_enter Try.func24, Try.ntmps24
  go_wp2_with fail
  refine (h0.out _).mono ?_; rintro e w1 ⟨rfl, b1⟩
  have x1 := hx.out.after b1
  obtain ⟨p0, p1, p2, p3⟩ := x1.1.cells
  obtain ⟨c0, c1⟩ := x1.2.cells
  obtain ⟨f0, f1⟩ := x1.2.free
  have X1 := Lib.hid x1
  clear x1 b1 hx h0
  go_wp2_with fail
  have X2 := Lib.hid (X1.out.set (0#64, 0#64))
  exact bodyPost_ret (v := tBV (0#64, 0#64) false) (by simp [results, Try.results24, go_sem, c0, c1]) rfl ⟨rfl, X2.out.1.1⟩

set_option maxHeartbeats 1000000 in
theorem do_add (a b : Tn) (w : World) (hr : tRR a b = true) : Calls Try.prog 24 #[.int .u8 0, tV a, tV b] w (Gives (tBV (tAdd a b) true) w) := by
  have hx := Lib.hid (Trio.new a b w)
  have h0 := Lib.hid (both_says a b)
  rw [hr] at h0
  clear hr
  have hc : Hid (∀ w, Calls _ _ _ _ _) := Lib.hid (add_says a b)
  generalize tAdd a b = t at *
  go_enter Try.func24, Try.ntmps24
  go_wp2_with fail
  refine (h0.out _).mono ?_; rintro e w1 ⟨rfl, b1⟩
  have x1 := hx.out.after b1
  obtain ⟨p0, p1, p2, p3⟩ := x1.1.cells
  obtain ⟨c0, c1⟩ := x1.2.cells
  obtain ⟨f0, f1⟩ := x1.2.free
  have X1 := Lib.hid x1
  clear x1 b1 hx h0
  go_wp2_with fail
  refine (hc.out _).mono ?_; rintro e w2 ⟨rfl, b2⟩
  have x2 := X1.out.after b2
  clear p0 p1 p2 p3 c0 c1 f0 f1 X1 b2
  obtain ⟨c0, c1⟩ := x2.2.cells
  obtain ⟨f0, f1⟩ := x2.2.free
  have X2 := Lib.hid (x2.set t)
  clear x2
  go_wp2_with fail
  exact bodyPost_ret (v := tBV t true) (by simp [results, Try.results24, go_sem, c0, c1]) rfl ⟨rfl, X2.out.1.1⟩

set_option maxHeartbeats 1000000 in
theorem do_sub (a b : Tn) (w : World) (hr : tRR a b = true) : Calls Try.prog 24 #[.int .u8 16, tV a, tV b] w (Gives (tBV (tSub a b) true) w) := by
  have hx := Lib.hid (Trio.new a b w)
  have h0 := Lib.hid (both_says a b)
  rw [hr] at h0
  clear hr
  have hc : Hid (∀ w, Calls _ _ _ _ _) := Lib.hid (sub_says a b)
  generalize tSub a b = t at *
  go_enter Try.func24, Try.ntmps24
  go_wp2_with fail
  refine (h0.out _).mono ?_; rintro e w1 ⟨rfl, b1⟩
  have x1 := hx.out.after b1
  obtain ⟨p0, p1, p2, p3⟩ := x1.1.cells
  obtain ⟨c0, c1⟩ := x1.2.cells
  obtain ⟨f0, f1⟩ := x1.2.free
  have X1 := Lib.hid x1
  clear x1 b1 hx h0
  go_wp2_with fail
  refine (hc.out _).mono ?_; rintro e w2 ⟨rfl, b2⟩
  have x2 := X1.out.after b2
  clear p0 p1 p2 p3 c0 c1 f0 f1 X1 b2
  obtain ⟨c0, c1⟩ := x2.2.cells
  obtain ⟨f0, f1⟩ := x2.2.free
  have X2 := Lib.hid (x2.set t)
  clear x2
  go_wp2_with fail
  exact bodyPost_ret (v := tBV t true) (by simp [results, Try.results24, go_sem, c0, c1]) rfl ⟨rfl, X2.out.1.1⟩

set_option maxHeartbeats 1000000 in
theorem do_mul (a b : Tn) (w : World) (hr : tRR a b = true) : Calls Try.prog 24 #[.int .u8 32, tV a, tV b] w (Gives (tBV (tMulTo a b 64) true) w) := by
  have hx := Lib.hid (Trio.new a b w)
  have h0 := Lib.hid (both_says a b)
  rw [hr] at h0
  clear hr
  have hc : Hid (∀ w, Calls _ _ _ _ _) := Lib.hid (mul_says a b)
  generalize tMulTo a b 64 = t at *
  go_enter Try.func24, Try.ntmps24
  go_wp2_with fail
  refine (h0.out _).mono ?_; rintro e w1 ⟨rfl, b1⟩
  have x1 := hx.out.after b1
  obtain ⟨p0, p1, p2, p3⟩ := x1.1.cells
  obtain ⟨c0, c1⟩ := x1.2.cells
  obtain ⟨f0, f1⟩ := x1.2.free
  have X1 := Lib.hid x1
  clear x1 b1 hx h0
  go_wp2_with fail
  refine (hc.out _).mono ?_; rintro e w2 ⟨rfl, b2⟩
  have x2 := X1.out.after b2
  clear p0 p1 p2 p3 c0 c1 f0 f1 X1 b2
  obtain ⟨c0, c1⟩ := x2.2.cells
  obtain ⟨f0, f1⟩ := x2.2.free
  have X2 := Lib.hid (x2.set t)
  clear x2
  go_wp2_with fail
  exact bodyPost_ret (v := tBV t true) (by simp [results, Try.results24, go_sem, c0, c1]) rfl ⟨rfl, X2.out.1.1⟩

set_option maxHeartbeats 1000000 in
theorem do_lsh (a b : Tn) (w : World) (hr : tRR a b = true) (hk : tKnown b = true) : Calls Try.prog 24 #[.int .u8 96, tV a, tV b] w (Gives (tBV (tLsh a b.1.toNat) true) w) := by
  have hx := Lib.hid (Trio.new a b w)
  have h0 := Lib.hid (both_says a b)
  rw [hr] at h0
  clear hr
  have hc : Hid (∀ w, Calls _ _ _ _ _) := Lib.hid fun w => move_lsh a b w hk
  generalize tLsh a b.1.toNat = t at *
  clear hk
  go_enter Try.func24, Try.ntmps24
  go_wp2_with fail
  refine (h0.out _).mono ?_; rintro e w1 ⟨rfl, b1⟩
  have x1 := hx.out.after b1
  obtain ⟨p0, p1, p2, p3⟩ := x1.1.cells
  obtain ⟨c0, c1⟩ := x1.2.cells
  obtain ⟨f0, f1⟩ := x1.2.free
  have X1 := Lib.hid x1
  clear x1 b1 hx h0
  go_wp2_with fail
  refine (hc.out _).mono ?_; rintro e w2 ⟨rfl, b2⟩
  have x2 := X1.out.after b2
  clear p0 p1 p2 p3 c0 c1 f0 f1 X1 b2
  obtain ⟨c0, c1⟩ := x2.2.cells
  obtain ⟨f0, f1⟩ := x2.2.free
  have X2 := Lib.hid (x2.set t)
  clear x2
  go_wp2_with fail
  exact bodyPost_ret (v := tBV t true) (by simp [results, Try.results24, go_sem, c0, c1]) rfl ⟨rfl, X2.out.1.1⟩

set_option maxHeartbeats 1000000 in
theorem do_no_lsh (a b : Tn) (w : World) (hr : tRR a b = true) (hk : tKnown b = false) : Calls Try.prog 24 #[.int .u8 96, tV a, tV b] w (Gives (tBV (0#64, 0#64) false) w) := by
  have hx := Lib.hid (Trio.new a b w)
  have h0 := Lib.hid (both_says a b)
  rw [hr] at h0
  clear hr
  have hc : Hid (∀ w, Calls _ _ _ _ _) := Lib.hid fun w => move_no 96 a b w hk
  clear hk
  go_enter Try.func24, Try.ntmps24
  go_wp2_with fail
  refine (h0.out _).mono ?_; rintro e w1 ⟨rfl, b1⟩
  have x1 := hx.out.after b1
  obtain ⟨p0, p1, p2, p3⟩ := x1.1.cells
  obtain ⟨c0, c1⟩ := x1.2.cells
  obtain ⟨f0, f1⟩ := x1.2.free
  have X1 := Lib.hid x1
  clear x1 b1 hx h0
  go_wp2_with fail
  refine (hc.out _).mono ?_; rintro e w2 ⟨rfl, b2⟩
  have x2 := X1.out.after b2
  clear p0 p1 p2 p3 c0 c1 f0 f1 X1 b2
  obtain ⟨c0, c1⟩ := x2.2.cells
  obtain ⟨f0, f1⟩ := x2.2.free
  have X2 := Lib.hid (x2.set (0#64, 0#64))
  clear x2
  go_wp2_with fail
  exact bodyPost_ret (v := tBV (0#64, 0#64) false) (by simp [results, Try.results24, go_sem, c0, c1]) rfl ⟨rfl, X2.out.1.1⟩

set_option maxHeartbeats 1000000 in
theorem do_rsh (a b : Tn) (w : World) (hr : tRR a b = true) (hk : tKnown b = true) : Calls Try.prog 24 #[.int .u8 112, tV a, tV b] w (Gives (tBV (tRsh a b.1.toNat) true) w) := by
  have hx := Lib.hid (Trio.new a b w)
  have h0 := Lib.hid (both_says a b)
  rw [hr] at h0
  clear hr
  have hc : Hid (∀ w, Calls _ _ _ _ _) := Lib.hid fun w => move_rsh a b w hk
  generalize tRsh a b.1.toNat = t at *
  clear hk
  go_enter Try.func24, Try.ntmps24
  go_wp2_with fail
  refine (h0.out _).mono ?_; rintro e w1 ⟨rfl, b1⟩
  have x1 := hx.out.after b1
  obtain ⟨p0, p1, p2, p3⟩ := x1.1.cells
  obtain ⟨c0, c1⟩ := x1.2.cells
  obtain ⟨f0, f1⟩ := x1.2.free
  have X1 := Lib.hid x1
  clear x1 b1 hx h0
  go_wp2_with fail
  refine (hc.out _).mono ?_; rintro e w2 ⟨rfl, b2⟩
  have x2 := X1.out.after b2
  clear p0 p1 p2 p3 c0 c1 f0 f1 X1 b2
  obtain ⟨c0, c1⟩ := x2.2.cells
  obtain ⟨f0, f1⟩ := x2.2.free
  have X2 := Lib.hid (x2.set t)
  clear x2
  go_wp2_with fail
  exact bodyPost_ret (v := tBV t true) (by simp [results, Try.results24, go_sem, c0, c1]) rfl ⟨rfl, X2.out.1.1⟩

set_option maxHeartbeats 1000000 in
theorem do_no_rsh (a b : Tn) (w : World) (hr : tRR a b = true) (hk : tKnown b = false) : Calls Try.prog 24 #[.int .u8 112, tV a, tV b] w (Gives (tBV (0#64, 0#64) false) w) := by
  have hx := Lib.hid (Trio.new a b w)
  have h0 := Lib.hid (both_says a b)
  rw [hr] at h0
  clear hr
  have hc : Hid (∀ w, Calls _ _ _ _ _) := Lib.hid fun w => move_no 112 a b w hk
  clear hk
  go_enter Try.func24, Try.ntmps24
  go_wp2_with fail
  refine (h0.out _).mono ?_; rintro e w1 ⟨rfl, b1⟩
  have x1 := hx.out.after b1
  obtain ⟨p0, p1, p2, p3⟩ := x1.1.cells
  obtain ⟨c0, c1⟩ := x1.2.cells
  obtain ⟨f0, f1⟩ := x1.2.free
  have X1 := Lib.hid x1
  clear x1 b1 hx h0
  go_wp2_with fail
  refine (hc.out _).mono ?_; rintro e w2 ⟨rfl, b2⟩
  have x2 := X1.out.after b2
  clear p0 p1 p2 p3 c0 c1 f0 f1 X1 b2
  obtain ⟨c0, c1⟩ := x2.2.cells
  obtain ⟨f0, f1⟩ := x2.2.free
  have X2 := Lib.hid (x2.set (0#64, 0#64))
  clear x2
  go_wp2_with fail
  exact bodyPost_ret (v := tBV (0#64, 0#64) false) (by simp [results, Try.results24, go_sem, c0, c1]) rfl ⟨rfl, X2.out.1.1⟩

set_option maxHeartbeats 1000000 in
theorem do_xor (a b : Tn) (w : World) (hr : tRR a b = true) : Calls Try.prog 24 #[.int .u8 160, tV a, tV b] w (Gives (tBV (tXor a b) true) w) := by
  have hx := Lib.hid (Trio.new a b w)
  have h0 := Lib.hid (both_says a b)
  rw [hr] at h0
  clear hr
  have hc : Hid (∀ w, Calls _ _ _ _ _) := Lib.hid (made_says (a.1 ^^^ b.1) (a.2 ||| b.2))
  have hv : tMade (a.1 ^^^ b.1) (a.2 ||| b.2) = tXor a b := rfl
  rw [hv] at hc
  clear hv
  generalize tXor a b = t at *
  go_enter Try.func24, Try.ntmps24
  go_wp2_with fail
  refine (h0.out _).mono ?_; rintro e w1 ⟨rfl, b1⟩
  have x1 := hx.out.after b1
  obtain ⟨p0, p1, p2, p3⟩ := x1.1.cells
  obtain ⟨c0, c1⟩ := x1.2.cells
  obtain ⟨f0, f1⟩ := x1.2.free
  have X1 := Lib.hid x1
  clear x1 b1 hx h0
  go_wp2_with fail
  simp only [bv_xor, bv_or]
  refine (hc.out _).mono ?_; rintro e w2 ⟨rfl, b2⟩
  have x2 := X1.out.after b2
  clear p0 p1 p2 p3 c0 c1 f0 f1 X1 b2
  obtain ⟨c0, c1⟩ := x2.2.cells
  obtain ⟨f0, f1⟩ := x2.2.free
  have X2 := Lib.hid (x2.set t)
  clear x2
  go_wp2_with fail
  exact bodyPost_ret (v := tBV t true) (by simp [results, Try.results24, go_sem, c0, c1]) rfl ⟨rfl, X2.out.1.1⟩

set_option maxHeartbeats 1000000 in
theorem do_or (a b : Tn) (w : World) (hr : tRR a b = true) : Calls Try.prog 24 #[.int .u8 64, tV a, tV b] w (Gives (tBV (tOr a b) true) w) := by
  have hx := Lib.hid (Trio.new a b w)
  have h0 := Lib.hid (both_says a b)
  rw [hr] at h0
  clear hr
  go_enter Try.func24, Try.ntmps24
  go_wp2_with fail
  refine (h0.out _).mono ?_; rintro e w1 ⟨rfl, b1⟩
  have x1 := hx.out.after b1
  obtain ⟨p0, p1, p2, p3⟩ := x1.1.cells
  obtain ⟨c0, c1⟩ := x1.2.cells
  obtain ⟨f0, f1⟩ := x1.2.free
  have X1 := Lib.hid x1
  clear x1 b1 hx h0
  go_wp2_with fail
  simp only [bv_or, bv_andNot]
  have hv : (a.1 ||| b.1, (a.2 ||| b.2) &&& ~~~(a.1 ||| b.1)) = tOr a b := rfl
  generalize (a.2 ||| b.2) &&& ~~~(a.1 ||| b.1) = m at *
  generalize a.1 ||| b.1 = v at *
  rw [← hv]
  have X2 := Lib.hid (X1.out.set (v, m))
  exact bodyPost_ret (v := tBV (v, m) true) (by simp [results, Try.results24, go_sem, c0, c1]) rfl ⟨rfl, X2.out.1.1⟩

end Go.Proofs.Ytkiekbkjhlbnhaa
