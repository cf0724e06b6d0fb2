/-
  What span.If's parts answer: holds, above, below, unlike.
  Conditions: the numbers fit their kinds.
-/
import Derived.Test.YtpnobkaeoiaelaaSpanLeaf
import Derived.Test.YtpnobkaeoiaelaaCondSays
import Derived.Test.YtpnobkaeoiaelaaCondMath
namespace Go.Proofs.Ytpnobkaeoiaelaa
open Go.RowKit
set_option linter.unusedVariables false

theorem holds_says (op x y : Int) (w : World) (hx : 0 ≤ x ∧ x ≤ 18446744073709551615) (hy : 0 ≤ y ∧ y ≤ 18446744073709551615) :
    Calls Try.prog 45 #[.int .u8 op, .int .u64 x, .int .u64 y] w (Gives (.bool (condV op true x y)) w) := by
  have H := Lib.hid fun w => is_any op true x y w hx hy
  generalize condV op true x y = v at *
  generalize condE op = k at *
  go_enter Try.func45, Try.ntmps45
  go_wp2_with fail
  refine (H.out _).mono ?_; rintro e w1 ⟨rfl, b1⟩
  go_wp2_with fail
  go_ret
  exact ⟨rfl, b1⟩
theorem holds_to {op x y : Int} {v : Bool} (hx : 0 ≤ x ∧ x ≤ 18446744073709551615) (hy : 0 ≤ y ∧ y ≤ 18446744073709551615) (h : condV op true x y = v) (w : World) :
    Calls Try.prog 45 #[.int .u8 op, .int .u64 x, .int .u64 y] w (Gives (.bool v) w) := by
  rw [← h]; exact holds_says op x y w hx hy

theorem wide_mod {x : Int} (h : 0 ≤ x ∧ x ≤ 18446744073709551615) : x % aM true = x := Int.emod_eq_of_lt h.1 (by show x < 18446744073709551616; omega)
theorem cw_32 {x y : Int} (hx : 0 ≤ x ∧ x ≤ 18446744073709551615) (hy : 0 ≤ y ∧ y ≤ 18446744073709551615) : condV 32 true x y = decide (y < x) := by rw [cv_32, wide_mod hx, wide_mod hy]
theorem cw_48 {x y : Int} (hx : 0 ≤ x ∧ x ≤ 18446744073709551615) (hy : 0 ≤ y ∧ y ≤ 18446744073709551615) : condV 48 true x y = decide (y ≤ x) := by rw [cv_48, wide_mod hx, wide_mod hy]
theorem cw_160 {x y : Int} (hx : 0 ≤ x ∧ x ≤ 18446744073709551615) (hy : 0 ≤ y ∧ y ≤ 18446744073709551615) : condV 160 true x y = decide (x < y) := by rw [cv_160, wide_mod hx, wide_mod hy]
theorem cw_176 {x y : Int} (hx : 0 ≤ x ∧ x ≤ 18446744073709551615) (hy : 0 ≤ y ∧ y ≤ 18446744073709551615) : condV 176 true x y = decide (x ≤ y) := by rw [cv_176, wide_mod hx, wide_mod hy]
theorem cw_16 {x y : Int} (hx : 0 ≤ x ∧ x ≤ 18446744073709551615) (hy : 0 ≤ y ∧ y ≤ 18446744073709551615) : condV 16 true x y = decide (x = y) := by rw [cv_16, wide_mod hx, wide_mod hy]
theorem cw_80 {x y : Int} (hx : 0 ≤ x ∧ x ≤ 18446744073709551615) (hy : 0 ≤ y ∧ y ≤ 18446744073709551615) : condV 80 true x y = !decide (x = y) := by rw [cv_80, wide_mod hx, wide_mod hy]
theorem cw_64 {x y : Int} (hx : 0 ≤ x ∧ x ≤ 18446744073709551615) (hy : 0 ≤ y ∧ y ≤ 18446744073709551615) : condV 64 true x y = !decide (((x.toNat &&& y.toNat : Nat) : Int) = 0) := by rw [cv_64, wide_mod hx, wide_mod hy]

/-- The box of one argument, and behind it a result's. -/
def SDuo (a t : Sp) (w u : World) : Prop := SPair a t w u
theorem SDuo.new (a : Sp) (w : World) : SDuo a (0, 0) w ((w.alloc (.cells #[.int .u64 a.1, .int .u64 a.2] 24)).alloc (.cells #[.int .u64 0, .int .u64 0] 24)) := SPair.new a (0, 0) w
theorem SDuo.after {a t : Sp} {w u u' : World} (h : SDuo a t w u) (k : Below u.heap.size u u') : SDuo a t w u' := SPair.after h k
theorem SDuo.set {a t : Sp} {w u : World} (h : SDuo a t w u) (s : Sp) : SDuo a s w ((u.setCell ⟨w.heap.size + 1, 0, none⟩ (.int .u64 s.1)).setCell ⟨w.heap.size + 1, 1, none⟩ (.int .u64 s.2)) :=
  ⟨(h.1.setCell (by simp) _).setCell (by simp) _, (h.2.1.other _ (by omega)).other _ (by omega), h.2.2.set s⟩

set_option maxHeartbeats 1000000 in
/-- above, where no number of a is enough. -/
theorem sabove_no (op : Int) (a : Sp) (n : Int) (w : World) (h1 : ∀ w, Calls Try.prog 45 #[.int .u8 op, .int .u64 a.2, .int .u64 n] w (Gives (.bool false) w)) :
    Calls Try.prog 38 #[.int .u8 op, sV a, .int .u64 n] w (Gives (sBV (0, 0) false) w) := by
  have H1 := Lib.hid h1
  clear h1
  have hx := Lib.hid (SDuo.new a w)
  go_enter Try.func38, Try.ntmps38
  go_wp2_with fail
  refine (H1.out _).mono ?_; rintro e w1 ⟨rfl, b1⟩
  have x1 := hx.out.after b1
  obtain ⟨c0, c1⟩ := x1.2.2.cells
  obtain ⟨f0, f1⟩ := x1.2.2.free
  have X1 := Lib.hid (x1.set (0, 0))
  clear x1 hx b1
  go_wp2_with fail
  exact bodyPost_ret (v := sBV (0, 0) false) (by simp [results, Try.results38, go_sem, c0, c1]) rfl ⟨rfl, X1.out.1⟩
set_option maxHeartbeats 1000000 in
theorem sbelow_no (op : Int) (a : Sp) (n : Int) (w : World) (h1 : ∀ w, Calls Try.prog 45 #[.int .u8 op, .int .u64 a.1, .int .u64 n] w (Gives (.bool false) w)) :
    Calls Try.prog 39 #[.int .u8 op, sV a, .int .u64 n] w (Gives (sBV (0, 0) false) w) := by
  have H1 := Lib.hid h1
  clear h1
  have hx := Lib.hid (SDuo.new a w)
  go_enter Try.func39, Try.ntmps39
  go_wp2_with fail
  refine (H1.out _).mono ?_; rintro e w1 ⟨rfl, b1⟩
  have x1 := hx.out.after b1
  obtain ⟨c0, c1⟩ := x1.2.2.cells
  obtain ⟨f0, f1⟩ := x1.2.2.free
  have X1 := Lib.hid (x1.set (0, 0))
  clear x1 hx b1
  go_wp2_with fail
  exact bodyPost_ret (v := sBV (0, 0) false) (by simp [results, Try.results39, go_sem, c0, c1]) rfl ⟨rfl, X1.out.1⟩
set_option maxHeartbeats 1000000 in
/-- above, with n, or the number behind it. -/
theorem sabove_yes (op : Int) (a : Sp) (n m : Int) (q : Bool) (w : World) (h1 : ∀ w, Calls Try.prog 45 #[.int .u8 op, .int .u64 a.2, .int .u64 n] w (Gives (.bool true) w))
    (h2 : ∀ w, Calls Try.prog 45 #[.int .u8 op, .int .u64 n, .int .u64 n] w (Gives (.bool q) w)) (h0 : 0 ≤ n) (hm : (q = true ∧ m = n) ∨ (q = false ∧ m = n + 1 ∧ m ≤ 18446744073709551615)) :
    Calls Try.prog 38 #[.int .u8 op, sV a, .int .u64 n] w (Gives (sBV (sT (max a.1 m) a.2) (sTok (max a.1 m) a.2)) w) := by
  have H1 := Lib.hid h1
  have H2 := Lib.hid h2
  clear h1 h2
  have hx := Lib.hid (SDuo.new a w)
  have T := Lib.hid (stold_says (max a.1 m) a.2)
  generalize sT (max a.1 m) a.2 = t at *
  generalize sTok (max a.1 m) a.2 = k at *
  have e1 : max a.1 m = if a.1 < m then m else a.1 := by split <;> omega
  rw [e1] at T
  clear e1
  rcases hm with ⟨rfl, rfl⟩ | ⟨rfl, rfl, hm⟩
  all_goals
    rcases int_lt_or a.1 _ with k1 | k1
  all_goals
    first | rw [if_pos k1] at T | rw [if_neg (by omega)] at T
    go_enter Try.func38, Try.ntmps38
    go_wp2_with fail
    refine (H1.out _).mono ?_; rintro e w1 ⟨rfl, b1⟩
    go_wp2_with fail
    refine (H2.out _).mono ?_; rintro e w2 ⟨rfl, b2⟩
    have x2 := (hx.out.after b1).after b2
    obtain ⟨p0, p1⟩ := x2.2.1.cells
    have X2 := Lib.hid x2
    clear x2 hx b1 b2
    go_wp2_with fail
    refine (T.out _).mono ?_; rintro e w3 ⟨rfl, b3⟩
    have x3 := X2.out.after b3
    obtain ⟨c0, c1⟩ := x3.2.2.cells
    obtain ⟨f0, f1⟩ := x3.2.2.free
    have X3 := Lib.hid (x3.set t)
    clear x3 X2 b3 p0 p1
    go_wp2_with fail
    exact bodyPost_ret (v := sBV t k) (by simp [results, Try.results38, go_sem, c0, c1]) rfl ⟨rfl, X3.out.1⟩
set_option maxHeartbeats 1000000 in
theorem sbelow_yes (op : Int) (a : Sp) (n m : Int) (q : Bool) (w : World) (h1 : ∀ w, Calls Try.prog 45 #[.int .u8 op, .int .u64 a.1, .int .u64 n] w (Gives (.bool true) w))
    (h2 : ∀ w, Calls Try.prog 45 #[.int .u8 op, .int .u64 n, .int .u64 n] w (Gives (.bool q) w)) (h0 : n ≤ 18446744073709551615) (hm : (q = true ∧ m = n) ∨ (q = false ∧ m = n - 1 ∧ 0 ≤ m)) :
    Calls Try.prog 39 #[.int .u8 op, sV a, .int .u64 n] w (Gives (sBV (sT a.1 (min a.2 m)) (sTok a.1 (min a.2 m))) w) := by
  have H1 := Lib.hid h1
  have H2 := Lib.hid h2
  clear h1 h2
  have hx := Lib.hid (SDuo.new a w)
  have T := Lib.hid (stold_says a.1 (min a.2 m))
  generalize sT a.1 (min a.2 m) = t at *
  generalize sTok a.1 (min a.2 m) = k at *
  have e1 : min a.2 m = if m < a.2 then m else a.2 := by split <;> omega
  rw [e1] at T
  clear e1
  rcases hm with ⟨rfl, rfl⟩ | ⟨rfl, rfl, hm⟩
  all_goals
    rcases int_lt_or _ a.2 with k1 | k1
  all_goals
    first | rw [if_pos k1] at T | rw [if_neg (by omega)] at T
    go_enter Try.func39, Try.ntmps39
    go_wp2_with fail
    refine (H1.out _).mono ?_; rintro e w1 ⟨rfl, b1⟩
    go_wp2_with fail
    refine (H2.out _).mono ?_; rintro e w2 ⟨rfl, b2⟩
    have x2 := (hx.out.after b1).after b2
    obtain ⟨p0, p1⟩ := x2.2.1.cells
    have X2 := Lib.hid x2
    clear x2 hx b1 b2
    go_wp2_with fail
    refine (T.out _).mono ?_; rintro e w3 ⟨rfl, b3⟩
    have x3 := X2.out.after b3
    obtain ⟨c0, c1⟩ := x3.2.2.cells
    obtain ⟨f0, f1⟩ := x3.2.2.free
    have X3 := Lib.hid (x3.set t)
    clear x3 X2 b3 p0 p1
    go_wp2_with fail
    exact bodyPost_ret (v := sBV t k) (by simp [results, Try.results39, go_sem, c0, c1]) rfl ⟨rfl, X3.out.1⟩

end Go.Proofs.Ytpnobkaeoiaelaa
