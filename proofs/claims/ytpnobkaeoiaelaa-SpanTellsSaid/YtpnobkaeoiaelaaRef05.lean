/-
  The document's own answers of layer 5.
  Conditions: none.
-/
import Derived.Test.YtpnobkaeoiaelaaSpanLeaf
namespace Go.Proofs.Ytpnobkaeoiaelaa
open Go.RowKit
set_option linter.unusedVariables false

theorem rs_right (s : Sp) (w : World) : Calls Try.prog 12 #[sV s] w (Gives (.bool (sR s)) w) := by
  go_enter Try.func12, Try.ntmps12
  go_wp2
  go_ret
  exact ⟨end_bool rfl, below_alloc (Below.refl _ _) _⟩
theorem rs_all (w : World) : Calls Try.prog 14 #[] w (Gives (sV sAll) w) := by
  go_enter Try.func14, Try.ntmps14
  go_wp2
  refine bodyPost_ret (v := sV sAll) (by simp [results, Try.results14, go_sem, sAll]) rfl ⟨rfl, ?_⟩
  exact below_alloc (Below.refl _ _) _
theorem rs_has (s : Sp) (n : Int) (w : World) : Calls Try.prog 16 #[sV s, .int .u64 n] w (Gives (.bool (sH s n)) w) := by
  unfold sH
  rcases int_lt_or n s.1 with h | h
  · have e1 : decide (s.1 ≤ n) = false := decide_eq_false (by omega)
    rw [e1]
    clear e1
    go_enter Try.func16, Try.ntmps16
    go_wp2
    go_ret
    exact ⟨rfl, below_alloc (Below.refl _ _) _⟩
  · have e1 : decide (s.1 ≤ n) = true := decide_eq_true (by omega)
    rw [e1]
    clear e1
    go_enter Try.func16, Try.ntmps16
    go_wp2
    go_ret
    exact ⟨rfl, below_alloc (Below.refl _ _) _⟩
theorem rs_both (a b : Sp) (w : World) : Calls Try.prog 28 #[sV a, sV b] w (Gives (.bool (sRR a b)) w) := by
  have h1 := Lib.hid (rs_right a)
  have h2 := Lib.hid (rs_right b)
  have hx := Lib.hid (SPair.new a b w)
  unfold sRR
  generalize sR b = y at *
  cases ha : sR a
  · rw [ha] at h1
    clear ha
    go_enter Try.func28, Try.ntmps28
    go_wp2_with fail
    refine (h1.out _).mono ?_; rintro e w1 ⟨rfl, b1⟩
    go_wp2_with fail
    go_ret
    exact ⟨rfl, (hx.out.after b1).1⟩
  · rw [ha] at h1
    clear ha
    go_enter Try.func28, Try.ntmps28
    go_wp2_with fail
    refine (h1.out _).mono ?_; rintro e w1 ⟨rfl, b1⟩
    have x1 := hx.out.after b1
    obtain ⟨p0, p1⟩ := x1.2.2.cells
    have X1 := Lib.hid x1
    clear x1 hx b1
    go_wp2_with fail
    refine (h2.out _).mono ?_; rintro e w2 ⟨rfl, b2⟩
    go_wp2_with fail
    go_ret
    exact ⟨rfl, (X1.out.after b2).1⟩
set_option maxHeartbeats 1000000 in
theorem rs_within (a b : Sp) (w : World) : Calls Try.prog 18 #[sV a, sV b] w (Gives (.bool (sW a b)) w) := by
  have h1 := Lib.hid (rs_both a b)
  have hx := Lib.hid (SPair.new a b w)
  unfold sW
  cases ha : sRR a b
  · rw [ha] at h1
    clear ha
    go_enter Try.func18, Try.ntmps18
    go_wp2_with fail
    refine (h1.out _).mono ?_; rintro e w1 ⟨rfl, b1⟩
    go_wp2_with fail
    go_ret
    exact ⟨rfl, (hx.out.after b1).1⟩
  · rw [ha] at h1
    clear ha
    rcases int_lt_or a.1 b.1 with h | h
    · rw [decide_eq_false (p := b.1 ≤ a.1) (by omega)]
      go_enter Try.func18, Try.ntmps18
      go_wp2_with fail
      refine (h1.out _).mono ?_; rintro e w1 ⟨rfl, b1⟩
      have x1 := hx.out.after b1
      obtain ⟨p0, p1⟩ := x1.2.2.cells
      obtain ⟨q0, q1⟩ := x1.2.1.cells
      have X1 := Lib.hid x1
      clear x1 hx b1
      go_wp2_with fail
      go_ret
      exact ⟨rfl, X1.out.1⟩
    · rw [decide_eq_true (p := b.1 ≤ a.1) (by omega)]
      go_enter Try.func18, Try.ntmps18
      go_wp2_with fail
      refine (h1.out _).mono ?_; rintro e w1 ⟨rfl, b1⟩
      have x1 := hx.out.after b1
      obtain ⟨p0, p1⟩ := x1.2.2.cells
      obtain ⟨q0, q1⟩ := x1.2.1.cells
      have X1 := Lib.hid x1
      clear x1 hx b1
      go_wp2_with fail
      go_ret
      exact ⟨rfl, X1.out.1⟩
set_option maxHeartbeats 1000000 in
theorem rs_join (a b : Sp) (w : World) : Calls Try.prog 20 #[sV a, sV b] w (Gives (sV (sJ a b)) w) := by
  have h1 := Lib.hid (rs_both a b)
  have hx := Lib.hid (STrio.new a b w)
  unfold sJ
  cases ha : sRR a b
  · rw [ha] at h1
    clear ha
    go_enter Try.func20, Try.ntmps20
    go_wp2_with fail
    refine (h1.out _).mono ?_; rintro e w1 ⟨rfl, b1⟩
    have x1 := hx.out.after b1
    obtain ⟨c0, c1⟩ := x1.2.cells
    obtain ⟨f0, f1⟩ := x1.2.free
    have X1 := Lib.hid (x1.set (0, 0))
    clear x1 hx b1
    go_wp2_with fail
    exact bodyPost_ret (v := sV (0, 0)) (by simp [results, Try.results20, go_sem, c0, c1]) rfl ⟨rfl, X1.out.1.1⟩
  · rw [ha] at h1
    rw [if_pos rfl]
    clear ha
    have e1 : min a.1 b.1 = if b.1 < a.1 then b.1 else a.1 := by split <;> omega
    have e2 : max a.2 b.2 = if a.2 < b.2 then b.2 else a.2 := by split <;> omega
    rw [e1, e2]
    clear e1 e2
    rcases int_lt_or b.1 a.1 with k1 | k1
    all_goals
      rcases int_lt_or a.2 b.2 with k2 | k2
    all_goals
      first | rw [if_pos k1] | rw [if_neg (by omega)]
      first | rw [if_pos k2] | rw [if_neg (by omega)]
      go_enter Try.func20, Try.ntmps20
      go_wp2_with fail
      refine (h1.out _).mono ?_; rintro e w1 ⟨rfl, b1⟩
      have x1 := hx.out.after b1
      obtain ⟨c0, c1⟩ := x1.2.cells
      obtain ⟨p0, p1⟩ := x1.1.2.2.cells
      obtain ⟨q0, q1⟩ := x1.1.2.1.cells
      obtain ⟨f0, f1⟩ := x1.2.free
      have X1 := Lib.hid x1
      clear x1 hx b1
      go_wp2_with fail
      first
        | exact bodyPost_ret (v := sV (a.1, a.2)) (by simp [results, Try.results20, go_sem, c0, c1]) rfl ⟨rfl, (X1.out.set (a.1, a.2)).1.1⟩
        | exact bodyPost_ret (v := sV (a.1, b.2)) (by simp [results, Try.results20, go_sem, c0, c1]) rfl ⟨rfl, (X1.out.set (a.1, b.2)).1.1⟩
        | exact bodyPost_ret (v := sV (b.1, a.2)) (by simp [results, Try.results20, go_sem, c0, c1]) rfl ⟨rfl, (X1.out.set (b.1, a.2)).1.1⟩
        | exact bodyPost_ret (v := sV (b.1, b.2)) (by simp [results, Try.results20, go_sem, c0, c1]) rfl ⟨rfl, (X1.out.set (b.1, b.2)).1.1⟩
end Go.Proofs.Ytpnobkaeoiaelaa
