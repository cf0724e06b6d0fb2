/-
  What span.unlike answers.
  Conditions: the numbers fit their kinds.
-/
import Derived.Test.YtpnobkaeoiaelaaSpanIf
namespace Go.Proofs.Ytpnobkaeoiaelaa
open Go.RowKit
set_option linter.unusedVariables false

theorem neb_t {a b : Int} (h : ¬ a = b) : (a != b) = true := bne_iff_ne.mpr h
theorem neb_f {a b : Int} (h : a = b) : (a != b) = false := by rw [h]; simp
theorem eqb_t {a b : Int} (h : a = b) : (a == b) = true := beq_iff_eq.mpr h
theorem eqb_f {a b : Int} (h : ¬ a = b) : (a == b) = false := beq_eq_false_iff_ne.mpr h

set_option maxHeartbeats 1000000 in
theorem sun_one (a b : Sp) (w : World) (h : ¬ b.1 = b.2) : Calls Try.prog 37 #[sV a, sV b] w (Gives (sBV a true) w) := by
  have h1 := neb_t h
  clear h
  have hx := Lib.hid (STrio.new a b w)
  go_enter Try.func37, Try.ntmps37
  go_wp2_with fail
  exact bodyPost_ret (v := sBV a true) (by simp [results, Try.results37, go_sem]) rfl ⟨rfl, below_alloc (below_alloc (below_alloc (Below.refl _ _) _) _) _⟩
set_option maxHeartbeats 1000000 in
theorem sun_two (a b : Sp) (w : World) (h : b.1 = b.2) (hh : sH a b.1 = false) : Calls Try.prog 37 #[sV a, sV b] w (Gives (sBV a true) w) := by
  have h1 := neb_f h
  have H := Lib.hid (shas_says a b.1)
  rw [hh] at H
  clear h hh
  have hx := Lib.hid (STrio.new a b w)
  go_enter Try.func37, Try.ntmps37
  go_wp2_with fail
  refine (H.out _).mono ?_; rintro e w1 ⟨rfl, b1⟩
  have x1 := hx.out.after b1
  obtain ⟨p0, p1⟩ := x1.1.2.1.cells
  obtain ⟨c0, c1⟩ := x1.2.cells
  obtain ⟨f0, f1⟩ := x1.2.free
  have X1 := Lib.hid (x1.set a)
  clear x1 hx b1
  go_wp2_with fail
  exact bodyPost_ret (v := sBV a true) (by simp [results, Try.results37, go_sem, c0, c1]) rfl ⟨rfl, X1.out.1.1⟩
set_option maxHeartbeats 1000000 in
theorem sun_three (a b : Sp) (w : World) (h : b.1 = b.2) (hh : sH a b.1 = true) (h3 : a.1 = a.2) : Calls Try.prog 37 #[sV a, sV b] w (Gives (sBV (0, 0) false) w) := by
  have h1 := neb_f h
  have h2 := eqb_t h3
  have H := Lib.hid (shas_says a b.1)
  rw [hh] at H
  clear h hh h3
  have hx := Lib.hid (STrio.new a b w)
  go_enter Try.func37, Try.ntmps37
  go_wp2_with fail
  refine (H.out _).mono ?_; rintro e w1 ⟨rfl, b1⟩
  have x1 := hx.out.after b1
  obtain ⟨p0, p1⟩ := x1.1.2.1.cells
  obtain ⟨c0, c1⟩ := x1.2.cells
  obtain ⟨f0, f1⟩ := x1.2.free
  have X1 := Lib.hid (x1.set (0, 0))
  clear x1 hx b1
  go_wp2_with fail
  exact bodyPost_ret (v := sBV (0, 0) false) (by simp [results, Try.results37, go_sem, c0, c1]) rfl ⟨rfl, X1.out.1.1⟩
set_option maxHeartbeats 1000000 in
theorem sun_four (a b : Sp) (w : World) (h : b.1 = b.2) (hh : sH a b.1 = true) (h3 : ¬ a.1 = a.2) (h4 : a.1 = b.1) (k0 : 0 ≤ a.1 + 1) (k1 : a.1 + 1 ≤ 18446744073709551615) :
    Calls Try.prog 37 #[sV a, sV b] w (Gives (sBV (a.1 + 1, a.2) true) w) := by
  have h1 := neb_f h
  have h2 := eqb_f h3
  have h5 := eqb_t h4
  have H := Lib.hid (shas_says a b.1)
  rw [hh] at H
  clear h hh h3 h4
  have hx := Lib.hid (STrio.new a b w)
  go_enter Try.func37, Try.ntmps37
  go_wp2_with fail
  refine (H.out _).mono ?_; rintro e w1 ⟨rfl, b1⟩
  have x1 := hx.out.after b1
  obtain ⟨p0, p1⟩ := x1.1.2.1.cells
  obtain ⟨q0, q1⟩ := x1.1.2.2.cells
  obtain ⟨c0, c1⟩ := x1.2.cells
  obtain ⟨f0, f1⟩ := x1.2.free
  obtain ⟨g0, g1⟩ := x1.1.2.1.free
  have X1 := Lib.hid x1
  clear x1 hx b1
  go_wp2_with fail
  exact bodyPost_ret (v := sBV (a.1 + 1, a.2) true) (by simp [results, Try.results37, go_sem, c0, c1]) rfl ⟨rfl, ((X1.out.setA (a.1 + 1)).set (a.1 + 1, a.2)).1.1⟩
set_option maxHeartbeats 1000000 in
theorem sun_five (a b : Sp) (w : World) (h : b.1 = b.2) (hh : sH a b.1 = true) (h3 : ¬ a.1 = a.2) (h4 : ¬ a.1 = b.1) (h5 : a.2 = b.2) (k0 : 0 ≤ a.2 - 1) (k1 : a.2 - 1 ≤ 18446744073709551615) :
    Calls Try.prog 37 #[sV a, sV b] w (Gives (sBV (a.1, a.2 - 1) true) w) := by
  have h1 := neb_f h
  have h2 := eqb_f h3
  have h6 := eqb_f h4
  have h7 := eqb_t h5
  have H := Lib.hid (shas_says a b.1)
  rw [hh] at H
  clear h hh h3 h4 h5
  have hx := Lib.hid (STrio.new a b w)
  go_enter Try.func37, Try.ntmps37
  go_wp2_with fail
  refine (H.out _).mono ?_; rintro e w1 ⟨rfl, b1⟩
  have x1 := hx.out.after b1
  obtain ⟨p0, p1⟩ := x1.1.2.1.cells
  obtain ⟨q0, q1⟩ := x1.1.2.2.cells
  obtain ⟨c0, c1⟩ := x1.2.cells
  obtain ⟨f0, f1⟩ := x1.2.free
  obtain ⟨g0, g1⟩ := x1.1.2.1.free
  have X1 := Lib.hid x1
  clear x1 hx b1
  go_wp2_with fail
  exact bodyPost_ret (v := sBV (a.1, a.2 - 1) true) (by simp [results, Try.results37, go_sem, c0, c1]) rfl ⟨rfl, ((X1.out.setB (a.2 - 1)).set (a.1, a.2 - 1)).1.1⟩
set_option maxHeartbeats 1000000 in
theorem sun_six (a b : Sp) (w : World) (h : b.1 = b.2) (hh : sH a b.1 = true) (h3 : ¬ a.1 = a.2) (h4 : ¬ a.1 = b.1) (h5 : ¬ a.2 = b.2) :
    Calls Try.prog 37 #[sV a, sV b] w (Gives (sBV a true) w) := by
  have h1 := neb_f h
  have h2 := eqb_f h3
  have h6 := eqb_f h4
  have h7 := eqb_f h5
  have H := Lib.hid (shas_says a b.1)
  rw [hh] at H
  clear h hh h3 h4 h5
  have hx := Lib.hid (STrio.new a b w)
  go_enter Try.func37, Try.ntmps37
  go_wp2_with fail
  refine (H.out _).mono ?_; rintro e w1 ⟨rfl, b1⟩
  have x1 := hx.out.after b1
  obtain ⟨p0, p1⟩ := x1.1.2.1.cells
  obtain ⟨q0, q1⟩ := x1.1.2.2.cells
  obtain ⟨c0, c1⟩ := x1.2.cells
  obtain ⟨f0, f1⟩ := x1.2.free
  have X1 := Lib.hid (x1.set a)
  clear x1 hx b1
  go_wp2_with fail
  exact bodyPost_ret (v := sBV a true) (by simp [results, Try.results37, go_sem, c0, c1]) rfl ⟨rfl, X1.out.1.1⟩

theorem sunlike_says (a b : Sp) (w : World) (ha : sIn a) (ra : a.1 ≤ a.2) : Calls Try.prog 37 #[sV a, sV b] w (Gives (sBV (sUn a b) (sUnok a b)) w) := by
  unfold sIn In64 at ha
  obtain ⟨⟨a1, a2⟩, a3, a4⟩ := ha
  by_cases h1 : b.1 = b.2
  · by_cases h2 : a.1 ≤ b.1 ∧ b.1 ≤ a.2
    · have hh : sH a b.1 = true := Bool.and_eq_true_iff.mpr ⟨decide_eq_true h2.1, decide_eq_true h2.2⟩
      have hd : decide (b.1 = b.2 ∧ a.1 ≤ b.1 ∧ b.1 ≤ a.2) = true := decide_eq_true ⟨h1, h2⟩
      have e1 : sUn a b = (if a.1 = a.2 then (0, 0) else if a.1 = b.1 then (a.1 + 1, a.2) else if a.2 = b.2 then (a.1, a.2 - 1) else a) := if_pos ⟨h1, h2⟩
      by_cases h3 : a.1 = a.2
      · have e2 : sUnok a b = false := by unfold sUnok; rw [hd, decide_eq_true h3]; rfl
        rw [e1, e2, if_pos h3]
        exact sun_three a b w h1 hh h3
      · have e2 : sUnok a b = true := by unfold sUnok; rw [hd, decide_eq_false h3]; rfl
        rw [e1, e2, if_neg h3]
        by_cases h4 : a.1 = b.1
        · rw [if_pos h4]
          exact sun_four a b w h1 hh h3 h4 (by omega) (by omega)
        · rw [if_neg h4]
          by_cases h5 : a.2 = b.2
          · rw [if_pos h5]
            exact sun_five a b w h1 hh h3 h4 h5 (by omega) (by omega)
          · rw [if_neg h5]
            exact sun_six a b w h1 hh h3 h4 h5
    · have hh : sH a b.1 = false := by
        cases hq : sH a b.1
        · rfl
        · exact absurd (by simpa [sH] using hq) h2
      have hn : ¬ (b.1 = b.2 ∧ a.1 ≤ b.1 ∧ b.1 ≤ a.2) := fun hx => h2 hx.2
      have e1 : sUn a b = a := if_neg hn
      have e2 : sUnok a b = true := by unfold sUnok; rw [decide_eq_false hn]; rfl
      rw [e1, e2]
      exact sun_two a b w h1 hh
  · have hn : ¬ (b.1 = b.2 ∧ a.1 ≤ b.1 ∧ b.1 ≤ a.2) := fun hx => h1 hx.1
    have e1 : sUn a b = a := if_neg hn
    have e2 : sUnok a b = true := by unfold sUnok; rw [decide_eq_false hn]; rfl
    rw [e1, e2]
    exact sun_one a b w h1

end Go.Proofs.Ytpnobkaeoiaelaa
