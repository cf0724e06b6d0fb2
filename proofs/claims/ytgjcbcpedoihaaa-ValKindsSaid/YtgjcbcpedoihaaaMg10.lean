/-
  Texts, one behind the other: Vr3, Vr4.
  Conditions: those that each theorem states.
-/
import Derived.Test.YtgjcbcpedoihaaaMg9

namespace Go.Proofs.Ytgjcbcpedoihaaa
open Go Go.RowKit
set_option maxRecDepth 100000
set_option linter.unusedVariables false
set_option linter.unusedSimpArgs false

theorem fWi_self {f : Fc} (h : fR f = true) : fWi f f = true := by
  unfold fWi
  rw [h]
  exact fS_le (of_decide_eq_true h)
theorem vW_nums {a b : Vl} (h : (a.k == 1 && b.k == 1) = true) (hr : (vR a && vR b) = true) : vW a b = fWi a.n b.n := by
  unfold vW
  rw [hr, h]
  have hb : (b.k == 0) = false := by
    have := (Bool.and_eq_true_iff.mp h).2
    rw [beq_iff_eq] at this
    rw [this]; rfl
  rw [hb, Bool.true_and, Bool.false_or, Bool.true_and]
  cases he : vEq a b
  · rfl
  · rw [vEq_iff.mp he]
    rw [fWi_self (vR_parts (Bool.and_eq_true_iff.mp hr).2).2.1]
    rfl
theorem vW_none {a b : Vl} (h : (vR a && vR b) = false) : vW a b = false := by unfold vW; rw [h]; rfl
theorem vW_else {a b : Vl} (h : (a.k == 1 && b.k == 1) = false) (hr : (vR a && vR b) = true) : vW a b = (b.k == 0 || vEq a b) := by
  unfold vW
  rw [hr, h, Bool.true_and, Bool.false_and, Bool.or_false]
set_option maxRecDepth 100000 in
set_option maxHeartbeats 8000000 in
theorem rv_within (a b : Vl) (w : World) (ha : vIn a) (hb : vIn b) : Calls Try.prog 21 #[vV a, vV b] w (Gives (.bool (vW a b)) w) := by
  have R1 := Lib.hid fun w => rv_right a w ha
  have R2 := Lib.hid fun w => rv_right b w hb
  have FW := Lib.hid fun w => rf_within a.n b.n w ha.2.1 hb.2.1
  have hx := Lib.hid (VDuo.new a b w)
  obtain ⟨c0, c1, c2, c3, c4, c5, c6⟩ := hx.out.2.1.cells
  obtain ⟨d0, d1, d2, d3, d4, d5, d6⟩ := hx.out.2.2.cells
  have HW : Hid ((vR a && vR b) = false → vW a b = false) := Lib.hid vW_none
  have HN : Hid ((vR a && vR b) = true → (a.k == 1 && b.k == 1) = true → vW a b = fWi a.n b.n) := Lib.hid fun h1 h2 => vW_nums h2 h1
  have HE : Hid ((vR a && vR b) = true → (a.k == 1 && b.k == 1) = false → vW a b = (b.k == 0 || vEq a b)) := Lib.hid fun h1 h2 => vW_else h2 h1
  generalize vW a b = R at *
  generalize fWi a.n b.n = q at *
  generalize vR a = r1 at *
  generalize vR b = r2 at *
  cases r1
  · have HR := Lib.hid (HW.out rfl)
    clear HW HN HE
    go_enter Try.func21, Try.ntmps21
    go_wp2_with fail
    refine (R1.out _).mono ?_; rintro e w1 ⟨rfl, b1⟩
    have x1 := Lib.hid (hx.out.after b1)
    clear hx b1 c0 c1 c2 c3 c4 c5 c6 d0 d1 d2 d3 d4 d5 d6
    obtain ⟨c0, c1, c2, c3, c4, c5, c6⟩ := x1.out.2.1.cells
    obtain ⟨d0, d1, d2, d3, d4, d5, d6⟩ := x1.out.2.2.cells
    go_wp2_with fail
    go_ret
    exact ⟨end_bool HR.out.symm, x1.out.1⟩
  cases r2
  · have HR := Lib.hid (HW.out rfl)
    clear HW HN HE
    go_enter Try.func21, Try.ntmps21
    go_wp2_with fail
    refine (R1.out _).mono ?_; rintro e w1 ⟨rfl, b1⟩
    have x1 := Lib.hid (hx.out.after b1)
    clear hx b1 c0 c1 c2 c3 c4 c5 c6 d0 d1 d2 d3 d4 d5 d6
    obtain ⟨c0, c1, c2, c3, c4, c5, c6⟩ := x1.out.2.1.cells
    obtain ⟨d0, d1, d2, d3, d4, d5, d6⟩ := x1.out.2.2.cells
    go_wp2_with fail
    refine (R2.out _).mono ?_; rintro e w2 ⟨rfl, b2⟩
    have x2 := Lib.hid (x1.out.after b2)
    clear x1 b2 c0 c1 c2 c3 c4 c5 c6 d0 d1 d2 d3 d4 d5 d6
    obtain ⟨c0, c1, c2, c3, c4, c5, c6⟩ := x2.out.2.1.cells
    obtain ⟨d0, d1, d2, d3, d4, d5, d6⟩ := x2.out.2.2.cells
    go_wp2_with fail
    go_ret
    exact ⟨end_bool HR.out.symm, x2.out.1⟩
  clear HW
  cases h1 : (a.k == 1)
  rotate_left
  cases h2 : (b.k == 1)
  rotate_left
  · have HR := Lib.hid (HN.out rfl (by rw [h1, h2]; rfl))
    clear HN HE
    go_enter Try.func21, Try.ntmps21
    go_wp2_with fail
    refine (R1.out _).mono ?_; rintro e w1 ⟨rfl, b1⟩
    have x1 := Lib.hid (hx.out.after b1)
    clear hx b1 c0 c1 c2 c3 c4 c5 c6 d0 d1 d2 d3 d4 d5 d6
    obtain ⟨c0, c1, c2, c3, c4, c5, c6⟩ := x1.out.2.1.cells
    obtain ⟨d0, d1, d2, d3, d4, d5, d6⟩ := x1.out.2.2.cells
    go_wp2_with fail
    refine (R2.out _).mono ?_; rintro e w2 ⟨rfl, b2⟩
    have x2 := Lib.hid (x1.out.after b2)
    clear x1 b2 c0 c1 c2 c3 c4 c5 c6 d0 d1 d2 d3 d4 d5 d6
    obtain ⟨c0, c1, c2, c3, c4, c5, c6⟩ := x2.out.2.1.cells
    obtain ⟨d0, d1, d2, d3, d4, d5, d6⟩ := x2.out.2.2.cells
    go_wp2_with fail
    refine (FW.out _).mono ?_; rintro e w3 ⟨rfl, b3⟩
    have x3 := Lib.hid (x2.out.after b3)
    clear x2 b3 c0 c1 c2 c3 c4 c5 c6 d0 d1 d2 d3 d4 d5 d6
    obtain ⟨c0, c1, c2, c3, c4, c5, c6⟩ := x3.out.2.1.cells
    obtain ⟨d0, d1, d2, d3, d4, d5, d6⟩ := x3.out.2.2.cells
    go_wp2_with fail
    go_ret
    exact ⟨end_bool HR.out.symm, x3.out.1⟩
  · have HR := Lib.hid (HE.out rfl (by rw [h1]; rfl))
    clear HN HE
    cases h0 : (b.k == 0)
    · rw [h0] at HR
      cases he : vEq a b
      · rw [he] at HR
        have EQ : ∀ u, (binOp .eql 30 (vV a) (vV b)).run Try.prog u = .ok (.bool false) u := fun u => by rw [val_eql, he]
        clear he
        go_enter Try.func21, Try.ntmps21
        go_wp2_with fail
        refine (R1.out _).mono ?_; rintro e w1 ⟨rfl, b1⟩
        have x1 := Lib.hid (hx.out.after b1)
        clear hx b1 c0 c1 c2 c3 c4 c5 c6 d0 d1 d2 d3 d4 d5 d6
        obtain ⟨c0, c1, c2, c3, c4, c5, c6⟩ := x1.out.2.1.cells
        obtain ⟨d0, d1, d2, d3, d4, d5, d6⟩ := x1.out.2.2.cells
        go_wp2_with fail
        refine (R2.out _).mono ?_; rintro e w2 ⟨rfl, b2⟩
        have x2 := Lib.hid (x1.out.after b2)
        clear x1 b2 c0 c1 c2 c3 c4 c5 c6 d0 d1 d2 d3 d4 d5 d6
        obtain ⟨c0, c1, c2, c3, c4, c5, c6⟩ := x2.out.2.1.cells
        obtain ⟨d0, d1, d2, d3, d4, d5, d6⟩ := x2.out.2.2.cells
        go_wp2_with fail
        go_ret
        exact ⟨end_bool HR.out.symm, x2.out.1⟩
      · rw [he] at HR
        have EQ : ∀ u, (binOp .eql 30 (vV a) (vV b)).run Try.prog u = .ok (.bool true) u := fun u => by rw [val_eql, he]
        clear he
        go_enter Try.func21, Try.ntmps21
        go_wp2_with fail
        refine (R1.out _).mono ?_; rintro e w1 ⟨rfl, b1⟩
        have x1 := Lib.hid (hx.out.after b1)
        clear hx b1 c0 c1 c2 c3 c4 c5 c6 d0 d1 d2 d3 d4 d5 d6
        obtain ⟨c0, c1, c2, c3, c4, c5, c6⟩ := x1.out.2.1.cells
        obtain ⟨d0, d1, d2, d3, d4, d5, d6⟩ := x1.out.2.2.cells
        go_wp2_with fail
        refine (R2.out _).mono ?_; rintro e w2 ⟨rfl, b2⟩
        have x2 := Lib.hid (x1.out.after b2)
        clear x1 b2 c0 c1 c2 c3 c4 c5 c6 d0 d1 d2 d3 d4 d5 d6
        obtain ⟨c0, c1, c2, c3, c4, c5, c6⟩ := x2.out.2.1.cells
        obtain ⟨d0, d1, d2, d3, d4, d5, d6⟩ := x2.out.2.2.cells
        go_wp2_with fail
        go_ret
        exact ⟨end_bool HR.out.symm, x2.out.1⟩
    · rw [h0, Bool.true_or] at HR
      go_enter Try.func21, Try.ntmps21
      go_wp2_with fail
      refine (R1.out _).mono ?_; rintro e w1 ⟨rfl, b1⟩
      have x1 := Lib.hid (hx.out.after b1)
      clear hx b1 c0 c1 c2 c3 c4 c5 c6 d0 d1 d2 d3 d4 d5 d6
      obtain ⟨c0, c1, c2, c3, c4, c5, c6⟩ := x1.out.2.1.cells
      obtain ⟨d0, d1, d2, d3, d4, d5, d6⟩ := x1.out.2.2.cells
      go_wp2_with fail
      refine (R2.out _).mono ?_; rintro e w2 ⟨rfl, b2⟩
      have x2 := Lib.hid (x1.out.after b2)
      clear x1 b2 c0 c1 c2 c3 c4 c5 c6 d0 d1 d2 d3 d4 d5 d6
      obtain ⟨c0, c1, c2, c3, c4, c5, c6⟩ := x2.out.2.1.cells
      obtain ⟨d0, d1, d2, d3, d4, d5, d6⟩ := x2.out.2.2.cells
      go_wp2_with fail
      go_ret
      exact ⟨end_bool HR.out.symm, x2.out.1⟩
  · have HR := Lib.hid (HE.out rfl (by rw [h1, h2]; rfl))
    clear HN HE
    cases h0 : (b.k == 0)
    · rw [h0] at HR
      cases he : vEq a b
      · rw [he] at HR
        have EQ : ∀ u, (binOp .eql 30 (vV a) (vV b)).run Try.prog u = .ok (.bool false) u := fun u => by rw [val_eql, he]
        clear he
        go_enter Try.func21, Try.ntmps21
        go_wp2_with fail
        refine (R1.out _).mono ?_; rintro e w1 ⟨rfl, b1⟩
        have x1 := Lib.hid (hx.out.after b1)
        clear hx b1 c0 c1 c2 c3 c4 c5 c6 d0 d1 d2 d3 d4 d5 d6
        obtain ⟨c0, c1, c2, c3, c4, c5, c6⟩ := x1.out.2.1.cells
        obtain ⟨d0, d1, d2, d3, d4, d5, d6⟩ := x1.out.2.2.cells
        go_wp2_with fail
        refine (R2.out _).mono ?_; rintro e w2 ⟨rfl, b2⟩
        have x2 := Lib.hid (x1.out.after b2)
        clear x1 b2 c0 c1 c2 c3 c4 c5 c6 d0 d1 d2 d3 d4 d5 d6
        obtain ⟨c0, c1, c2, c3, c4, c5, c6⟩ := x2.out.2.1.cells
        obtain ⟨d0, d1, d2, d3, d4, d5, d6⟩ := x2.out.2.2.cells
        go_wp2_with fail
        go_ret
        exact ⟨end_bool HR.out.symm, x2.out.1⟩
      · rw [he] at HR
        have EQ : ∀ u, (binOp .eql 30 (vV a) (vV b)).run Try.prog u = .ok (.bool true) u := fun u => by rw [val_eql, he]
        clear he
        go_enter Try.func21, Try.ntmps21
        go_wp2_with fail
        refine (R1.out _).mono ?_; rintro e w1 ⟨rfl, b1⟩
        have x1 := Lib.hid (hx.out.after b1)
        clear hx b1 c0 c1 c2 c3 c4 c5 c6 d0 d1 d2 d3 d4 d5 d6
        obtain ⟨c0, c1, c2, c3, c4, c5, c6⟩ := x1.out.2.1.cells
        obtain ⟨d0, d1, d2, d3, d4, d5, d6⟩ := x1.out.2.2.cells
        go_wp2_with fail
        refine (R2.out _).mono ?_; rintro e w2 ⟨rfl, b2⟩
        have x2 := Lib.hid (x1.out.after b2)
        clear x1 b2 c0 c1 c2 c3 c4 c5 c6 d0 d1 d2 d3 d4 d5 d6
        obtain ⟨c0, c1, c2, c3, c4, c5, c6⟩ := x2.out.2.1.cells
        obtain ⟨d0, d1, d2, d3, d4, d5, d6⟩ := x2.out.2.2.cells
        go_wp2_with fail
        go_ret
        exact ⟨end_bool HR.out.symm, x2.out.1⟩
    · rw [h0, Bool.true_or] at HR
      go_enter Try.func21, Try.ntmps21
      go_wp2_with fail
      refine (R1.out _).mono ?_; rintro e w1 ⟨rfl, b1⟩
      have x1 := Lib.hid (hx.out.after b1)
      clear hx b1 c0 c1 c2 c3 c4 c5 c6 d0 d1 d2 d3 d4 d5 d6
      obtain ⟨c0, c1, c2, c3, c4, c5, c6⟩ := x1.out.2.1.cells
      obtain ⟨d0, d1, d2, d3, d4, d5, d6⟩ := x1.out.2.2.cells
      go_wp2_with fail
      refine (R2.out _).mono ?_; rintro e w2 ⟨rfl, b2⟩
      have x2 := Lib.hid (x1.out.after b2)
      clear x1 b2 c0 c1 c2 c3 c4 c5 c6 d0 d1 d2 d3 d4 d5 d6
      obtain ⟨c0, c1, c2, c3, c4, c5, c6⟩ := x2.out.2.1.cells
      obtain ⟨d0, d1, d2, d3, d4, d5, d6⟩ := x2.out.2.2.cells
      go_wp2_with fail
      go_ret
      exact ⟨end_bool HR.out.symm, x2.out.1⟩
set_option maxRecDepth 100000 in
set_option maxHeartbeats 8000000 in
theorem rv_join (a b : Vl) (w : World) (ha : vIn a) (hb : vIn b) : Calls Try.prog 23 #[vV a, vV b] w (Gives (vV (vJ a b)) w) := by
  have R1 := Lib.hid fun w => rv_right a w ha
  have R2 := Lib.hid fun w => rv_right b w hb
  have FW := Lib.hid fun w => rf_join a.n b.n w ha.2.1 hb.2.1
  have NM := Lib.hid fun w => rv_num (fJ a.n b.n) w (fJ_in' ha.2.1 hb.2.1)
  have hx := Lib.hid (VTwo.new a b vZc 30 w)
  obtain ⟨c0, c1, c2, c3, c4, c5, c6⟩ := hx.out.2.1.cells
  obtain ⟨d0, d1, d2, d3, d4, d5, d6⟩ := hx.out.2.2.1.cells
  unfold vJ
  generalize vNum (fJ a.n b.n) = nj at *
  generalize fJ a.n b.n = q at *
  generalize vR a = r1 at *
  generalize vR b = r2 at *
  cases r1
  · rw [Bool.false_and, if_neg Bool.false_ne_true]
    go_enter Try.func23, Try.ntmps23
    go_wp2_with fail
    refine (R1.out _).mono ?_; rintro e w1 ⟨rfl, b1⟩
    have x1 := Lib.hid (hx.out.after b1)
    clear hx b1 c0 c1 c2 c3 c4 c5 c6 d0 d1 d2 d3 d4 d5 d6
    obtain ⟨c0, c1, c2, c3, c4, c5, c6⟩ := x1.out.2.1.cells
    obtain ⟨d0, d1, d2, d3, d4, d5, d6⟩ := x1.out.2.2.1.cells
    obtain ⟨y0, y1, y2, y3, y4, y5, y6⟩ := Blk.seven x1.out.2.2.2
    obtain ⟨f0, f1, f2, f3, f4, f5, f6⟩ := vj_free x1.out.2.2.2
    have BB := Lib.hid fun a b c d e f g => below_vals (k := w.heap.size + 2) x1.out.1 (by omega) a b c d e f g
    go_wp2_with fail
    exact bodyPost_ret (v := vV vZ) (by simp [results, Try.results23, go_sem, y0, y1, y2, y3, y4, y5, y6, fZ, vZ]) rfl ⟨rfl, BB.out _ _ _ _ _ _ _⟩
  rw [Bool.true_and]
  cases r2
  · rw [if_neg Bool.false_ne_true]
    go_enter Try.func23, Try.ntmps23
    go_wp2_with fail
    refine (R1.out _).mono ?_; rintro e w1 ⟨rfl, b1⟩
    have x1 := Lib.hid (hx.out.after b1)
    clear hx b1 c0 c1 c2 c3 c4 c5 c6 d0 d1 d2 d3 d4 d5 d6
    obtain ⟨c0, c1, c2, c3, c4, c5, c6⟩ := x1.out.2.1.cells
    obtain ⟨d0, d1, d2, d3, d4, d5, d6⟩ := x1.out.2.2.1.cells
    go_wp2_with fail
    refine (R2.out _).mono ?_; rintro e w2 ⟨rfl, b2⟩
    have x2 := Lib.hid (x1.out.after b2)
    clear x1 b2 c0 c1 c2 c3 c4 c5 c6 d0 d1 d2 d3 d4 d5 d6
    obtain ⟨c0, c1, c2, c3, c4, c5, c6⟩ := x2.out.2.1.cells
    obtain ⟨d0, d1, d2, d3, d4, d5, d6⟩ := x2.out.2.2.1.cells
    obtain ⟨y0, y1, y2, y3, y4, y5, y6⟩ := Blk.seven x2.out.2.2.2
    obtain ⟨f0, f1, f2, f3, f4, f5, f6⟩ := vj_free x2.out.2.2.2
    have BB := Lib.hid fun a b c d e f g => below_vals (k := w.heap.size + 2) x2.out.1 (by omega) a b c d e f g
    go_wp2_with fail
    exact bodyPost_ret (v := vV vZ) (by simp [results, Try.results23, go_sem, y0, y1, y2, y3, y4, y5, y6, fZ, vZ]) rfl ⟨rfl, BB.out _ _ _ _ _ _ _⟩
  rw [if_pos rfl]
  cases h1 : (a.k == 1)
  rotate_left
  cases h2 : (b.k == 1)
  rotate_left
  · rw [Bool.true_and, if_pos rfl]
    go_enter Try.func23, Try.ntmps23
    go_wp2_with fail
    refine (R1.out _).mono ?_; rintro e w1 ⟨rfl, b1⟩
    have x1 := Lib.hid (hx.out.after b1)
    clear hx b1 c0 c1 c2 c3 c4 c5 c6 d0 d1 d2 d3 d4 d5 d6
    obtain ⟨c0, c1, c2, c3, c4, c5, c6⟩ := x1.out.2.1.cells
    obtain ⟨d0, d1, d2, d3, d4, d5, d6⟩ := x1.out.2.2.1.cells
    go_wp2_with fail
    refine (R2.out _).mono ?_; rintro e w2 ⟨rfl, b2⟩
    have x2 := Lib.hid (x1.out.after b2)
    clear x1 b2 c0 c1 c2 c3 c4 c5 c6 d0 d1 d2 d3 d4 d5 d6
    obtain ⟨c0, c1, c2, c3, c4, c5, c6⟩ := x2.out.2.1.cells
    obtain ⟨d0, d1, d2, d3, d4, d5, d6⟩ := x2.out.2.2.1.cells
    go_wp2_with fail
    refine (FW.out _).mono ?_; rintro e w3 ⟨rfl, b3⟩
    have x3 := Lib.hid (x2.out.after b3)
    clear x2 b3 c0 c1 c2 c3 c4 c5 c6 d0 d1 d2 d3 d4 d5 d6
    obtain ⟨c0, c1, c2, c3, c4, c5, c6⟩ := x3.out.2.1.cells
    obtain ⟨d0, d1, d2, d3, d4, d5, d6⟩ := x3.out.2.2.1.cells
    go_wp2_with fail
    refine (NM.out _).mono ?_; rintro e w4 ⟨rfl, b4⟩
    have x4 := Lib.hid (x3.out.after b4)
    clear x3 b4 c0 c1 c2 c3 c4 c5 c6 d0 d1 d2 d3 d4 d5 d6
    obtain ⟨c0, c1, c2, c3, c4, c5, c6⟩ := x4.out.2.1.cells
    obtain ⟨d0, d1, d2, d3, d4, d5, d6⟩ := x4.out.2.2.1.cells
    obtain ⟨y0, y1, y2, y3, y4, y5, y6⟩ := Blk.seven x4.out.2.2.2
    obtain ⟨f0, f1, f2, f3, f4, f5, f6⟩ := vj_free x4.out.2.2.2
    have BB := Lib.hid fun a b c d e f g => below_vals (k := w.heap.size + 2) x4.out.1 (by omega) a b c d e f g
    go_wp2_with fail
    exact bodyPost_ret (v := vV nj) (by simp [results, Try.results23, go_sem, y0, y1, y2, y3, y4, y5, y6, fZ, vZ]) rfl ⟨rfl, BB.out _ _ _ _ _ _ _⟩
  · rw [Bool.false_and, if_neg Bool.false_ne_true]
    cases he : vEq a b
    · rw [if_neg Bool.false_ne_true]
      have EQ : ∀ u, (binOp .eql 30 (vV a) (vV b)).run Try.prog u = .ok (.bool false) u := fun u => by rw [val_eql, he]
      clear he
      go_enter Try.func23, Try.ntmps23
      go_wp2_with fail
      refine (R1.out _).mono ?_; rintro e w1 ⟨rfl, b1⟩
      have x1 := Lib.hid (hx.out.after b1)
      clear hx b1 c0 c1 c2 c3 c4 c5 c6 d0 d1 d2 d3 d4 d5 d6
      obtain ⟨c0, c1, c2, c3, c4, c5, c6⟩ := x1.out.2.1.cells
      obtain ⟨d0, d1, d2, d3, d4, d5, d6⟩ := x1.out.2.2.1.cells
      go_wp2_with fail
      refine (R2.out _).mono ?_; rintro e w2 ⟨rfl, b2⟩
      have x2 := Lib.hid (x1.out.after b2)
      clear x1 b2 c0 c1 c2 c3 c4 c5 c6 d0 d1 d2 d3 d4 d5 d6
      obtain ⟨c0, c1, c2, c3, c4, c5, c6⟩ := x2.out.2.1.cells
      obtain ⟨d0, d1, d2, d3, d4, d5, d6⟩ := x2.out.2.2.1.cells
      obtain ⟨y0, y1, y2, y3, y4, y5, y6⟩ := Blk.seven x2.out.2.2.2
      obtain ⟨f0, f1, f2, f3, f4, f5, f6⟩ := vj_free x2.out.2.2.2
      have BB := Lib.hid fun a b c d e f g => below_vals (k := w.heap.size + 2) x2.out.1 (by omega) a b c d e f g
      go_wp2_with fail
      exact bodyPost_ret (v := vV vZ) (by simp [results, Try.results23, go_sem, y0, y1, y2, y3, y4, y5, y6, fZ, vZ]) rfl ⟨rfl, BB.out _ _ _ _ _ _ _⟩
    · rw [if_pos rfl]
      have EQ : ∀ u, (binOp .eql 30 (vV a) (vV b)).run Try.prog u = .ok (.bool true) u := fun u => by rw [val_eql, he]
      clear he
      go_enter Try.func23, Try.ntmps23
      go_wp2_with fail
      refine (R1.out _).mono ?_; rintro e w1 ⟨rfl, b1⟩
      have x1 := Lib.hid (hx.out.after b1)
      clear hx b1 c0 c1 c2 c3 c4 c5 c6 d0 d1 d2 d3 d4 d5 d6
      obtain ⟨c0, c1, c2, c3, c4, c5, c6⟩ := x1.out.2.1.cells
      obtain ⟨d0, d1, d2, d3, d4, d5, d6⟩ := x1.out.2.2.1.cells
      go_wp2_with fail
      refine (R2.out _).mono ?_; rintro e w2 ⟨rfl, b2⟩
      have x2 := Lib.hid (x1.out.after b2)
      clear x1 b2 c0 c1 c2 c3 c4 c5 c6 d0 d1 d2 d3 d4 d5 d6
      obtain ⟨c0, c1, c2, c3, c4, c5, c6⟩ := x2.out.2.1.cells
      obtain ⟨d0, d1, d2, d3, d4, d5, d6⟩ := x2.out.2.2.1.cells
      obtain ⟨y0, y1, y2, y3, y4, y5, y6⟩ := Blk.seven x2.out.2.2.2
      obtain ⟨f0, f1, f2, f3, f4, f5, f6⟩ := vj_free x2.out.2.2.2
      have BB := Lib.hid fun a b c d e f g => below_vals (k := w.heap.size + 2) x2.out.1 (by omega) a b c d e f g
      go_wp2_with fail
      exact bodyPost_ret (v := vV a) (by simp [results, Try.results23, go_sem, y0, y1, y2, y3, y4, y5, y6, fZ, vZ]) rfl ⟨rfl, BB.out _ _ _ _ _ _ _⟩
  · rw [Bool.true_and, if_neg Bool.false_ne_true]
    cases he : vEq a b
    · rw [if_neg Bool.false_ne_true]
      have EQ : ∀ u, (binOp .eql 30 (vV a) (vV b)).run Try.prog u = .ok (.bool false) u := fun u => by rw [val_eql, he]
      clear he
      go_enter Try.func23, Try.ntmps23
      go_wp2_with fail
      refine (R1.out _).mono ?_; rintro e w1 ⟨rfl, b1⟩
      have x1 := Lib.hid (hx.out.after b1)
      clear hx b1 c0 c1 c2 c3 c4 c5 c6 d0 d1 d2 d3 d4 d5 d6
      obtain ⟨c0, c1, c2, c3, c4, c5, c6⟩ := x1.out.2.1.cells
      obtain ⟨d0, d1, d2, d3, d4, d5, d6⟩ := x1.out.2.2.1.cells
      go_wp2_with fail
      refine (R2.out _).mono ?_; rintro e w2 ⟨rfl, b2⟩
      have x2 := Lib.hid (x1.out.after b2)
      clear x1 b2 c0 c1 c2 c3 c4 c5 c6 d0 d1 d2 d3 d4 d5 d6
      obtain ⟨c0, c1, c2, c3, c4, c5, c6⟩ := x2.out.2.1.cells
      obtain ⟨d0, d1, d2, d3, d4, d5, d6⟩ := x2.out.2.2.1.cells
      obtain ⟨y0, y1, y2, y3, y4, y5, y6⟩ := Blk.seven x2.out.2.2.2
      obtain ⟨f0, f1, f2, f3, f4, f5, f6⟩ := vj_free x2.out.2.2.2
      have BB := Lib.hid fun a b c d e f g => below_vals (k := w.heap.size + 2) x2.out.1 (by omega) a b c d e f g
      go_wp2_with fail
      exact bodyPost_ret (v := vV vZ) (by simp [results, Try.results23, go_sem, y0, y1, y2, y3, y4, y5, y6, fZ, vZ]) rfl ⟨rfl, BB.out _ _ _ _ _ _ _⟩
    · rw [if_pos rfl]
      have EQ : ∀ u, (binOp .eql 30 (vV a) (vV b)).run Try.prog u = .ok (.bool true) u := fun u => by rw [val_eql, he]
      clear he
      go_enter Try.func23, Try.ntmps23
      go_wp2_with fail
      refine (R1.out _).mono ?_; rintro e w1 ⟨rfl, b1⟩
      have x1 := Lib.hid (hx.out.after b1)
      clear hx b1 c0 c1 c2 c3 c4 c5 c6 d0 d1 d2 d3 d4 d5 d6
      obtain ⟨c0, c1, c2, c3, c4, c5, c6⟩ := x1.out.2.1.cells
      obtain ⟨d0, d1, d2, d3, d4, d5, d6⟩ := x1.out.2.2.1.cells
      go_wp2_with fail
      refine (R2.out _).mono ?_; rintro e w2 ⟨rfl, b2⟩
      have x2 := Lib.hid (x1.out.after b2)
      clear x1 b2 c0 c1 c2 c3 c4 c5 c6 d0 d1 d2 d3 d4 d5 d6
      obtain ⟨c0, c1, c2, c3, c4, c5, c6⟩ := x2.out.2.1.cells
      obtain ⟨d0, d1, d2, d3, d4, d5, d6⟩ := x2.out.2.2.1.cells
      obtain ⟨y0, y1, y2, y3, y4, y5, y6⟩ := Blk.seven x2.out.2.2.2
      obtain ⟨f0, f1, f2, f3, f4, f5, f6⟩ := vj_free x2.out.2.2.2
      have BB := Lib.hid fun a b c d e f g => below_vals (k := w.heap.size + 2) x2.out.1 (by omega) a b c d e f g
      go_wp2_with fail
      exact bodyPost_ret (v := vV a) (by simp [results, Try.results23, go_sem, y0, y1, y2, y3, y4, y5, y6, fZ, vZ]) rfl ⟨rfl, BB.out _ _ _ _ _ _ _⟩

end Go.Proofs.Ytgjcbcpedoihaaa

namespace Go.Proofs.Ytgjcbcpedoihaaa
open Go Go.RowKit
set_option maxRecDepth 100000
set_option linter.unusedVariables false
set_option linter.unusedSimpArgs false

theorem vP_kinds {v : Vl} (h : vP v = true) : (v.k == 2) = true ∨ (v.k == 3) = true ∨ (v.k == 5) = true := by
  unfold vP at h
  have := (Bool.and_eq_true_iff.mp h).2
  simp only [Bool.or_eq_true] at this
  rcases this with (h | h) | h
  · exact Or.inl h
  · exact Or.inr (Or.inl h)
  · exact Or.inr (Or.inr h)
theorem vR_move {v : Vl} (h : vP v = true) (o : Int) : vR { v with o := o } = near o := by
  obtain ⟨e, e1, e2, e3⟩ := vR_parts (vP_right h)
  have h1 : decide (0 ≤ v.i) = true := decide_eq_true e2.1
  have h2 : decide (v.i < 8) = true := decide_eq_true e2.2
  have hs : vSaid { v with o := o } = { v with o := o } := by
    rcases vP_kinds h with k | k | k
    · rw [said2 k] at e
      rw [said2 (v := { v with o := o }) k, e]
    · rw [said3 k] at e
      rw [said3 (v := { v with o := o }) k, e]
    · rw [said5 k] at e
      rw [said5 (v := { v with o := o }) k, e]
  rw [vR_of hs, vEq_refl]
  show (true && (fR v.n && (decide (0 ≤ v.i) && (decide (v.i < 8) && near o)))) = _
  rw [e1, h1, h2]
  rfl
theorem near_no {x : Int} (h : near x = false) : x < -1048576 ∨ 1048576 < x := by
  rcases Int.lt_or_le x (-1048576) with k | k
  · exact Or.inl k
  · rcases Int.lt_or_le 1048576 x with k2 | k2
    · exact Or.inr k2
    · rw [near_iff.mpr ⟨k, k2⟩] at h; cases h
theorem rv_moved (v : Vl) (x : Int) (w : World) (hv : vIn v) (hp : vP v = true) (h1 : -1048576 ≤ x) (h2 : x ≤ 1048576) : Calls Try.prog 13 #[vV { v with o := v.o + x }] w (Gives (.bool (near (v.o + x))) w) := by
  have ho := near_iff.mp (vR_parts (vP_right hp)).2.2.2
  rw [← vR_move hp]
  exact rv_right _ w ⟨hv.1, hv.2.1, hv.2.2.1, by dsimp only; omega⟩
set_option maxRecDepth 100000 in
set_option maxHeartbeats 8000000 in
theorem rv_move (v : Vl) (n : BitVec 64) (w : World) (hv : vIn v) : Calls Try.prog 10 #[vV v, uV n] w (Gives (.tuple #[vV ((vM v n).getD vZ), .bool (vM v n).isSome]) w) := by
  have P := Lib.hid fun w => rv_pointer v w hv
  have hw := asI_wrap n
  have hx := Lib.hid (VMv.new v vZc w)
  obtain ⟨c0, c1, c2, c3, c4, c5, c6⟩ := hx.out.2.1.cells
  unfold vM
  cases hp : vP v
  · rw [hp] at P
    rw [Bool.false_and, if_neg Bool.false_ne_true]
    go_enter Try.func10, Try.ntmps10
    go_wp2_with fail
    refine (P.out _).mono ?_; rintro e w2 ⟨rfl, b2⟩
    have x2 := Lib.hid (hx.out.after b2)
    clear hx b2 c0 c1 c2 c3 c4 c5 c6
    obtain ⟨y0, y1, y2, y3, y4, y5, y6⟩ := Blk.seven x2.out.2.2
    obtain ⟨f0, f1, f2, f3, f4, f5, f6⟩ := vj_free x2.out.2.2
    have BB := Lib.hid fun a b c d e f g => below_vals (k := w.heap.size + 1) x2.out.1 (by omega) a b c d e f g
    go_wp2_with fail
    exact bodyPost_ret (v := .tuple #[vV vZ, .bool false]) (by simp [results, Try.results10, go_sem, y0, y1, y2, y3, y4, y5, y6, fZ, vZ]) rfl ⟨rfl, BB.out _ _ _ _ _ _ _⟩
  · rw [hp] at P
    have ho := near_iff.mp (vR_parts (vP_right hp)).2.2.2
    have R2 := Lib.hid fun w (h1 : -1048576 ≤ asI n) (h2 : asI n ≤ 1048576) => rv_moved v (asI n) w hv hp h1 h2
    rw [Bool.true_and]
    obtain ⟨ho1, ho2⟩ := ho
    clear hp hv
    cases h1 : near (asI n)
    · have NO2 := near_no h1
      clear h1 R2
      rw [Bool.false_and, if_neg Bool.false_ne_true]
      generalize asI n = x at *
      rcases NO2 with k | k
      · have d1 : decide (x < -1048576) = true := decide_eq_true k
        clear k
        go_enter Try.func10, Try.ntmps10
        go_wp2_with fail
        refine (P.out _).mono ?_; rintro e w2 ⟨rfl, b2⟩
        have x2 := Lib.hid (hx.out.after b2)
        clear hx b2 c0 c1 c2 c3 c4 c5 c6
        obtain ⟨y0, y1, y2, y3, y4, y5, y6⟩ := Blk.seven x2.out.2.2
        obtain ⟨f0, f1, f2, f3, f4, f5, f6⟩ := vj_free x2.out.2.2
        have BB := Lib.hid fun a b c d e f g => below_vals (k := w.heap.size + 1) x2.out.1 (by omega) a b c d e f g
        go_wp2_with fail
        exact bodyPost_ret (v := .tuple #[vV vZ, .bool false]) (by simp [results, Try.results10, go_sem, y0, y1, y2, y3, y4, y5, y6, fZ, vZ]) rfl ⟨rfl, BB.out _ _ _ _ _ _ _⟩
      · have d1 : decide (x < -1048576) = false := decide_eq_false (by omega)
        have d2 : decide (1048576 < x) = true := decide_eq_true k
        clear k
        go_enter Try.func10, Try.ntmps10
        go_wp2_with fail
        refine (P.out _).mono ?_; rintro e w2 ⟨rfl, b2⟩
        have x2 := Lib.hid (hx.out.after b2)
        clear hx b2 c0 c1 c2 c3 c4 c5 c6
        obtain ⟨y0, y1, y2, y3, y4, y5, y6⟩ := Blk.seven x2.out.2.2
        obtain ⟨f0, f1, f2, f3, f4, f5, f6⟩ := vj_free x2.out.2.2
        have BB := Lib.hid fun a b c d e f g => below_vals (k := w.heap.size + 1) x2.out.1 (by omega) a b c d e f g
        go_wp2_with fail
        exact bodyPost_ret (v := .tuple #[vV vZ, .bool false]) (by simp [results, Try.results10, go_sem, y0, y1, y2, y3, y4, y5, y6, fZ, vZ]) rfl ⟨rfl, BB.out _ _ _ _ _ _ _⟩
    · obtain ⟨hb1, hb2⟩ := near_iff.mp h1
      replace R2 := Lib.hid fun w => R2.out w hb1 hb2
      clear h1
      rw [Bool.true_and]
      generalize asI n = x at *
      generalize near (v.o + x) = q at *
      have d1 : decide (x < -1048576) = false := decide_eq_false (by omega)
      have d2 : decide (1048576 < x) = false := decide_eq_false (by omega)
      cases q
      · rw [if_neg Bool.false_ne_true]
        go_enter Try.func10, Try.ntmps10
        go_wp2_with fail
        refine (P.out _).mono ?_; rintro e w2 ⟨rfl, b2⟩
        have x2 := Lib.hid (hx.out.after b2)
        clear hx b2 c0 c1 c2 c3 c4 c5 c6
        obtain ⟨c0, c1, c2, c3, c4, c5, c6⟩ := x2.out.2.1.cells
        have g6 := vB.free x2.out.2.1 6
        have x4 := Lib.hid (x2.out.off (v.o + x))
        go_wp2_with fail
        refine (R2.out _).mono ?_; rintro e w4 ⟨rfl, b4⟩
        have x5 := Lib.hid (x4.out.after b4)
        clear x2 x4 b4 c0 c1 c2 c3 c4 c5 c6 g6
        obtain ⟨c0, c1, c2, c3, c4, c5, c6⟩ := x5.out.2.1.cells
        obtain ⟨y0, y1, y2, y3, y4, y5, y6⟩ := Blk.seven x5.out.2.2
        obtain ⟨f0, f1, f2, f3, f4, f5, f6⟩ := vj_free x5.out.2.2
        have BB := Lib.hid fun a b c d e f g => below_vals (k := w.heap.size + 1) x5.out.1 (by omega) a b c d e f g
        go_wp2_with fail
        exact bodyPost_ret (v := .tuple #[vV vZ, .bool false]) (by simp [results, Try.results10, go_sem, y0, y1, y2, y3, y4, y5, y6, fZ, vZ]) rfl ⟨rfl, BB.out _ _ _ _ _ _ _⟩
      · rw [if_pos rfl]
        go_enter Try.func10, Try.ntmps10
        go_wp2_with fail
        refine (P.out _).mono ?_; rintro e w2 ⟨rfl, b2⟩
        have x2 := Lib.hid (hx.out.after b2)
        clear hx b2 c0 c1 c2 c3 c4 c5 c6
        obtain ⟨c0, c1, c2, c3, c4, c5, c6⟩ := x2.out.2.1.cells
        have g6 := vB.free x2.out.2.1 6
        have x4 := Lib.hid (x2.out.off (v.o + x))
        go_wp2_with fail
        refine (R2.out _).mono ?_; rintro e w4 ⟨rfl, b4⟩
        have x5 := Lib.hid (x4.out.after b4)
        clear x2 x4 b4 c0 c1 c2 c3 c4 c5 c6 g6
        obtain ⟨c0, c1, c2, c3, c4, c5, c6⟩ := x5.out.2.1.cells
        obtain ⟨y0, y1, y2, y3, y4, y5, y6⟩ := Blk.seven x5.out.2.2
        obtain ⟨f0, f1, f2, f3, f4, f5, f6⟩ := vj_free x5.out.2.2
        have BB := Lib.hid fun a b c d e f g => below_vals (k := w.heap.size + 1) x5.out.1 (by omega) a b c d e f g
        go_wp2_with fail
        exact bodyPost_ret (v := .tuple #[vV { v with o := v.o + x }, .bool true]) (by simp [results, Try.results10, go_sem, y0, y1, y2, y3, y4, y5, y6]) rfl ⟨rfl, BB.out _ _ _ _ _ _ _⟩

end Go.Proofs.Ytgjcbcpedoihaaa
