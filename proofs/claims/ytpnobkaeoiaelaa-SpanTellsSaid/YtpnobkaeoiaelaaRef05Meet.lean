/-
  The document's own Meet of layer 5.
  Conditions: none.
-/
import Derived.Test.YtpnobkaeoiaelaaRef05
namespace Go.Proofs.Ytpnobkaeoiaelaa
open Go.RowKit
set_option linter.unusedVariables false

/-- The boxes of two arguments, a result's, and a variable's. -/
def SQuad (a b t s : Sp) (w u : World) : Prop := STrio a b t w u ∧ sB (w.heap.size + 1 + 1 + 1) s u
theorem SQuad.new (a b s : Sp) (w : World) : SQuad a b (0, 0) s w ((((w.alloc (.cells #[.int .u64 a.1, .int .u64 a.2] 24)).alloc (.cells #[.int .u64 b.1, .int .u64 b.2] 24)).alloc (.cells #[.int .u64 0, .int .u64 0] 24)).alloc (.cells #[.int .u64 s.1, .int .u64 s.2] 24)) :=
  ⟨(STrio.new a b w).after (below_alloc (Below.refl _ _) _), sB.new _ s (by simp)⟩
theorem SQuad.after {a b t s : Sp} {w u u' : World} (h : SQuad a b t s w u) (k : Below u.heap.size u u') : SQuad a b t s w u' := ⟨h.1.after k, h.2.after k⟩

set_option maxHeartbeats 2000000 in
theorem rs_meet_0 (a b : Sp) (w : World) (k1 : a.1 < b.1) (k2 : b.2 < a.2) : Calls Try.prog 9 #[sV a, sV b] w (Gives (if sRR a b = true ∧ sR (b.1, b.2) = true then sBV (b.1, b.2) true else sBV (0, 0) false) w) := by
  have h1 := Lib.hid (rs_both a b)
  have h2 := Lib.hid (rs_right (b.1, b.2))
  have hx := Lib.hid (SQuad.new a b (b.1, b.2) w)
  cases e1 : sRR a b
  · rw [e1] at h1
    rw [if_neg (fun hq => by cases hq.1)]
    clear e1
    go_enter Try.func9, Try.ntmps9
    go_wp2_with fail
    refine (h1.out _).mono ?_; rintro e w1 ⟨rfl, b1⟩
    have x1 := hx.out.after b1
    obtain ⟨c0, c1⟩ := x1.1.2.cells
    obtain ⟨f0, f1⟩ := x1.1.2.free
    clear hx b1
    have X2 := Lib.hid (x1.1.set (0, 0))
    clear x1
    go_wp2_with fail
    exact bodyPost_ret (v := sBV (0, 0) false) (by simp [results, Try.results9, go_sem, c0, c1]) rfl ⟨rfl, X2.out.1.1⟩
  · rw [e1] at h1
    clear e1
    cases e2 : sR (b.1, b.2)
    all_goals
      rw [e2] at h2
      clear e2
    · rw [if_neg (fun hq => by cases hq.2)]
      go_enter Try.func9, Try.ntmps9
      go_wp2_with fail
      refine (h1.out _).mono ?_; rintro e w1 ⟨rfl, b1⟩
      have x1 := hx.out.after b1
      obtain ⟨p0, p1⟩ := x1.2.cells
      have X1 := Lib.hid x1
      clear x1 hx b1
      go_wp2_with fail
      refine (h2.out _).mono ?_; rintro e w2 ⟨rfl, b2⟩
      have x2 := X1.out.after b2
      clear p0 p1
      obtain ⟨p0, p1⟩ := x2.2.cells
      obtain ⟨c0, c1⟩ := x2.1.2.cells
      obtain ⟨f0, f1⟩ := x2.1.2.free
      have X2 := Lib.hid (x2.1.set (0, 0))
      clear x2
      go_wp2_with fail
      exact bodyPost_ret (v := sBV (0, 0) false) (by simp [results, Try.results9, go_sem, c0, c1]) rfl ⟨rfl, X2.out.1.1⟩
    · rw [if_pos ⟨rfl, rfl⟩]
      go_enter Try.func9, Try.ntmps9
      go_wp2_with fail
      refine (h1.out _).mono ?_; rintro e w1 ⟨rfl, b1⟩
      have x1 := hx.out.after b1
      obtain ⟨p0, p1⟩ := x1.2.cells
      have X1 := Lib.hid x1
      clear x1 hx b1
      go_wp2_with fail
      refine (h2.out _).mono ?_; rintro e w2 ⟨rfl, b2⟩
      have x2 := X1.out.after b2
      clear p0 p1
      obtain ⟨p0, p1⟩ := x2.2.cells
      obtain ⟨c0, c1⟩ := x2.1.2.cells
      obtain ⟨f0, f1⟩ := x2.1.2.free
      have X2 := Lib.hid (x2.1.set (b.1, b.2))
      clear x2
      go_wp2_with fail
      exact bodyPost_ret (v := sBV (b.1, b.2) true) (by simp [results, Try.results9, go_sem, c0, c1]) rfl ⟨rfl, X2.out.1.1⟩

set_option maxHeartbeats 2000000 in
theorem rs_meet_1 (a b : Sp) (w : World) (k1 : a.1 < b.1) (k2 : a.2 ≤ b.2) : Calls Try.prog 9 #[sV a, sV b] w (Gives (if sRR a b = true ∧ sR (b.1, a.2) = true then sBV (b.1, a.2) true else sBV (0, 0) false) w) := by
  have h1 := Lib.hid (rs_both a b)
  have h2 := Lib.hid (rs_right (b.1, a.2))
  have hx := Lib.hid (SQuad.new a b (b.1, a.2) w)
  cases e1 : sRR a b
  · rw [e1] at h1
    rw [if_neg (fun hq => by cases hq.1)]
    clear e1
    go_enter Try.func9, Try.ntmps9
    go_wp2_with fail
    refine (h1.out _).mono ?_; rintro e w1 ⟨rfl, b1⟩
    have x1 := hx.out.after b1
    obtain ⟨c0, c1⟩ := x1.1.2.cells
    obtain ⟨f0, f1⟩ := x1.1.2.free
    clear hx b1
    have X2 := Lib.hid (x1.1.set (0, 0))
    clear x1
    go_wp2_with fail
    exact bodyPost_ret (v := sBV (0, 0) false) (by simp [results, Try.results9, go_sem, c0, c1]) rfl ⟨rfl, X2.out.1.1⟩
  · rw [e1] at h1
    clear e1
    cases e2 : sR (b.1, a.2)
    all_goals
      rw [e2] at h2
      clear e2
    · rw [if_neg (fun hq => by cases hq.2)]
      go_enter Try.func9, Try.ntmps9
      go_wp2_with fail
      refine (h1.out _).mono ?_; rintro e w1 ⟨rfl, b1⟩
      have x1 := hx.out.after b1
      obtain ⟨p0, p1⟩ := x1.2.cells
      have X1 := Lib.hid x1
      clear x1 hx b1
      go_wp2_with fail
      refine (h2.out _).mono ?_; rintro e w2 ⟨rfl, b2⟩
      have x2 := X1.out.after b2
      clear p0 p1
      obtain ⟨p0, p1⟩ := x2.2.cells
      obtain ⟨c0, c1⟩ := x2.1.2.cells
      obtain ⟨f0, f1⟩ := x2.1.2.free
      have X2 := Lib.hid (x2.1.set (0, 0))
      clear x2
      go_wp2_with fail
      exact bodyPost_ret (v := sBV (0, 0) false) (by simp [results, Try.results9, go_sem, c0, c1]) rfl ⟨rfl, X2.out.1.1⟩
    · rw [if_pos ⟨rfl, rfl⟩]
      go_enter Try.func9, Try.ntmps9
      go_wp2_with fail
      refine (h1.out _).mono ?_; rintro e w1 ⟨rfl, b1⟩
      have x1 := hx.out.after b1
      obtain ⟨p0, p1⟩ := x1.2.cells
      have X1 := Lib.hid x1
      clear x1 hx b1
      go_wp2_with fail
      refine (h2.out _).mono ?_; rintro e w2 ⟨rfl, b2⟩
      have x2 := X1.out.after b2
      clear p0 p1
      obtain ⟨p0, p1⟩ := x2.2.cells
      obtain ⟨c0, c1⟩ := x2.1.2.cells
      obtain ⟨f0, f1⟩ := x2.1.2.free
      have X2 := Lib.hid (x2.1.set (b.1, a.2))
      clear x2
      go_wp2_with fail
      exact bodyPost_ret (v := sBV (b.1, a.2) true) (by simp [results, Try.results9, go_sem, c0, c1]) rfl ⟨rfl, X2.out.1.1⟩

set_option maxHeartbeats 2000000 in
theorem rs_meet_2 (a b : Sp) (w : World) (k1 : b.1 ≤ a.1) (k2 : b.2 < a.2) : Calls Try.prog 9 #[sV a, sV b] w (Gives (if sRR a b = true ∧ sR (a.1, b.2) = true then sBV (a.1, b.2) true else sBV (0, 0) false) w) := by
  have h1 := Lib.hid (rs_both a b)
  have h2 := Lib.hid (rs_right (a.1, b.2))
  have hx := Lib.hid (SQuad.new a b (a.1, b.2) w)
  cases e1 : sRR a b
  · rw [e1] at h1
    rw [if_neg (fun hq => by cases hq.1)]
    clear e1
    go_enter Try.func9, Try.ntmps9
    go_wp2_with fail
    refine (h1.out _).mono ?_; rintro e w1 ⟨rfl, b1⟩
    have x1 := hx.out.after b1
    obtain ⟨c0, c1⟩ := x1.1.2.cells
    obtain ⟨f0, f1⟩ := x1.1.2.free
    clear hx b1
    have X2 := Lib.hid (x1.1.set (0, 0))
    clear x1
    go_wp2_with fail
    exact bodyPost_ret (v := sBV (0, 0) false) (by simp [results, Try.results9, go_sem, c0, c1]) rfl ⟨rfl, X2.out.1.1⟩
  · rw [e1] at h1
    clear e1
    cases e2 : sR (a.1, b.2)
    all_goals
      rw [e2] at h2
      clear e2
    · rw [if_neg (fun hq => by cases hq.2)]
      go_enter Try.func9, Try.ntmps9
      go_wp2_with fail
      refine (h1.out _).mono ?_; rintro e w1 ⟨rfl, b1⟩
      have x1 := hx.out.after b1
      obtain ⟨p0, p1⟩ := x1.2.cells
      have X1 := Lib.hid x1
      clear x1 hx b1
      go_wp2_with fail
      refine (h2.out _).mono ?_; rintro e w2 ⟨rfl, b2⟩
      have x2 := X1.out.after b2
      clear p0 p1
      obtain ⟨p0, p1⟩ := x2.2.cells
      obtain ⟨c0, c1⟩ := x2.1.2.cells
      obtain ⟨f0, f1⟩ := x2.1.2.free
      have X2 := Lib.hid (x2.1.set (0, 0))
      clear x2
      go_wp2_with fail
      exact bodyPost_ret (v := sBV (0, 0) false) (by simp [results, Try.results9, go_sem, c0, c1]) rfl ⟨rfl, X2.out.1.1⟩
    · rw [if_pos ⟨rfl, rfl⟩]
      go_enter Try.func9, Try.ntmps9
      go_wp2_with fail
      refine (h1.out _).mono ?_; rintro e w1 ⟨rfl, b1⟩
      have x1 := hx.out.after b1
      obtain ⟨p0, p1⟩ := x1.2.cells
      have X1 := Lib.hid x1
      clear x1 hx b1
      go_wp2_with fail
      refine (h2.out _).mono ?_; rintro e w2 ⟨rfl, b2⟩
      have x2 := X1.out.after b2
      clear p0 p1
      obtain ⟨p0, p1⟩ := x2.2.cells
      obtain ⟨c0, c1⟩ := x2.1.2.cells
      obtain ⟨f0, f1⟩ := x2.1.2.free
      have X2 := Lib.hid (x2.1.set (a.1, b.2))
      clear x2
      go_wp2_with fail
      exact bodyPost_ret (v := sBV (a.1, b.2) true) (by simp [results, Try.results9, go_sem, c0, c1]) rfl ⟨rfl, X2.out.1.1⟩

set_option maxHeartbeats 2000000 in
theorem rs_meet_3 (a b : Sp) (w : World) (k1 : b.1 ≤ a.1) (k2 : a.2 ≤ b.2) : Calls Try.prog 9 #[sV a, sV b] w (Gives (if sRR a b = true ∧ sR (a.1, a.2) = true then sBV (a.1, a.2) true else sBV (0, 0) false) w) := by
  have h1 := Lib.hid (rs_both a b)
  have h2 := Lib.hid (rs_right (a.1, a.2))
  have hx := Lib.hid (SQuad.new a b (a.1, a.2) w)
  cases e1 : sRR a b
  · rw [e1] at h1
    rw [if_neg (fun hq => by cases hq.1)]
    clear e1
    go_enter Try.func9, Try.ntmps9
    go_wp2_with fail
    refine (h1.out _).mono ?_; rintro e w1 ⟨rfl, b1⟩
    have x1 := hx.out.after b1
    obtain ⟨c0, c1⟩ := x1.1.2.cells
    obtain ⟨f0, f1⟩ := x1.1.2.free
    clear hx b1
    have X2 := Lib.hid (x1.1.set (0, 0))
    clear x1
    go_wp2_with fail
    exact bodyPost_ret (v := sBV (0, 0) false) (by simp [results, Try.results9, go_sem, c0, c1]) rfl ⟨rfl, X2.out.1.1⟩
  · rw [e1] at h1
    clear e1
    cases e2 : sR (a.1, a.2)
    all_goals
      rw [e2] at h2
      clear e2
    · rw [if_neg (fun hq => by cases hq.2)]
      go_enter Try.func9, Try.ntmps9
      go_wp2_with fail
      refine (h1.out _).mono ?_; rintro e w1 ⟨rfl, b1⟩
      have x1 := hx.out.after b1
      obtain ⟨p0, p1⟩ := x1.2.cells
      have X1 := Lib.hid x1
      clear x1 hx b1
      go_wp2_with fail
      refine (h2.out _).mono ?_; rintro e w2 ⟨rfl, b2⟩
      have x2 := X1.out.after b2
      clear p0 p1
      obtain ⟨p0, p1⟩ := x2.2.cells
      obtain ⟨c0, c1⟩ := x2.1.2.cells
      obtain ⟨f0, f1⟩ := x2.1.2.free
      have X2 := Lib.hid (x2.1.set (0, 0))
      clear x2
      go_wp2_with fail
      exact bodyPost_ret (v := sBV (0, 0) false) (by simp [results, Try.results9, go_sem, c0, c1]) rfl ⟨rfl, X2.out.1.1⟩
    · rw [if_pos ⟨rfl, rfl⟩]
      go_enter Try.func9, Try.ntmps9
      go_wp2_with fail
      refine (h1.out _).mono ?_; rintro e w1 ⟨rfl, b1⟩
      have x1 := hx.out.after b1
      obtain ⟨p0, p1⟩ := x1.2.cells
      have X1 := Lib.hid x1
      clear x1 hx b1
      go_wp2_with fail
      refine (h2.out _).mono ?_; rintro e w2 ⟨rfl, b2⟩
      have x2 := X1.out.after b2
      clear p0 p1
      obtain ⟨p0, p1⟩ := x2.2.cells
      obtain ⟨c0, c1⟩ := x2.1.2.cells
      obtain ⟨f0, f1⟩ := x2.1.2.free
      have X2 := Lib.hid (x2.1.set (a.1, a.2))
      clear x2
      go_wp2_with fail
      exact bodyPost_ret (v := sBV (a.1, a.2) true) (by simp [results, Try.results9, go_sem, c0, c1]) rfl ⟨rfl, X2.out.1.1⟩

theorem rs_meet_math (a b : Sp) (l h : Int) (hl : max a.1 b.1 = l) (hh : min a.2 b.2 = h) :
    (if sRR a b = true ∧ sR (l, h) = true then sBV (l, h) true else sBV (0, 0) false) = sBV (sM a b) (sMok a b) := by
  unfold sM sMok sT sTok
  rw [hl, hh]
  by_cases k : l ≤ h
  · have e1 : sRR a b = true := Bool.and_eq_true_iff.mpr ⟨decide_eq_true (by omega), decide_eq_true (by omega)⟩
    rw [if_pos ⟨e1, decide_eq_true k⟩, if_neg (by omega), decide_eq_true k]
  · rw [if_neg (fun x => k (of_decide_eq_true x.2)), if_pos (by omega), decide_eq_false k]
theorem rs_meet (a b : Sp) (w : World) : Calls Try.prog 9 #[sV a, sV b] w (Gives (sBV (sM a b) (sMok a b)) w) := by
  rcases int_lt_or a.1 b.1 with k1 | k1
  · rcases int_lt_or b.2 a.2 with k2 | k2
    · rw [← rs_meet_math a b b.1 b.2 (by omega) (by omega)]; exact rs_meet_0 a b w k1 k2
    · rw [← rs_meet_math a b b.1 a.2 (by omega) (by omega)]; exact rs_meet_1 a b w k1 k2
  · rcases int_lt_or b.2 a.2 with k2 | k2
    · rw [← rs_meet_math a b a.1 b.2 (by omega) (by omega)]; exact rs_meet_2 a b w k1 k2
    · rw [← rs_meet_math a b a.1 a.2 (by omega) (by omega)]; exact rs_meet_3 a b w k1 k2

end Go.Proofs.Ytpnobkaeoiaelaa
