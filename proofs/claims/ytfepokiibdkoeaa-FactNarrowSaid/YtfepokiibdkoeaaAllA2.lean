/-
  Layer 6: what its laws share: plain numbers, the program's functions, the document's own Settle, Join, Cut.
  Conditions: those that each theorem states.
-/
import Derived.Test.YtfepokiibdkoeaaAllA1
import Derived.Deep.RegionWith
import Derived.Deep.RegionHeld3
import Derived.LoopTactic
import Derived.StillTailTactics
import Derived.Laws.Externs
import Derived.Shelf.Bits.Mul64
import Derived.Test.YtfepokiibdkoeaaRows
import Derived.WalkKit
import Derived.WalkSpells
import Derived.WalkLawsBesides
import Derived.Deep.QuietTactic
import Derived.BigQuiet
import Derived.Outline
import Derived.Lib.Hide

/-
  The document's own answers of layer 5.
  Conditions: none.
-/
namespace Go.Proofs.Ytfepokiibdkoeaa
open Go.RowKit
set_option linter.unusedVariables false

theorem rs_right (s : Sp) (w : World) : Calls Try.prog 40 #[sV s] w (Gives (.bool (sR s)) w) := by
  go_enter Try.func40, Try.ntmps40
  go_wp2
  go_ret
  exact ⟨end_bool rfl, below_alloc (Below.refl _ _) _⟩
theorem rs_all (w : World) : Calls Try.prog 45 #[] w (Gives (sV sAll) w) := by
  go_enter Try.func45, Try.ntmps45
  go_wp2
  refine bodyPost_ret (v := sV sAll) (by simp [results, Try.results45, go_sem, sAll]) rfl ⟨rfl, ?_⟩
  exact below_alloc (Below.refl _ _) _
theorem rs_has (s : Sp) (n : Int) (w : World) : Calls Try.prog 49 #[sV s, .int .u64 n] w (Gives (.bool (sH s n)) w) := by
  unfold sH
  rcases int_lt_or n s.1 with h | h
  · have e1 : decide (s.1 ≤ n) = false := decide_eq_false (by omega)
    rw [e1]
    clear e1
    go_enter Try.func49, Try.ntmps49
    go_wp2
    go_ret
    exact ⟨rfl, below_alloc (Below.refl _ _) _⟩
  · have e1 : decide (s.1 ≤ n) = true := decide_eq_true (by omega)
    rw [e1]
    clear e1
    go_enter Try.func49, Try.ntmps49
    go_wp2
    go_ret
    exact ⟨rfl, below_alloc (Below.refl _ _) _⟩
theorem rs_both (a b : Sp) (w : World) : Calls Try.prog 85 #[sV a, sV b] w (Gives (.bool (sRR a b)) w) := by
  have h1 := Lib.hid (rs_right a)
  have h2 := Lib.hid (rs_right b)
  have hx := Lib.hid (SPair.new a b w)
  unfold sRR
  generalize sR b = y at *
  cases ha : sR a
  · rw [ha] at h1
    clear ha
    go_enter Try.func85, Try.ntmps85
    go_wp2_with fail
    refine (h1.out _).mono ?_; rintro e w1 ⟨rfl, b1⟩
    go_wp2_with fail
    go_ret
    exact ⟨rfl, (hx.out.after b1).1⟩
  · rw [ha] at h1
    clear ha
    go_enter Try.func85, Try.ntmps85
    go_wp2_with fail
    refine (h1.out _).mono ?_; rintro e w1 ⟨rfl, b1⟩
    have x1 := hx.out.after b1
    obtain ⟨p0, p1⟩ := x1.2.2.cells
    have X1 := Lib.hid x1
    clear x1 hx b1
    go_wp2_with fail
    refine (h2.out _).mono ?_; rintro e w2 ⟨rfl, b2⟩
    go_wp2_with fail
    go_ret
    exact ⟨rfl, (X1.out.after b2).1⟩
set_option maxHeartbeats 1000000 in
theorem rs_within (a b : Sp) (w : World) : Calls Try.prog 57 #[sV a, sV b] w (Gives (.bool (sW a b)) w) := by
  have h1 := Lib.hid (rs_both a b)
  have hx := Lib.hid (SPair.new a b w)
  unfold sW
  cases ha : sRR a b
  · rw [ha] at h1
    clear ha
    go_enter Try.func57, Try.ntmps57
    go_wp2_with fail
    refine (h1.out _).mono ?_; rintro e w1 ⟨rfl, b1⟩
    go_wp2_with fail
    go_ret
    exact ⟨rfl, (hx.out.after b1).1⟩
  · rw [ha] at h1
    clear ha
    rcases int_lt_or a.1 b.1 with h | h
    · rw [decide_eq_false (p := b.1 ≤ a.1) (by omega)]
      go_enter Try.func57, Try.ntmps57
      go_wp2_with fail
      refine (h1.out _).mono ?_; rintro e w1 ⟨rfl, b1⟩
      have x1 := hx.out.after b1
      obtain ⟨p0, p1⟩ := x1.2.2.cells
      obtain ⟨q0, q1⟩ := x1.2.1.cells
      have X1 := Lib.hid x1
      clear x1 hx b1
      go_wp2_with fail
      go_ret
      exact ⟨rfl, X1.out.1⟩
    · rw [decide_eq_true (p := b.1 ≤ a.1) (by omega)]
      go_enter Try.func57, Try.ntmps57
      go_wp2_with fail
      refine (h1.out _).mono ?_; rintro e w1 ⟨rfl, b1⟩
      have x1 := hx.out.after b1
      obtain ⟨p0, p1⟩ := x1.2.2.cells
      obtain ⟨q0, q1⟩ := x1.2.1.cells
      have X1 := Lib.hid x1
      clear x1 hx b1
      go_wp2_with fail
      go_ret
      exact ⟨rfl, X1.out.1⟩
set_option maxHeartbeats 1000000 in
theorem rs_join (a b : Sp) (w : World) : Calls Try.prog 52 #[sV a, sV b] w (Gives (sV (sJ a b)) w) := by
  have h1 := Lib.hid (rs_both a b)
  have hx := Lib.hid (STrio.new a b w)
  unfold sJ
  cases ha : sRR a b
  · rw [ha] at h1
    clear ha
    go_enter Try.func52, Try.ntmps52
    go_wp2_with fail
    refine (h1.out _).mono ?_; rintro e w1 ⟨rfl, b1⟩
    have x1 := hx.out.after b1
    obtain ⟨c0, c1⟩ := x1.2.cells
    obtain ⟨f0, f1⟩ := x1.2.free
    have X1 := Lib.hid (x1.set (0, 0))
    clear x1 hx b1
    go_wp2_with fail
    exact bodyPost_ret (v := sV (0, 0)) (by simp [results, Try.results52, go_sem, c0, c1]) rfl ⟨rfl, X1.out.1.1⟩
  · rw [ha] at h1
    rw [if_pos rfl]
    clear ha
    have e1 : min a.1 b.1 = if b.1 < a.1 then b.1 else a.1 := by split <;> omega
    have e2 : max a.2 b.2 = if a.2 < b.2 then b.2 else a.2 := by split <;> omega
    rw [e1, e2]
    clear e1 e2
    rcases int_lt_or b.1 a.1 with k1 | k1
    all_goals
      rcases int_lt_or a.2 b.2 with k2 | k2
    all_goals
      first | rw [if_pos k1] | rw [if_neg (by omega)]
      first | rw [if_pos k2] | rw [if_neg (by omega)]
      go_enter Try.func52, Try.ntmps52
      go_wp2_with fail
      refine (h1.out _).mono ?_; rintro e w1 ⟨rfl, b1⟩
      have x1 := hx.out.after b1
      obtain ⟨c0, c1⟩ := x1.2.cells
      obtain ⟨p0, p1⟩ := x1.1.2.2.cells
      obtain ⟨q0, q1⟩ := x1.1.2.1.cells
      obtain ⟨f0, f1⟩ := x1.2.free
      have X1 := Lib.hid x1
      clear x1 hx b1
      go_wp2_with fail
      first
        | exact bodyPost_ret (v := sV (a.1, a.2)) (by simp [results, Try.results52, go_sem, c0, c1]) rfl ⟨rfl, (X1.out.set (a.1, a.2)).1.1⟩
        | exact bodyPost_ret (v := sV (a.1, b.2)) (by simp [results, Try.results52, go_sem, c0, c1]) rfl ⟨rfl, (X1.out.set (a.1, b.2)).1.1⟩
        | exact bodyPost_ret (v := sV (b.1, a.2)) (by simp [results, Try.results52, go_sem, c0, c1]) rfl ⟨rfl, (X1.out.set (b.1, a.2)).1.1⟩
        | exact bodyPost_ret (v := sV (b.1, b.2)) (by simp [results, Try.results52, go_sem, c0, c1]) rfl ⟨rfl, (X1.out.set (b.1, b.2)).1.1⟩
end Go.Proofs.Ytfepokiibdkoeaa


/-
  The document's own Meet of layer 5.
  Conditions: none.
-/
namespace Go.Proofs.Ytfepokiibdkoeaa
open Go.RowKit
set_option linter.unusedVariables false

/-- The boxes of two arguments, a result's, and a variable's. -/
def SQuad (a b t s : Sp) (w u : World) : Prop := STrio a b t w u ∧ sB (w.heap.size + 1 + 1 + 1) s u
theorem SQuad.new (a b s : Sp) (w : World) : SQuad a b (0, 0) s w ((((w.alloc (.cells #[.int .u64 a.1, .int .u64 a.2] 26)).alloc (.cells #[.int .u64 b.1, .int .u64 b.2] 26)).alloc (.cells #[.int .u64 0, .int .u64 0] 26)).alloc (.cells #[.int .u64 s.1, .int .u64 s.2] 26)) :=
  ⟨(STrio.new a b w).after (below_alloc (Below.refl _ _) _), sB.new _ s (by simp)⟩
theorem SQuad.after {a b t s : Sp} {w u u' : World} (h : SQuad a b t s w u) (k : Below u.heap.size u u') : SQuad a b t s w u' := ⟨h.1.after k, h.2.after k⟩

set_option maxHeartbeats 2000000 in
theorem rs_meet_0 (a b : Sp) (w : World) (k1 : a.1 < b.1) (k2 : b.2 < a.2) : Calls Try.prog 81 #[sV a, sV b] w (Gives (if sRR a b = true ∧ sR (b.1, b.2) = true then sBV (b.1, b.2) true else sBV (0, 0) false) w) := by
  have h1 := Lib.hid (rs_both a b)
  have h2 := Lib.hid (rs_right (b.1, b.2))
  have hx := Lib.hid (SQuad.new a b (b.1, b.2) w)
  cases e1 : sRR a b
  · rw [e1] at h1
    rw [if_neg (fun hq => by cases hq.1)]
    clear e1
    go_enter Try.func81, Try.ntmps81
    go_wp2_with fail
    refine (h1.out _).mono ?_; rintro e w1 ⟨rfl, b1⟩
    have x1 := hx.out.after b1
    obtain ⟨c0, c1⟩ := x1.1.2.cells
    obtain ⟨f0, f1⟩ := x1.1.2.free
    clear hx b1
    have X2 := Lib.hid (x1.1.set (0, 0))
    clear x1
    go_wp2_with fail
    exact bodyPost_ret (v := sBV (0, 0) false) (by simp [results, Try.results81, go_sem, c0, c1]) rfl ⟨rfl, X2.out.1.1⟩
  · rw [e1] at h1
    clear e1
    cases e2 : sR (b.1, b.2)
    all_goals
      rw [e2] at h2
      clear e2
    · rw [if_neg (fun hq => by cases hq.2)]
      go_enter Try.func81, Try.ntmps81
      go_wp2_with fail
      refine (h1.out _).mono ?_; rintro e w1 ⟨rfl, b1⟩
      have x1 := hx.out.after b1
      obtain ⟨p0, p1⟩ := x1.2.cells
      have X1 := Lib.hid x1
      clear x1 hx b1
      go_wp2_with fail
      refine (h2.out _).mono ?_; rintro e w2 ⟨rfl, b2⟩
      have x2 := X1.out.after b2
      clear p0 p1
      obtain ⟨p0, p1⟩ := x2.2.cells
      obtain ⟨c0, c1⟩ := x2.1.2.cells
      obtain ⟨f0, f1⟩ := x2.1.2.free
      have X2 := Lib.hid (x2.1.set (0, 0))
      clear x2
      go_wp2_with fail
      exact bodyPost_ret (v := sBV (0, 0) false) (by simp [results, Try.results81, go_sem, c0, c1]) rfl ⟨rfl, X2.out.1.1⟩
    · rw [if_pos ⟨rfl, rfl⟩]
      go_enter Try.func81, Try.ntmps81
      go_wp2_with fail
      refine (h1.out _).mono ?_; rintro e w1 ⟨rfl, b1⟩
      have x1 := hx.out.after b1
      obtain ⟨p0, p1⟩ := x1.2.cells
      have X1 := Lib.hid x1
      clear x1 hx b1
      go_wp2_with fail
      refine (h2.out _).mono ?_; rintro e w2 ⟨rfl, b2⟩
      have x2 := X1.out.after b2
      clear p0 p1
      obtain ⟨p0, p1⟩ := x2.2.cells
      obtain ⟨c0, c1⟩ := x2.1.2.cells
      obtain ⟨f0, f1⟩ := x2.1.2.free
      have X2 := Lib.hid (x2.1.set (b.1, b.2))
      clear x2
      go_wp2_with fail
      exact bodyPost_ret (v := sBV (b.1, b.2) true) (by simp [results, Try.results81, go_sem, c0, c1]) rfl ⟨rfl, X2.out.1.1⟩

set_option maxHeartbeats 2000000 in
theorem rs_meet_1 (a b : Sp) (w : World) (k1 : a.1 < b.1) (k2 : a.2 ≤ b.2) : Calls Try.prog 81 #[sV a, sV b] w (Gives (if sRR a b = true ∧ sR (b.1, a.2) = true then sBV (b.1, a.2) true else sBV (0, 0) false) w) := by
  have h1 := Lib.hid (rs_both a b)
  have h2 := Lib.hid (rs_right (b.1, a.2))
  have hx := Lib.hid (SQuad.new a b (b.1, a.2) w)
  cases e1 : sRR a b
  · rw [e1] at h1
    rw [if_neg (fun hq => by cases hq.1)]
    clear e1
    go_enter Try.func81, Try.ntmps81
    go_wp2_with fail
    refine (h1.out _).mono ?_; rintro e w1 ⟨rfl, b1⟩
    have x1 := hx.out.after b1
    obtain ⟨c0, c1⟩ := x1.1.2.cells
    obtain ⟨f0, f1⟩ := x1.1.2.free
    clear hx b1
    have X2 := Lib.hid (x1.1.set (0, 0))
    clear x1
    go_wp2_with fail
    exact bodyPost_ret (v := sBV (0, 0) false) (by simp [results, Try.results81, go_sem, c0, c1]) rfl ⟨rfl, X2.out.1.1⟩
  · rw [e1] at h1
    clear e1
    cases e2 : sR (b.1, a.2)
    all_goals
      rw [e2] at h2
      clear e2
    · rw [if_neg (fun hq => by cases hq.2)]
      go_enter Try.func81, Try.ntmps81
      go_wp2_with fail
      refine (h1.out _).mono ?_; rintro e w1 ⟨rfl, b1⟩
      have x1 := hx.out.after b1
      obtain ⟨p0, p1⟩ := x1.2.cells
      have X1 := Lib.hid x1
      clear x1 hx b1
      go_wp2_with fail
      refine (h2.out _).mono ?_; rintro e w2 ⟨rfl, b2⟩
      have x2 := X1.out.after b2
      clear p0 p1
      obtain ⟨p0, p1⟩ := x2.2.cells
      obtain ⟨c0, c1⟩ := x2.1.2.cells
      obtain ⟨f0, f1⟩ := x2.1.2.free
      have X2 := Lib.hid (x2.1.set (0, 0))
      clear x2
      go_wp2_with fail
      exact bodyPost_ret (v := sBV (0, 0) false) (by simp [results, Try.results81, go_sem, c0, c1]) rfl ⟨rfl, X2.out.1.1⟩
    · rw [if_pos ⟨rfl, rfl⟩]
      go_enter Try.func81, Try.ntmps81
      go_wp2_with fail
      refine (h1.out _).mono ?_; rintro e w1 ⟨rfl, b1⟩
      have x1 := hx.out.after b1
      obtain ⟨p0, p1⟩ := x1.2.cells
      have X1 := Lib.hid x1
      clear x1 hx b1
      go_wp2_with fail
      refine (h2.out _).mono ?_; rintro e w2 ⟨rfl, b2⟩
      have x2 := X1.out.after b2
      clear p0 p1
      obtain ⟨p0, p1⟩ := x2.2.cells
      obtain ⟨c0, c1⟩ := x2.1.2.cells
      obtain ⟨f0, f1⟩ := x2.1.2.free
      have X2 := Lib.hid (x2.1.set (b.1, a.2))
      clear x2
      go_wp2_with fail
      exact bodyPost_ret (v := sBV (b.1, a.2) true) (by simp [results, Try.results81, go_sem, c0, c1]) rfl ⟨rfl, X2.out.1.1⟩

set_option maxHeartbeats 2000000 in
theorem rs_meet_2 (a b : Sp) (w : World) (k1 : b.1 ≤ a.1) (k2 : b.2 < a.2) : Calls Try.prog 81 #[sV a, sV b] w (Gives (if sRR a b = true ∧ sR (a.1, b.2) = true then sBV (a.1, b.2) true else sBV (0, 0) false) w) := by
  have h1 := Lib.hid (rs_both a b)
  have h2 := Lib.hid (rs_right (a.1, b.2))
  have hx := Lib.hid (SQuad.new a b (a.1, b.2) w)
  cases e1 : sRR a b
  · rw [e1] at h1
    rw [if_neg (fun hq => by cases hq.1)]
    clear e1
    go_enter Try.func81, Try.ntmps81
    go_wp2_with fail
    refine (h1.out _).mono ?_; rintro e w1 ⟨rfl, b1⟩
    have x1 := hx.out.after b1
    obtain ⟨c0, c1⟩ := x1.1.2.cells
    obtain ⟨f0, f1⟩ := x1.1.2.free
    clear hx b1
    have X2 := Lib.hid (x1.1.set (0, 0))
    clear x1
    go_wp2_with fail
    exact bodyPost_ret (v := sBV (0, 0) false) (by simp [results, Try.results81, go_sem, c0, c1]) rfl ⟨rfl, X2.out.1.1⟩
  · rw [e1] at h1
    clear e1
    cases e2 : sR (a.1, b.2)
    all_goals
      rw [e2] at h2
      clear e2
    · rw [if_neg (fun hq => by cases hq.2)]
      go_enter Try.func81, Try.ntmps81
      go_wp2_with fail
      refine (h1.out _).mono ?_; rintro e w1 ⟨rfl, b1⟩
      have x1 := hx.out.after b1
      obtain ⟨p0, p1⟩ := x1.2.cells
      have X1 := Lib.hid x1
      clear x1 hx b1
      go_wp2_with fail
      refine (h2.out _).mono ?_; rintro e w2 ⟨rfl, b2⟩
      have x2 := X1.out.after b2
      clear p0 p1
      obtain ⟨p0, p1⟩ := x2.2.cells
      obtain ⟨c0, c1⟩ := x2.1.2.cells
      obtain ⟨f0, f1⟩ := x2.1.2.free
      have X2 := Lib.hid (x2.1.set (0, 0))
      clear x2
      go_wp2_with fail
      exact bodyPost_ret (v := sBV (0, 0) false) (by simp [results, Try.results81, go_sem, c0, c1]) rfl ⟨rfl, X2.out.1.1⟩
    · rw [if_pos ⟨rfl, rfl⟩]
      go_enter Try.func81, Try.ntmps81
      go_wp2_with fail
      refine (h1.out _).mono ?_; rintro e w1 ⟨rfl, b1⟩
      have x1 := hx.out.after b1
      obtain ⟨p0, p1⟩ := x1.2.cells
      have X1 := Lib.hid x1
      clear x1 hx b1
      go_wp2_with fail
      refine (h2.out _).mono ?_; rintro e w2 ⟨rfl, b2⟩
      have x2 := X1.out.after b2
      clear p0 p1
      obtain ⟨p0, p1⟩ := x2.2.cells
      obtain ⟨c0, c1⟩ := x2.1.2.cells
      obtain ⟨f0, f1⟩ := x2.1.2.free
      have X2 := Lib.hid (x2.1.set (a.1, b.2))
      clear x2
      go_wp2_with fail
      exact bodyPost_ret (v := sBV (a.1, b.2) true) (by simp [results, Try.results81, go_sem, c0, c1]) rfl ⟨rfl, X2.out.1.1⟩

set_option maxHeartbeats 2000000 in
theorem rs_meet_3 (a b : Sp) (w : World) (k1 : b.1 ≤ a.1) (k2 : a.2 ≤ b.2) : Calls Try.prog 81 #[sV a, sV b] w (Gives (if sRR a b = true ∧ sR (a.1, a.2) = true then sBV (a.1, a.2) true else sBV (0, 0) false) w) := by
  have h1 := Lib.hid (rs_both a b)
  have h2 := Lib.hid (rs_right (a.1, a.2))
  have hx := Lib.hid (SQuad.new a b (a.1, a.2) w)
  cases e1 : sRR a b
  · rw [e1] at h1
    rw [if_neg (fun hq => by cases hq.1)]
    clear e1
    go_enter Try.func81, Try.ntmps81
    go_wp2_with fail
    refine (h1.out _).mono ?_; rintro e w1 ⟨rfl, b1⟩
    have x1 := hx.out.after b1
    obtain ⟨c0, c1⟩ := x1.1.2.cells
    obtain ⟨f0, f1⟩ := x1.1.2.free
    clear hx b1
    have X2 := Lib.hid (x1.1.set (0, 0))
    clear x1
    go_wp2_with fail
    exact bodyPost_ret (v := sBV (0, 0) false) (by simp [results, Try.results81, go_sem, c0, c1]) rfl ⟨rfl, X2.out.1.1⟩
  · rw [e1] at h1
    clear e1
    cases e2 : sR (a.1, a.2)
    all_goals
      rw [e2] at h2
      clear e2
    · rw [if_neg (fun hq => by cases hq.2)]
      go_enter Try.func81, Try.ntmps81
      go_wp2_with fail
      refine (h1.out _).mono ?_; rintro e w1 ⟨rfl, b1⟩
      have x1 := hx.out.after b1
      obtain ⟨p0, p1⟩ := x1.2.cells
      have X1 := Lib.hid x1
      clear x1 hx b1
      go_wp2_with fail
      refine (h2.out _).mono ?_; rintro e w2 ⟨rfl, b2⟩
      have x2 := X1.out.after b2
      clear p0 p1
      obtain ⟨p0, p1⟩ := x2.2.cells
      obtain ⟨c0, c1⟩ := x2.1.2.cells
      obtain ⟨f0, f1⟩ := x2.1.2.free
      have X2 := Lib.hid (x2.1.set (0, 0))
      clear x2
      go_wp2_with fail
      exact bodyPost_ret (v := sBV (0, 0) false) (by simp [results, Try.results81, go_sem, c0, c1]) rfl ⟨rfl, X2.out.1.1⟩
    · rw [if_pos ⟨rfl, rfl⟩]
      go_enter Try.func81, Try.ntmps81
      go_wp2_with fail
      refine (h1.out _).mono ?_; rintro e w1 ⟨rfl, b1⟩
      have x1 := hx.out.after b1
      obtain ⟨p0, p1⟩ := x1.2.cells
      have X1 := Lib.hid x1
      clear x1 hx b1
      go_wp2_with fail
      refine (h2.out _).mono ?_; rintro e w2 ⟨rfl, b2⟩
      have x2 := X1.out.after b2
      clear p0 p1
      obtain ⟨p0, p1⟩ := x2.2.cells
      obtain ⟨c0, c1⟩ := x2.1.2.cells
      obtain ⟨f0, f1⟩ := x2.1.2.free
      have X2 := Lib.hid (x2.1.set (a.1, a.2))
      clear x2
      go_wp2_with fail
      exact bodyPost_ret (v := sBV (a.1, a.2) true) (by simp [results, Try.results81, go_sem, c0, c1]) rfl ⟨rfl, X2.out.1.1⟩

theorem rs_meet_math (a b : Sp) (l h : Int) (hl : max a.1 b.1 = l) (hh : min a.2 b.2 = h) :
    (if sRR a b = true ∧ sR (l, h) = true then sBV (l, h) true else sBV (0, 0) false) = sBV (sM a b) (sMok a b) := by
  unfold sM sMok sT sTok
  rw [hl, hh]
  by_cases k : l ≤ h
  · have e1 : sRR a b = true := Bool.and_eq_true_iff.mpr ⟨decide_eq_true (by omega), decide_eq_true (by omega)⟩
    rw [if_pos ⟨e1, decide_eq_true k⟩, if_neg (by omega), decide_eq_true k]
  · rw [if_neg (fun x => k (of_decide_eq_true x.2)), if_pos (by omega), decide_eq_false k]
theorem rs_meet (a b : Sp) (w : World) : Calls Try.prog 81 #[sV a, sV b] w (Gives (sBV (sM a b) (sMok a b)) w) := by
  rcases int_lt_or a.1 b.1 with k1 | k1
  · rcases int_lt_or b.2 a.2 with k2 | k2
    · rw [← rs_meet_math a b b.1 b.2 (by omega) (by omega)]; exact rs_meet_0 a b w k1 k2
    · rw [← rs_meet_math a b b.1 a.2 (by omega) (by omega)]; exact rs_meet_1 a b w k1 k2
  · rcases int_lt_or b.2 a.2 with k2 | k2
    · rw [← rs_meet_math a b a.1 b.2 (by omega) (by omega)]; exact rs_meet_2 a b w k1 k2
    · rw [← rs_meet_math a b a.1 a.2 (by omega) (by omega)]; exact rs_meet_3 a b w k1 k2

end Go.Proofs.Ytfepokiibdkoeaa


/-
  The document's own answers of layer 6: Of, Any, one round.
  Conditions: the numbers fit their kinds.
-/
namespace Go.Proofs.Ytfepokiibdkoeaa
open Go.RowKit
set_option linter.unusedVariables false

theorem rf_of (n : BitVec 64) (w : World) : Calls Try.prog 20 #[uV n] w (Gives (fV (fOf n)) w) := by
  go_enter Try.func20, Try.ntmps20
  go_wp2
  exact bodyPost_ret (v := fV (fOf n)) (by simp [results, Try.results20, go_sem, fOf]) rfl ⟨rfl, below_alloc (Below.refl _ _) _⟩
theorem rf_any (w : World) : Calls Try.prog 22 #[] w (Gives (fV fAny) w) := by
  have A : Hid (∀ w, Calls Try.prog 45 #[] w (Gives (.agg #[.int .u64 0, .int .u64 18446744073709551615]) w)) := Lib.hid rs_all
  have hx := Lib.hid (fB.new w fZ rfl)
  have ha : fV fAny = .agg #[.int .u64 0, .int .u64 18446744073709551615, .int .u64 0, .int .u64 18446744073709551615] := by
    unfold fAny sAll
    simp
  rw [ha]
  go_enter Try.func22, Try.ntmps22
  go_wp2_with fail
  refine (A.out _).mono ?_; rintro e w1 ⟨rfl, b1⟩
  have x1 := fB.after hx.out b1
  have bw := below_next' (below_alloc (Below.refl w.heap.size w) (.cells (fCells fZ) 28)) b1
  obtain ⟨c0, c1, c2, c3⟩ := x1.cells
  obtain ⟨f0, f1, f2, f3⟩ := x1.free
  have X1 := Lib.hid (((((bw.setCell (p := ⟨w.heap.size, 0, none⟩) (Nat.le_refl _) (.int .u64 0)).setCell (p := ⟨w.heap.size, 1, none⟩) (Nat.le_refl _) (.int .u64 18446744073709551615)).setCell (p := ⟨w.heap.size, 2, none⟩) (Nat.le_refl _) (.int .u64 0)).setCell (p := ⟨w.heap.size, 3, none⟩) (Nat.le_refl _) (.int .u64 18446744073709551615)))
  clear x1 bw b1 hx
  go_wp2_with fail
  exact bodyPost_ret (v := .agg #[.int .u64 0, .int .u64 18446744073709551615, .int .u64 0, .int .u64 18446744073709551615]) (by simp [results, Try.results22, go_sem, c0, c1, c2, c3]) rfl ⟨rfl, X1.out⟩

/-- A new block of known bits. -/
def zB (g : Nat) (w : World) : Prop := Blk g #[.int .u64 0, .int .u64 0] 24 w
theorem zB.new (w : World) : zB w.heap.size (w.alloc (.cells #[.int .u64 0, .int .u64 0] 24)) := Blk.new w _ _ rfl
theorem zB.after {g : Nat} {w w' : World} (h : zB g w) (b : Below w.heap.size w w') : zB g w' := Blk.after h b
theorem zB.made {w w' : World} (b : Below (w.alloc (.cells #[.int .u64 0, .int .u64 0] 24)).heap.size (w.alloc (.cells #[.int .u64 0, .int .u64 0] 24)) w') : zB w.heap.size w' := (zB.new w).after b
theorem zB.cells {g : Nat} {w : World} (h : zB g w) : w.cell? ⟨g, 0, none⟩ = some (.int .u64 0) ∧ w.cell? ⟨g, 1, none⟩ = some (.int .u64 0) := ⟨Blk.cell h 0, Blk.cell h 1⟩
theorem zB.free {g : Nat} {w : World} (h : zB g w) : w.frozen? ⟨g, 0, none⟩ = false ∧ w.frozen? ⟨g, 1, none⟩ = false := ⟨Blk.free h 0, Blk.free h 1⟩

set_option maxHeartbeats 4000000 in
theorem rf_round_t (f : Fc) (s : Sp) (r t : Tn) (w : World) (hs : sIn s)
    (S1 : Hid (∀ w, Calls Try.prog 81 #[sV f.2, sV (bSp f.1)] w (Gives (sBV s true) w)))
    (R : Hid (∀ w, Calls Try.prog 82 #[sV s] w (Gives (tV r) w)))
    (M : Hid (∀ w, Calls Try.prog 69 #[tV f.1, tV r] w (Gives (tBV t true) w))) :
    Calls Try.prog 41 #[fV f] w (Gives (fBV (t, s) true) w) := by
  have hx := Lib.hid (FDuo.new f fZ w)
  go_enter Try.func41, Try.ntmps41
  go_wp2_with fail
  simp only [bv_or]
  refine (S1.out _).mono ?_; rintro e w1 ⟨rfl, b1⟩
  have x1 := hx.out.after b1
  obtain ⟨c0, c1, c2, c3⟩ := x1.2.1.cells
  have X1 := Lib.hid x1
  have SB := Lib.hid (sB.new w1 s (g := w1.heap.size) rfl)
  clear x1 hx b1
  go_wp2_with fail
  have X2 := Lib.hid (X1.out.alloc (.cells #[.int .u64 s.1, .int .u64 s.2] 26))
  generalize w1.heap.size = gs at *
  generalize w1.alloc (.cells #[.int .u64 s.1, .int .u64 s.2] 26) = w2 at *
  have HB : Below w2.heap.size w2 w2.drew := Below.drew (Below.refl _ _)
  have H := Lib.hid (fun (wx : World) (hx : Below w2.heap.size w2 wx) => And.intro (X2.out.after hx).2.1.cells (SB.out.after hx).cells)
  have K := Lib.hid (fun (wx : World) (hx : Below w2.heap.size w2 wx) => And.intro (And.intro (X2.out.after hx).2.1.cells.1 (X2.out.after hx).2.1.cells.2.1) (SB.out.after hx).cells)
  clear c0 c1 c2 c3 X1 H
  have HA : Below w2.heap.size w2 ((w2.alloc (.cells #[.int .u64 0, .int .u64 0] 24)).drew) := Below.drew (below_alloc (Below.refl _ _) _)
  have z1 := SB.out.lt
  have z2 := X2.out.2.1.lt
  go_region_held3 (fun w' => (w'.cell? ⟨w.heap.size, 0, none⟩ = some (uV f.1.1) ∧ w'.cell? ⟨w.heap.size, 1, none⟩ = some (uV f.1.2)) ∧ w'.cell? ⟨gs, 0, none⟩ = some (.int .u64 s.1) ∧ w'.cell? ⟨gs, 1, none⟩ = some (.int .u64 s.2))
    (first
      | exact K.out _ HB
      | exact K.out _ (Below.drew HB)
      | exact K.out _ (below_alloc HB _)
      | exact K.out _ (Below.drew (below_alloc HB _))
      | exact K.out _ (below_alloc (Below.drew HB) _)
      | exact K.out _ ((HB.setCell (by dsimp only; omega) _).setCell (by dsimp only; omega) _)
      | exact K.out _ (((below_alloc HB _).setCell (by dsimp only; omega) _).setCell (by dsimp only; omega) _)
      | exact K.out _ HA)
    (first
      | (go_at_call 82; refine (R.out _).mono ?_; rintro e w6 ⟨rfl, hb6⟩;
         (first | have TB := zB.made hb6 | have TB := (show zB w2.heap.size w6 from zB.made (w := w2.drew) hb6) | skip);
         (first | replace HB := below_next' HB hb6 | replace HB := below_next' (below_alloc HB _) hb6); clear hb6; have n6 := HB.size)
      | (go_at_call 69; refine (M.out _).mono ?_; rintro e w7 ⟨rfl, hb7⟩;
         (first | replace TB := zB.after TB hb7 | have TB := zB.made hb7 | skip);
         (first | replace HB := below_next' HB hb7 | replace HB := below_next' (below_alloc HB _) hb7); clear hb7; have n7 := HB.size; (try obtain ⟨t0, t1⟩ := TB.cells); (try obtain ⟨f0, f1⟩ := TB.free)))
  all_goals
    rename_i hh
    clear hh
    have x7 := X2.out.after HB
    have s7 := SB.out.after HB
    have n2 := X2.out.2.2.lt
    have k9 : gs < w6.heap.size := by omega
    have k10 : w.heap.size + 1 < w6.heap.size := by omega
    first
      | (have TU := Lib.hid (Box.set (show Box w6.heap.size (0#64, 0#64) w7 from TB) t)
         have XU := Lib.hid (x7.far (k := w6.heap.size) (by omega) (uV t.1) (uV t.2))
         have SU := Lib.hid (sB.other (sB.other s7 (o := 0) (k := w6.heap.size) (uV t.1) (by omega)) (o := 1) (k := w6.heap.size) (uV t.2) (by omega))
         clear TB HB K HA
         generalize w6.heap.size = gt at *
         generalize (World.setCell (World.setCell w7 ⟨gt, 0, none⟩ (uV t.1)) ⟨gt, 1, none⟩ (uV t.2)) = u at TU XU SU ⊢)
      | (have TU := Lib.hid (Box.set (show Box w2.heap.size (0#64, 0#64) w7 from TB) t)
         have XU := Lib.hid (x7.far (k := w2.heap.size) (by omega) (uV t.1) (uV t.2))
         have SU := Lib.hid (sB.other (sB.other s7 (o := 0) (k := w2.heap.size) (uV t.1) (by omega)) (o := 1) (k := w2.heap.size) (uV t.2) (by omega))
         clear TB HB K HA
         generalize w2.heap.size = gt at *
         generalize (World.setCell (World.setCell w7 ⟨gt, 0, none⟩ (uV t.1)) ⟨gt, 1, none⟩ (uV t.2)) = u at TU XU SU ⊢)
      | (have TU := Lib.hid (Box.new w7 t rfl)
         have XU := Lib.hid (x7.alloc (.cells #[uV t.1, uV t.2] 24))
         have SU := Lib.hid (sB.alloc s7 (.cells #[uV t.1, uV t.2] 24))
         clear HB K HA
         generalize w7.heap.size = gt at *
         generalize World.alloc w7 (.cells #[uV t.1, uV t.2] 24) = u at TU XU SU ⊢)
    all_goals
      obtain ⟨e0, e1, e2, e3⟩ := XU.out.2.2.cells
      obtain ⟨g0, g1, g2, g3⟩ := XU.out.2.2.free
      obtain ⟨q0, q1⟩ := SU.out.cells
      obtain ⟨u0, u1⟩ := TU.out.cells
      have XE := Lib.hid (XU.out.set (t, s))
      clear XU SU TU x7 s7
      go_wp2_with fail
      exact bodyPost_ret (v := fBV (t, s) true) (by simp [results, Try.results41, go_sem, e0, e1, e2, e3]) rfl ⟨rfl, XE.out.1⟩

set_option maxHeartbeats 4000000 in
theorem rf_round_f (f : Fc) (s : Sp) (r t : Tn) (w : World) (hs : sIn s)
    (S1 : Hid (∀ w, Calls Try.prog 81 #[sV f.2, sV (bSp f.1)] w (Gives (sBV s true) w)))
    (R : Hid (∀ w, Calls Try.prog 82 #[sV s] w (Gives (tV r) w)))
    (M : Hid (∀ w, Calls Try.prog 69 #[tV f.1, tV r] w (Gives (tBV t false) w))) :
    Calls Try.prog 41 #[fV f] w (Gives (fBV fZ false) w) := by
  have hx := Lib.hid (FDuo.new f fZ w)
  go_enter Try.func41, Try.ntmps41
  go_wp2_with fail
  simp only [bv_or]
  refine (S1.out _).mono ?_; rintro e w1 ⟨rfl, b1⟩
  have x1 := hx.out.after b1
  obtain ⟨c0, c1, c2, c3⟩ := x1.2.1.cells
  have X1 := Lib.hid x1
  have SB := Lib.hid (sB.new w1 s (g := w1.heap.size) rfl)
  clear x1 hx b1
  go_wp2_with fail
  have X2 := Lib.hid (X1.out.alloc (.cells #[.int .u64 s.1, .int .u64 s.2] 26))
  generalize w1.heap.size = gs at *
  generalize w1.alloc (.cells #[.int .u64 s.1, .int .u64 s.2] 26) = w2 at *
  have HB : Below w2.heap.size w2 w2.drew := Below.drew (Below.refl _ _)
  have H := Lib.hid (fun (wx : World) (hx : Below w2.heap.size w2 wx) => And.intro (X2.out.after hx).2.1.cells (SB.out.after hx).cells)
  have K := Lib.hid (fun (wx : World) (hx : Below w2.heap.size w2 wx) => And.intro (And.intro (X2.out.after hx).2.1.cells.1 (X2.out.after hx).2.1.cells.2.1) (SB.out.after hx).cells)
  clear c0 c1 c2 c3 X1 H
  have HA : Below w2.heap.size w2 ((w2.alloc (.cells #[.int .u64 0, .int .u64 0] 24)).drew) := Below.drew (below_alloc (Below.refl _ _) _)
  have z1 := SB.out.lt
  have z2 := X2.out.2.1.lt
  go_region_held3 (fun w' => (w'.cell? ⟨w.heap.size, 0, none⟩ = some (uV f.1.1) ∧ w'.cell? ⟨w.heap.size, 1, none⟩ = some (uV f.1.2)) ∧ w'.cell? ⟨gs, 0, none⟩ = some (.int .u64 s.1) ∧ w'.cell? ⟨gs, 1, none⟩ = some (.int .u64 s.2))
    (first
      | exact K.out _ HB
      | exact K.out _ (Below.drew HB)
      | exact K.out _ (below_alloc HB _)
      | exact K.out _ (Below.drew (below_alloc HB _))
      | exact K.out _ (below_alloc (Below.drew HB) _)
      | exact K.out _ ((HB.setCell (by dsimp only; omega) _).setCell (by dsimp only; omega) _)
      | exact K.out _ (((below_alloc HB _).setCell (by dsimp only; omega) _).setCell (by dsimp only; omega) _)
      | exact K.out _ HA)
    (first
      | (go_at_call 82; refine (R.out _).mono ?_; rintro e w6 ⟨rfl, hb6⟩;
         (first | have TB := zB.made hb6 | have TB := (show zB w2.heap.size w6 from zB.made (w := w2.drew) hb6) | skip);
         (first | replace HB := below_next' HB hb6 | replace HB := below_next' (below_alloc HB _) hb6); clear hb6; have n6 := HB.size)
      | (go_at_call 69; refine (M.out _).mono ?_; rintro e w7 ⟨rfl, hb7⟩;
         (first | replace TB := zB.after TB hb7 | have TB := zB.made hb7 | skip);
         (first | replace HB := below_next' HB hb7 | replace HB := below_next' (below_alloc HB _) hb7); clear hb7; have n7 := HB.size; (try obtain ⟨t0, t1⟩ := TB.cells); (try obtain ⟨f0, f1⟩ := TB.free)))
  all_goals
    rename_i hh
    clear hh
    have x7 := X2.out.after HB
    have s7 := SB.out.after HB
    have n2 := X2.out.2.2.lt
    have k9 : gs < w6.heap.size := by omega
    have k10 : w.heap.size + 1 < w6.heap.size := by omega
    first
      | (have TU := Lib.hid (Box.set (show Box w6.heap.size (0#64, 0#64) w7 from TB) t)
         have XU := Lib.hid (x7.far (k := w6.heap.size) (by omega) (uV t.1) (uV t.2))
         have SU := Lib.hid (sB.other (sB.other s7 (o := 0) (k := w6.heap.size) (uV t.1) (by omega)) (o := 1) (k := w6.heap.size) (uV t.2) (by omega))
         clear TB HB K HA
         generalize w6.heap.size = gt at *
         generalize (World.setCell (World.setCell w7 ⟨gt, 0, none⟩ (uV t.1)) ⟨gt, 1, none⟩ (uV t.2)) = u at TU XU SU ⊢)
      | (have TU := Lib.hid (Box.set (show Box w2.heap.size (0#64, 0#64) w7 from TB) t)
         have XU := Lib.hid (x7.far (k := w2.heap.size) (by omega) (uV t.1) (uV t.2))
         have SU := Lib.hid (sB.other (sB.other s7 (o := 0) (k := w2.heap.size) (uV t.1) (by omega)) (o := 1) (k := w2.heap.size) (uV t.2) (by omega))
         clear TB HB K HA
         generalize w2.heap.size = gt at *
         generalize (World.setCell (World.setCell w7 ⟨gt, 0, none⟩ (uV t.1)) ⟨gt, 1, none⟩ (uV t.2)) = u at TU XU SU ⊢)
      | (have TU := Lib.hid (Box.new w7 t rfl)
         have XU := Lib.hid (x7.alloc (.cells #[uV t.1, uV t.2] 24))
         have SU := Lib.hid (sB.alloc s7 (.cells #[uV t.1, uV t.2] 24))
         clear HB K HA
         generalize w7.heap.size = gt at *
         generalize World.alloc w7 (.cells #[uV t.1, uV t.2] 24) = u at TU XU SU ⊢)
    all_goals
      obtain ⟨e0, e1, e2, e3⟩ := XU.out.2.2.cells
      obtain ⟨g0, g1, g2, g3⟩ := XU.out.2.2.free
      obtain ⟨q0, q1⟩ := SU.out.cells
      obtain ⟨u0, u1⟩ := TU.out.cells
      have XE := Lib.hid (XU.out.set fZ)
      clear XU SU TU x7 s7
      go_wp2_with fail
      exact bodyPost_ret (v := fBV fZ false) (by simp [results, Try.results41, go_sem, e0, e1, e2, e3, fZ]) rfl ⟨rfl, XE.out.1⟩

set_option maxHeartbeats 1000000 in
theorem rf_round_n (f : Fc) (s : Sp) (w : World)
    (S1 : Hid (∀ w, Calls Try.prog 81 #[sV f.2, sV (bSp f.1)] w (Gives (sBV s false) w))) :
    Calls Try.prog 41 #[fV f] w (Gives (fBV fZ false) w) := by
  have hx := Lib.hid (FDuo.new f fZ w)
  go_enter Try.func41, Try.ntmps41
  go_wp2_with fail
  simp only [bv_or]
  refine (S1.out _).mono ?_; rintro e w1 ⟨rfl, b1⟩
  have x1 := hx.out.after b1
  obtain ⟨e0, e1, e2, e3⟩ := x1.2.2.cells
  obtain ⟨g0, g1, g2, g3⟩ := x1.2.2.free
  have k1 := x1.2.2.lt
  have XE := Lib.hid ((x1.set fZ).alloc (.cells #[.int .u64 s.1, .int .u64 s.2] 26))
  clear x1 hx b1
  go_wp2_with fail
  exact bodyPost_ret (v := fBV fZ false) (by simp [results, Try.results41, go_sem, e0, e1, e2, e3, fZ, k1]) rfl ⟨rfl, XE.out.1⟩

/-- One round: what comes of it, or nothing. -/
theorem rf_round (f : Fc) (w : World) (hf : fIn f) : Calls Try.prog 41 #[fV f] w (Gives (if rdok f then fBV (rd f) true else fBV fZ false) w) := by
  have S1 := Lib.hid (rs_meet f.2 (bSp f.1))
  have M := Lib.hid (rmeet_says f.1 (rS (rdS f)))
  have R := Lib.hid fun w => rf_ranged (rdS f) w (rdS_in hf)
  unfold rdok rd
  cases h1 : sMok f.2 (bSp f.1)
  · rw [h1] at S1
    exact rf_round_n f _ w S1
  · rw [h1] at S1
    cases h2 : tMok f.1 (rS (rdS f))
    · rw [h2] at M
      exact rf_round_f f _ _ _ w (rdS_in hf) S1 R M
    · rw [h2] at M
      exact rf_round_t f _ _ _ w (rdS_in hf) S1 R M

end Go.Proofs.Ytfepokiibdkoeaa


/-
  What tnum's small functions answer, as contracts over their translated bodies.
  Conditions: none.
-/
namespace Go.Proofs.Ytfepokiibdkoeaa
open Go.RowKit
set_option linter.unusedVariables false

theorem right_says (t : Tn) (w : World) : Calls Try.prog 86 #[tV t] w (Gives (.bool (tR t)) w) := by
  go_enter Try.func86, Try.ntmps86
  go_wp2
  go_ret
  exact ⟨end_bool (by rw [bv_and, bv_eq0]; rfl), below_alloc (Below.refl _ _) _⟩
theorem of_says (n : BitVec 64) (w : World) : Calls Try.prog 42 #[uV n] w (Gives (tV (n, 0#64)) w) := by
  go_enter Try.func42, Try.ntmps42
  go_wp2
  refine bodyPost_ret (v := tV (n, 0#64)) (by simp [results, Try.results42, go_sem]) rfl ⟨rfl, ?_⟩
  exact below_alloc (Below.refl _ _) _
theorem has_says (t : Tn) (n : BitVec 64) (w : World) : Calls Try.prog 46 #[tV t, uV n] w (Gives (.bool (tH t n)) w) := by
  go_enter Try.func46, Try.ntmps46
  go_wp2
  go_ret
  exact ⟨end_bool (by rw [bv_andNot, bv_beq]; rfl), below_alloc (Below.refl _ _) _⟩
theorem both_says (a b : Tn) (w : World) : Calls Try.prog 88 #[tV a, tV b] w (Gives (.bool (tRR a b)) w) := by
  have h1 := Lib.hid (right_says a)
  have h2 := Lib.hid (right_says b)
  have hb := Lib.hid (Box.new (w.alloc (.cells #[uV a.1, uV a.2] 24)) b (g := w.heap.size + 1) (by simp))
  have hw := Lib.hid (below_alloc (below_alloc (Below.refl w.heap.size w) (.cells #[uV a.1, uV a.2] 24)) (.cells #[uV b.1, uV b.2] 24))
  unfold tRR
  cases ha : tR a
  · rw [ha] at h1
    clear ha
    generalize tR b = y at *
    go_enter Try.func88, Try.ntmps88
    go_wp2_with fail
    refine (h1.out _).mono ?_; rintro e w1 ⟨rfl, b1⟩
    go_wp2_with fail
    go_ret
    exact ⟨rfl, below_next' hw.out b1⟩
  · rw [ha] at h1
    clear ha
    generalize tR b = y at *
    go_enter Try.func88, Try.ntmps88
    go_wp2_with fail
    refine (h1.out _).mono ?_; rintro e w1 ⟨rfl, b1⟩
    obtain ⟨p0, p1⟩ := (hb.out.after b1).cells
    go_wp2_with fail
    refine (h2.out _).mono ?_; rintro e w2 ⟨rfl, b2⟩
    go_wp2_with fail
    go_ret
    exact ⟨rfl, below_next' (below_next' hw.out b1) b2⟩
theorem made_says (v m : BitVec 64) (w : World) : Calls Try.prog 89 #[uV v, uV m] w (Gives (tV (tMade v m)) w) := by
  go_enter Try.func89, Try.ntmps89
  go_wp2
  rw [bv_andNot]
  refine bodyPost_ret (v := tV (tMade v m)) (by simp [results, Try.results89, go_sem, tMade]) rfl ⟨rfl, ?_⟩
  exact below_alloc (Below.refl _ _) _
theorem maybe_says (t : Tn) (w : World) : Calls Try.prog 124 #[tV t] w (Gives (uV (t.1 ||| t.2)) w) := by
  go_enter Try.func124, Try.ntmps124
  go_wp2
  go_ret
  exact ⟨end_int (by rw [bv_or]), below_alloc (Below.refl _ _) _⟩

end Go.Proofs.Ytfepokiibdkoeaa


/-
  What tnum's functions of two answer: add, sub, Within, and Cut.
  Conditions: none.
-/
namespace Go.Proofs.Ytfepokiibdkoeaa
open Go.RowKit
set_option linter.unusedVariables false

set_option maxRecDepth 100000 in
set_option maxHeartbeats 1000000 in
theorem add_says (a b : Tn) (w : World) : Calls Try.prog 121 #[tV a, tV b] w (Gives (tV (tAdd a b)) w) := by
  have hx := Lib.hid (Trio.new a b w)
  have ht := Lib.hid (show tMade (a.1 + b.1) (((a.2 + b.2 + (a.1 + b.1)) ^^^ (a.1 + b.1)) ||| a.2 ||| b.2) = tAdd a b from rfl)
  go_enter Try.func121, Try.ntmps121
  go_wp2_with fail
  simp only [bv_add', bv_xor, bv_or]
  refine (made_says _ _ _).mono ?_; rintro e w1 ⟨rfl, b1⟩
  rw [ht.out]
  have x1 := hx.out.after b1
  clear ht hx b1
  generalize tAdd a b = t at *
  obtain ⟨c0, c1⟩ := x1.2.cells
  obtain ⟨f0, f1⟩ := x1.2.free
  have X1 := Lib.hid (x1.set t)
  clear x1
  go_wp2_with fail
  exact bodyPost_ret (v := tV t) (by simp [results, Try.results121, go_sem, c0, c1]) rfl ⟨rfl, X1.out.1.1⟩
set_option maxRecDepth 100000 in
set_option maxHeartbeats 1000000 in
theorem sub_says (a b : Tn) (w : World) : Calls Try.prog 122 #[tV a, tV b] w (Gives (tV (tSub a b)) w) := by
  have hx := Lib.hid (Trio.new a b w)
  have ht := Lib.hid (show tMade (a.1 - b.1) (((a.1 - b.1 + a.2) ^^^ (a.1 - b.1 - b.2)) ||| a.2 ||| b.2) = tSub a b from rfl)
  go_enter Try.func122, Try.ntmps122
  go_wp2_with fail
  go_quiet (fail)
  simp only [bv_sub', bv_add']
  generalize a.1 - b.1 = v at *
  generalize v + a.2 = p at *
  generalize v - b.2 = q at *
  go_wp2_with fail
  simp only [bv_xor, bv_or]
  refine (made_says _ _ _).mono ?_; rintro e w1 ⟨rfl, b1⟩
  rw [ht.out]
  have x1 := (hx.out.after (below_drewN (Below.refl _ _) nq)).after b1
  clear ht hx b1
  generalize tSub a b = t at *
  obtain ⟨c0, c1⟩ := x1.2.cells
  obtain ⟨f0, f1⟩ := x1.2.free
  have X1 := Lib.hid (x1.set t)
  clear x1
  go_wp2_with fail
  exact bodyPost_ret (v := tV t) (by simp [results, Try.results122, go_sem, c0, c1]) rfl ⟨rfl, X1.out.1.1⟩
set_option maxRecDepth 100000 in
set_option maxHeartbeats 1000000 in
theorem within_says (a b : Tn) (w : World) : Calls Try.prog 54 #[tV a, tV b] w (Gives (.bool (tW a b)) w) := by
  have hx := Lib.hid (Pair.new a b w)
  have h1 := Lib.hid (right_says a)
  have h2 := Lib.hid (has_says b a.1)
  have e1 := Lib.hid (show (bits .andNot .u64 (a.2.toNat : Int) (b.2.toNat : Int) == 0) = (a.2 &&& ~~~b.2 == 0#64) by rw [bv_andNot, bv_eq0])
  unfold tW
  generalize tR a = r1 at *
  generalize tH b a.1 = r2 at *
  generalize (a.2 &&& ~~~b.2 == 0#64) = r3 at *
  go_enter Try.func54, Try.ntmps54
  go_wp2_with fail
  refine (h1.out _).mono ?_; rintro e w1 ⟨rfl, b1⟩
  have x1 := hx.out.after b1
  obtain ⟨p0, p1, p2, p3⟩ := x1.cells
  have X1 := Lib.hid x1
  clear x1 b1
  cases r1
  · go_wp2_with fail
    go_ret
    exact ⟨rfl, X1.out.1⟩
  · cases r3
    · have e2 := e1.out
      clear e1
      go_wp2_with fail
      go_ret
      exact ⟨rfl, X1.out.1⟩
    · have e2 := e1.out
      clear e1
      go_wp2_with fail
      refine (h2.out _).mono ?_; rintro e w2 ⟨rfl, b2⟩
      go_wp2_with fail
      go_ret
      exact ⟨rfl, below_next' X1.out.1 b2⟩
set_option maxRecDepth 100000 in
theorem cut_no (t : Tn) (width : Int) (w : World) (h : tR t = false) : Calls Try.prog 61 #[tV t, .int .i64 width] w (Gives (tV (0#64, 0#64)) w) := by
  have hx := Lib.hid (Duo.new t w)
  have h1 := Lib.hid (right_says t)
  rw [h] at h1
  clear h
  go_enter Try.func61, Try.ntmps61
  go_wp2_with fail
  refine (h1.out _).mono ?_; rintro e w1 ⟨rfl, b1⟩
  have x1 := hx.out.after b1
  obtain ⟨c0, c1⟩ := x1.2.2.cells
  obtain ⟨f0, f1⟩ := x1.2.2.free
  have X1 := Lib.hid (x1.set (0#64, 0#64))
  clear x1 hx b1
  go_wp2_with fail
  exact bodyPost_ret (v := tV (0#64, 0#64)) (by simp [results, Try.results61, go_sem, c0, c1]) rfl ⟨rfl, X1.out.1⟩
set_option maxRecDepth 100000 in
theorem cut_all (t : Tn) (width : Int) (w : World) (h : tR t = true) (hw : width < 1 ∨ (1 ≤ width ∧ 63 < width)) : Calls Try.prog 61 #[tV t, .int .i64 width] w (Gives (tV t) w) := by
  have hx := Lib.hid (Duo.new t w)
  have h1 := Lib.hid (right_says t)
  rw [h] at h1
  clear h
  rcases hw with hw | ⟨hw, hw'⟩
  all_goals
    go_enter Try.func61, Try.ntmps61
    go_wp2_with fail
    refine (h1.out _).mono ?_; rintro e w1 ⟨rfl, b1⟩
    have x1 := hx.out.after b1
    obtain ⟨p0, p1⟩ := x1.2.1.cells
    obtain ⟨c0, c1⟩ := x1.2.2.cells
    obtain ⟨f0, f1⟩ := x1.2.2.free
    have X1 := Lib.hid (x1.set t)
    clear x1 hx b1
    go_wp2_with fail
    exact bodyPost_ret (v := tV t) (by simp [results, Try.results61, go_sem, c0, c1]) rfl ⟨rfl, X1.out.1⟩
set_option maxRecDepth 100000 in
theorem cut_some (t : Tn) (width : Int) (w : World) (h : tR t = true) (h1 : 1 ≤ width) (h2 : width ≤ 63) : Calls Try.prog 61 #[tV t, .int .i64 width] w (Gives (tV (tLow t.1 width.toNat, tLow t.2 width.toNat)) w) := by
  have hx := Lib.hid (Duo.new t w)
  have hr := Lib.hid (right_says t)
  rw [h] at hr
  clear h
  go_enter Try.func61, Try.ntmps61
  go_wp2_with fail
  refine (hr.out _).mono ?_; rintro e w1 ⟨rfl, b1⟩
  have x1 := hx.out.after b1
  obtain ⟨p0, p1⟩ := x1.2.1.cells
  obtain ⟨c0, c1⟩ := x1.2.2.cells
  obtain ⟨f0, f1⟩ := x1.2.2.free
  have X1 := Lib.hid x1
  clear x1 hx b1
  go_wp2_with fail
  rw [low_and t.1 width.toNat (by omega), low_and t.2 width.toNat (by omega)]
  have X2 := X1.out.set (tLow t.1 width.toNat, tLow t.2 width.toNat)
  exact bodyPost_ret (v := tV (tLow t.1 width.toNat, tLow t.2 width.toNat)) (by simp [results, Try.results61, go_sem, c0, c1]) rfl ⟨rfl, X2.1⟩
set_option maxRecDepth 100000 in
theorem cut_says (t : Tn) (width : Int) (w : World) : Calls Try.prog 61 #[tV t, .int .i64 width] w (Gives (tV (tC t width)) w) := by
  unfold tC
  cases h : tR t
  · exact cut_no t width w h
  · rw [if_pos rfl]
    by_cases hw : width < 1 ∨ 63 < width
    · rw [if_pos hw]
      exact cut_all t width w h (by omega)
    · rw [if_neg hw]
      exact cut_some t width w h (by omega) (by omega)

end Go.Proofs.Ytfepokiibdkoeaa


/-
  What tnum.Join, Meet, move and Do answer.
  Conditions: none.
-/
namespace Go.Proofs.Ytfepokiibdkoeaa
open Go.RowKit
set_option linter.unusedVariables false

set_option maxRecDepth 100000 in
set_option maxHeartbeats 1000000 in
theorem join_says (a b : Tn) (w : World) : Calls Try.prog 58 #[tV a, tV b] w (Gives (tV (tJ a b)) w) := by
  have hx := Lib.hid (Trio.new a b w)
  have h1 := Lib.hid (both_says a b)
  unfold tJ
  generalize tRR a b = r1 at *
  cases r1
  · rw [if_neg (by decide)]
    go_enter Try.func58, Try.ntmps58
    go_wp2_with fail
    refine (h1.out _).mono ?_; rintro e w1 ⟨rfl, b1⟩
    have x1 := hx.out.after b1
    obtain ⟨c0, c1⟩ := x1.2.cells
    obtain ⟨f0, f1⟩ := x1.2.free
    have X1 := Lib.hid (x1.set (0#64, 0#64))
    clear x1 hx b1
    go_wp2_with fail
    exact bodyPost_ret (v := tV (0#64, 0#64)) (by simp [results, Try.results58, go_sem, c0, c1]) rfl ⟨rfl, X1.out.1.1⟩
  · rw [if_pos rfl]
    generalize ht : tMade a.1 (a.2 ||| b.2 ||| (a.1 ^^^ b.1)) = t at *
    have ht := Lib.hid ht
    go_enter Try.func58, Try.ntmps58
    go_wp2_with fail
    refine (h1.out _).mono ?_; rintro e w1 ⟨rfl, b1⟩
    have x1 := hx.out.after b1
    obtain ⟨p0, p1, p2, p3⟩ := x1.1.cells
    obtain ⟨c0, c1⟩ := x1.2.cells
    obtain ⟨f0, f1⟩ := x1.2.free
    have X1 := Lib.hid x1
    clear x1 hx b1
    go_wp2_with fail
    simp only [bv_xor, bv_or]
    refine (made_says _ _ _).mono ?_; rintro e w2 ⟨rfl, b2⟩
    rw [ht.out]
    have x2 := X1.out.after b2
    clear p0 p1 p2 p3 c0 c1 f0 f1 X1 b2 ht
    obtain ⟨c0, c1⟩ := x2.2.cells
    obtain ⟨f0, f1⟩ := x2.2.free
    have X2 := Lib.hid (x2.set t)
    clear x2
    go_wp2_with fail
    exact bodyPost_ret (v := tV t) (by simp [results, Try.results58, go_sem, c0, c1]) rfl ⟨rfl, X2.out.1.1⟩
set_option maxRecDepth 100000 in
set_option maxHeartbeats 1000000 in
theorem meet_says (a b : Tn) (w : World) : Calls Try.prog 78 #[tV a, tV b] w (Gives (tBV (tM a b) (tMok a b)) w) := by
  have hx := Lib.hid (Trio.new a b w)
  have h1 := Lib.hid (both_says a b)
  have e1 := Lib.hid (show (bits .andNot .u64 (bits .xor .u64 (a.1.toNat : Int) (b.1.toNat : Int)) (bits .or .u64 (a.2.toNat : Int) (b.2.toNat : Int)) != 0) = !((a.1 ^^^ b.1) &&& ~~~(a.2 ||| b.2) == 0#64) by rw [bv_xor, bv_or, bv_andNot, bv_ne0])
  unfold tM
  unfold tMok
  generalize ((a.1 ^^^ b.1) &&& ~~~(a.2 ||| b.2) == 0#64) = r2 at *
  generalize tRR a b = r1 at *
  generalize ht : tMade (a.1 ||| b.1) (a.2 &&& b.2) = t at *
  have ht := Lib.hid ht
  cases r1
  · show Calls _ _ _ _ (Gives (tBV (0#64, 0#64) false) w)
    clear e1
    go_enter Try.func78, Try.ntmps78
    go_wp2_with fail
    refine (h1.out _).mono ?_; rintro e w1 ⟨rfl, b1⟩
    have x1 := hx.out.after b1
    obtain ⟨c0, c1⟩ := x1.2.cells
    obtain ⟨f0, f1⟩ := x1.2.free
    have X1 := Lib.hid (x1.set (0#64, 0#64))
    clear x1 hx b1
    go_wp2_with fail
    exact bodyPost_ret (v := tBV (0#64, 0#64) false) (by simp [results, Try.results78, go_sem, c0, c1]) rfl ⟨rfl, X1.out.1.1⟩
  · cases r2
    · show Calls _ _ _ _ (Gives (tBV (0#64, 0#64) false) w)
      go_enter Try.func78, Try.ntmps78
      go_wp2_with fail
      refine (h1.out _).mono ?_; rintro e w1 ⟨rfl, b1⟩
      have x1 := hx.out.after b1
      obtain ⟨p0, p1, p2, p3⟩ := x1.1.cells
      obtain ⟨c0, c1⟩ := x1.2.cells
      obtain ⟨f0, f1⟩ := x1.2.free
      have X1 := Lib.hid (x1.set (0#64, 0#64))
      have e2 := e1.out
      clear x1 hx b1 e1
      go_wp2_with fail
      exact bodyPost_ret (v := tBV (0#64, 0#64) false) (by simp [results, Try.results78, go_sem, c0, c1]) rfl ⟨rfl, X1.out.1.1⟩
    · show Calls _ _ _ _ (Gives (tBV t true) w)
      go_enter Try.func78, Try.ntmps78
      go_wp2_with fail
      refine (h1.out _).mono ?_; rintro e w1 ⟨rfl, b1⟩
      have x1 := hx.out.after b1
      obtain ⟨p0, p1, p2, p3⟩ := x1.1.cells
      obtain ⟨c0, c1⟩ := x1.2.cells
      obtain ⟨f0, f1⟩ := x1.2.free
      have X1 := Lib.hid x1
      have e2 := e1.out
      clear x1 hx b1 e1
      go_wp2_with fail
      simp only [bv_and, bv_or]
      refine (made_says _ _ _).mono ?_; rintro e w2 ⟨rfl, b2⟩
      rw [ht.out]
      have x2 := X1.out.after b2
      clear p0 p1 p2 p3 c0 c1 f0 f1 X1 b2 ht
      obtain ⟨c0, c1⟩ := x2.2.cells
      obtain ⟨f0, f1⟩ := x2.2.free
      have X2 := Lib.hid (x2.set t)
      clear x2
      go_wp2_with fail
      exact bodyPost_ret (v := tBV t true) (by simp [results, Try.results78, go_sem, c0, c1]) rfl ⟨rfl, X2.out.1.1⟩

end Go.Proofs.Ytfepokiibdkoeaa


/-
  The program's fact: one round.
  Conditions: the numbers fit their kinds.
-/
namespace Go.Proofs.Ytfepokiibdkoeaa
open Go.RowKit
set_option linter.unusedVariables false

set_option maxHeartbeats 4000000 in
theorem fp_round_t (f : Fc) (s : Sp) (r t : Tn) (w : World) (hs : sIn s)
    (S1 : Hid (∀ w, Calls Try.prog 77 #[sV f.2, sV (bSp f.1)] w (Gives (sBV s true) w)))
    (R : Hid (∀ w, Calls Try.prog 79 #[sV s] w (Gives (tV r) w)))
    (M : Hid (∀ w, Calls Try.prog 78 #[tV f.1, tV r] w (Gives (tBV t true) w))) :
    Calls Try.prog 38 #[fV f] w (Gives (fBV (t, s) true) w) := by
  have hx := Lib.hid (FDuo.new f fZ w)
  go_enter Try.func38, Try.ntmps38
  go_wp2_with fail
  simp only [bv_or]
  refine (S1.out _).mono ?_; rintro e w1 ⟨rfl, b1⟩
  have x1 := hx.out.after b1
  obtain ⟨c0, c1, c2, c3⟩ := x1.2.1.cells
  have X1 := Lib.hid x1
  have SB := Lib.hid (sB.new w1 s (g := w1.heap.size) rfl)
  clear x1 hx b1
  go_wp2_with fail
  have X2 := Lib.hid (X1.out.alloc (.cells #[.int .u64 s.1, .int .u64 s.2] 26))
  generalize w1.heap.size = gs at *
  generalize w1.alloc (.cells #[.int .u64 s.1, .int .u64 s.2] 26) = w2 at *
  have HB : Below w2.heap.size w2 w2.drew := Below.drew (Below.refl _ _)
  have H := Lib.hid (fun (wx : World) (hx : Below w2.heap.size w2 wx) => And.intro (X2.out.after hx).2.1.cells (SB.out.after hx).cells)
  have K := Lib.hid (fun (wx : World) (hx : Below w2.heap.size w2 wx) => And.intro (And.intro (X2.out.after hx).2.1.cells.1 (X2.out.after hx).2.1.cells.2.1) (SB.out.after hx).cells)
  clear c0 c1 c2 c3 X1 H
  have HA : Below w2.heap.size w2 ((w2.alloc (.cells #[.int .u64 0, .int .u64 0] 24)).drew) := Below.drew (below_alloc (Below.refl _ _) _)
  have z1 := SB.out.lt
  have z2 := X2.out.2.1.lt
  go_region_held3 (fun w' => (w'.cell? ⟨w.heap.size, 0, none⟩ = some (uV f.1.1) ∧ w'.cell? ⟨w.heap.size, 1, none⟩ = some (uV f.1.2)) ∧ w'.cell? ⟨gs, 0, none⟩ = some (.int .u64 s.1) ∧ w'.cell? ⟨gs, 1, none⟩ = some (.int .u64 s.2))
    (first
      | exact K.out _ HB
      | exact K.out _ (Below.drew HB)
      | exact K.out _ (below_alloc HB _)
      | exact K.out _ (Below.drew (below_alloc HB _))
      | exact K.out _ (below_alloc (Below.drew HB) _)
      | exact K.out _ ((HB.setCell (by dsimp only; omega) _).setCell (by dsimp only; omega) _)
      | exact K.out _ (((below_alloc HB _).setCell (by dsimp only; omega) _).setCell (by dsimp only; omega) _)
      | exact K.out _ HA)
    (first
      | (go_at_call 79; refine (R.out _).mono ?_; rintro e w6 ⟨rfl, hb6⟩;
         (first | have TB := zB.made hb6 | have TB := (show zB w2.heap.size w6 from zB.made (w := w2.drew) hb6) | skip);
         (first | replace HB := below_next' HB hb6 | replace HB := below_next' (below_alloc HB _) hb6); clear hb6; have n6 := HB.size)
      | (go_at_call 78; refine (M.out _).mono ?_; rintro e w7 ⟨rfl, hb7⟩;
         (first | replace TB := zB.after TB hb7 | have TB := zB.made hb7 | skip);
         (first | replace HB := below_next' HB hb7 | replace HB := below_next' (below_alloc HB _) hb7); clear hb7; have n7 := HB.size; (try obtain ⟨t0, t1⟩ := TB.cells); (try obtain ⟨f0, f1⟩ := TB.free)))
  all_goals
    rename_i hh
    clear hh
    have x7 := X2.out.after HB
    have s7 := SB.out.after HB
    have n2 := X2.out.2.2.lt
    have k9 : gs < w6.heap.size := by omega
    have k10 : w.heap.size + 1 < w6.heap.size := by omega
    first
      | (have TU := Lib.hid (Box.set (show Box w6.heap.size (0#64, 0#64) w7 from TB) t)
         have XU := Lib.hid (x7.far (k := w6.heap.size) (by omega) (uV t.1) (uV t.2))
         have SU := Lib.hid (sB.other (sB.other s7 (o := 0) (k := w6.heap.size) (uV t.1) (by omega)) (o := 1) (k := w6.heap.size) (uV t.2) (by omega))
         clear TB HB K HA
         generalize w6.heap.size = gt at *
         generalize (World.setCell (World.setCell w7 ⟨gt, 0, none⟩ (uV t.1)) ⟨gt, 1, none⟩ (uV t.2)) = u at TU XU SU ⊢)
      | (have TU := Lib.hid (Box.set (show Box w2.heap.size (0#64, 0#64) w7 from TB) t)
         have XU := Lib.hid (x7.far (k := w2.heap.size) (by omega) (uV t.1) (uV t.2))
         have SU := Lib.hid (sB.other (sB.other s7 (o := 0) (k := w2.heap.size) (uV t.1) (by omega)) (o := 1) (k := w2.heap.size) (uV t.2) (by omega))
         clear TB HB K HA
         generalize w2.heap.size = gt at *
         generalize (World.setCell (World.setCell w7 ⟨gt, 0, none⟩ (uV t.1)) ⟨gt, 1, none⟩ (uV t.2)) = u at TU XU SU ⊢)
      | (have TU := Lib.hid (Box.new w7 t rfl)
         have XU := Lib.hid (x7.alloc (.cells #[uV t.1, uV t.2] 24))
         have SU := Lib.hid (sB.alloc s7 (.cells #[uV t.1, uV t.2] 24))
         clear HB K HA
         generalize w7.heap.size = gt at *
         generalize World.alloc w7 (.cells #[uV t.1, uV t.2] 24) = u at TU XU SU ⊢)
    all_goals
      obtain ⟨e0, e1, e2, e3⟩ := XU.out.2.2.cells
      obtain ⟨g0, g1, g2, g3⟩ := XU.out.2.2.free
      obtain ⟨q0, q1⟩ := SU.out.cells
      obtain ⟨u0, u1⟩ := TU.out.cells
      have XE := Lib.hid (XU.out.set (t, s))
      clear XU SU TU x7 s7
      go_wp2_with fail
      exact bodyPost_ret (v := fBV (t, s) true) (by simp [results, Try.results38, go_sem, e0, e1, e2, e3]) rfl ⟨rfl, XE.out.1⟩

set_option maxHeartbeats 4000000 in
theorem fp_round_f (f : Fc) (s : Sp) (r t : Tn) (w : World) (hs : sIn s)
    (S1 : Hid (∀ w, Calls Try.prog 77 #[sV f.2, sV (bSp f.1)] w (Gives (sBV s true) w)))
    (R : Hid (∀ w, Calls Try.prog 79 #[sV s] w (Gives (tV r) w)))
    (M : Hid (∀ w, Calls Try.prog 78 #[tV f.1, tV r] w (Gives (tBV t false) w))) :
    Calls Try.prog 38 #[fV f] w (Gives (fBV fZ false) w) := by
  have hx := Lib.hid (FDuo.new f fZ w)
  go_enter Try.func38, Try.ntmps38
  go_wp2_with fail
  simp only [bv_or]
  refine (S1.out _).mono ?_; rintro e w1 ⟨rfl, b1⟩
  have x1 := hx.out.after b1
  obtain ⟨c0, c1, c2, c3⟩ := x1.2.1.cells
  have X1 := Lib.hid x1
  have SB := Lib.hid (sB.new w1 s (g := w1.heap.size) rfl)
  clear x1 hx b1
  go_wp2_with fail
  have X2 := Lib.hid (X1.out.alloc (.cells #[.int .u64 s.1, .int .u64 s.2] 26))
  generalize w1.heap.size = gs at *
  generalize w1.alloc (.cells #[.int .u64 s.1, .int .u64 s.2] 26) = w2 at *
  have HB : Below w2.heap.size w2 w2.drew := Below.drew (Below.refl _ _)
  have H := Lib.hid (fun (wx : World) (hx : Below w2.heap.size w2 wx) => And.intro (X2.out.after hx).2.1.cells (SB.out.after hx).cells)
  have K := Lib.hid (fun (wx : World) (hx : Below w2.heap.size w2 wx) => And.intro (And.intro (X2.out.after hx).2.1.cells.1 (X2.out.after hx).2.1.cells.2.1) (SB.out.after hx).cells)
  clear c0 c1 c2 c3 X1 H
  have HA : Below w2.heap.size w2 ((w2.alloc (.cells #[.int .u64 0, .int .u64 0] 24)).drew) := Below.drew (below_alloc (Below.refl _ _) _)
  have z1 := SB.out.lt
  have z2 := X2.out.2.1.lt
  go_region_held3 (fun w' => (w'.cell? ⟨w.heap.size, 0, none⟩ = some (uV f.1.1) ∧ w'.cell? ⟨w.heap.size, 1, none⟩ = some (uV f.1.2)) ∧ w'.cell? ⟨gs, 0, none⟩ = some (.int .u64 s.1) ∧ w'.cell? ⟨gs, 1, none⟩ = some (.int .u64 s.2))
    (first
      | exact K.out _ HB
      | exact K.out _ (Below.drew HB)
      | exact K.out _ (below_alloc HB _)
      | exact K.out _ (Below.drew (below_alloc HB _))
      | exact K.out _ (below_alloc (Below.drew HB) _)
      | exact K.out _ ((HB.setCell (by dsimp only; omega) _).setCell (by dsimp only; omega) _)
      | exact K.out _ (((below_alloc HB _).setCell (by dsimp only; omega) _).setCell (by dsimp only; omega) _)
      | exact K.out _ HA)
    (first
      | (go_at_call 79; refine (R.out _).mono ?_; rintro e w6 ⟨rfl, hb6⟩;
         (first | have TB := zB.made hb6 | have TB := (show zB w2.heap.size w6 from zB.made (w := w2.drew) hb6) | skip);
         (first | replace HB := below_next' HB hb6 | replace HB := below_next' (below_alloc HB _) hb6); clear hb6; have n6 := HB.size)
      | (go_at_call 78; refine (M.out _).mono ?_; rintro e w7 ⟨rfl, hb7⟩;
         (first | replace TB := zB.after TB hb7 | have TB := zB.made hb7 | skip);
         (first | replace HB := below_next' HB hb7 | replace HB := below_next' (below_alloc HB _) hb7); clear hb7; have n7 := HB.size; (try obtain ⟨t0, t1⟩ := TB.cells); (try obtain ⟨f0, f1⟩ := TB.free)))
  all_goals
    rename_i hh
    clear hh
    have x7 := X2.out.after HB
    have s7 := SB.out.after HB
    have n2 := X2.out.2.2.lt
    have k9 : gs < w6.heap.size := by omega
    have k10 : w.heap.size + 1 < w6.heap.size := by omega
    first
      | (have TU := Lib.hid (Box.set (show Box w6.heap.size (0#64, 0#64) w7 from TB) t)
         have XU := Lib.hid (x7.far (k := w6.heap.size) (by omega) (uV t.1) (uV t.2))
         have SU := Lib.hid (sB.other (sB.other s7 (o := 0) (k := w6.heap.size) (uV t.1) (by omega)) (o := 1) (k := w6.heap.size) (uV t.2) (by omega))
         clear TB HB K HA
         generalize w6.heap.size = gt at *
         generalize (World.setCell (World.setCell w7 ⟨gt, 0, none⟩ (uV t.1)) ⟨gt, 1, none⟩ (uV t.2)) = u at TU XU SU ⊢)
      | (have TU := Lib.hid (Box.set (show Box w2.heap.size (0#64, 0#64) w7 from TB) t)
         have XU := Lib.hid (x7.far (k := w2.heap.size) (by omega) (uV t.1) (uV t.2))
         have SU := Lib.hid (sB.other (sB.other s7 (o := 0) (k := w2.heap.size) (uV t.1) (by omega)) (o := 1) (k := w2.heap.size) (uV t.2) (by omega))
         clear TB HB K HA
         generalize w2.heap.size = gt at *
         generalize (World.setCell (World.setCell w7 ⟨gt, 0, none⟩ (uV t.1)) ⟨gt, 1, none⟩ (uV t.2)) = u at TU XU SU ⊢)
      | (have TU := Lib.hid (Box.new w7 t rfl)
         have XU := Lib.hid (x7.alloc (.cells #[uV t.1, uV t.2] 24))
         have SU := Lib.hid (sB.alloc s7 (.cells #[uV t.1, uV t.2] 24))
         clear HB K HA
         generalize w7.heap.size = gt at *
         generalize World.alloc w7 (.cells #[uV t.1, uV t.2] 24) = u at TU XU SU ⊢)
    all_goals
      obtain ⟨e0, e1, e2, e3⟩ := XU.out.2.2.cells
      obtain ⟨g0, g1, g2, g3⟩ := XU.out.2.2.free
      obtain ⟨q0, q1⟩ := SU.out.cells
      obtain ⟨u0, u1⟩ := TU.out.cells
      have XE := Lib.hid (XU.out.set fZ)
      clear XU SU TU x7 s7
      go_wp2_with fail
      exact bodyPost_ret (v := fBV fZ false) (by simp [results, Try.results38, go_sem, e0, e1, e2, e3, fZ]) rfl ⟨rfl, XE.out.1⟩

set_option maxHeartbeats 1000000 in
theorem fp_round_n (f : Fc) (s : Sp) (w : World)
    (S1 : Hid (∀ w, Calls Try.prog 77 #[sV f.2, sV (bSp f.1)] w (Gives (sBV s false) w))) :
    Calls Try.prog 38 #[fV f] w (Gives (fBV fZ false) w) := by
  have hx := Lib.hid (FDuo.new f fZ w)
  go_enter Try.func38, Try.ntmps38
  go_wp2_with fail
  simp only [bv_or]
  refine (S1.out _).mono ?_; rintro e w1 ⟨rfl, b1⟩
  have x1 := hx.out.after b1
  obtain ⟨e0, e1, e2, e3⟩ := x1.2.2.cells
  obtain ⟨g0, g1, g2, g3⟩ := x1.2.2.free
  have k1 := x1.2.2.lt
  have XE := Lib.hid ((x1.set fZ).alloc (.cells #[.int .u64 s.1, .int .u64 s.2] 26))
  clear x1 hx b1
  go_wp2_with fail
  exact bodyPost_ret (v := fBV fZ false) (by simp [results, Try.results38, go_sem, e0, e1, e2, e3, fZ, k1]) rfl ⟨rfl, XE.out.1⟩

/-- One round: what comes of it, or nothing. -/
theorem fp_round (f : Fc) (w : World) (hf : fIn f) : Calls Try.prog 38 #[fV f] w (Gives (if rdok f then fBV (rd f) true else fBV fZ false) w) := by
  have S1 := Lib.hid (smeet_says f.2 (bSp f.1))
  have M := Lib.hid (meet_says f.1 (rS (rdS f)))
  have R := Lib.hid fun w => fp_told (rdS f) w (rdS_in hf)
  unfold rdok rd
  cases h1 : sMok f.2 (bSp f.1)
  · rw [h1] at S1
    exact fp_round_n f _ w S1
  · rw [h1] at S1
    cases h2 : tMok f.1 (rS (rdS f))
    · rw [h2] at M
      exact fp_round_f f _ _ _ w (rdS_in hf) S1 R M
    · rw [h2] at M
      exact fp_round_t f _ _ _ w (rdS_in hf) S1 R M

end Go.Proofs.Ytfepokiibdkoeaa


/-
  The document's own answers of layer 6: Settle, Right, settled.
  Conditions: the numbers fit their kinds.
-/
namespace Go.Proofs.Ytfepokiibdkoeaa
open Go.RowKit
set_option linter.unusedVariables false

set_option maxHeartbeats 4000000 in
theorem rf_settle_run (f : Fc) (w : World) (hf : fIn f) (hr : fRR f = true) : Calls Try.prog 13 #[fV f] w (Gives (fBV ((fS f).getD fZ) (fS f).isSome) w) := by
  have R1 : Hid (∀ w, Calls Try.prog 39 #[tV f.1] w (Gives (.bool true) w)) := Lib.hid fun w => by
    have h := rright_says f.1 w
    rw [(fRR_iff.mp hr).1] at h
    exact h
  have R2 : Hid (∀ w, Calls Try.prog 40 #[sV f.2] w (Gives (.bool true) w)) := Lib.hid fun w => by
    have h := rs_right f.2 w
    rw [(fRR_iff.mp hr).2] at h
    exact h
  have hx := Lib.hid (FDuo.new f fZ w)
  have HR := Lib.hid fun (g : Fc) (hg : fIn g) => fun w => rf_round g w hg
  have h80 : fS f = fIt 80 f := by unfold fS; rw [if_pos hr]
  rw [h80]
  generalize hF : fIt 80 f = F
  have HF := Lib.hid hF
  clear hF h80
  generalize hV : fBV (F.getD fZ) F.isSome = V
  have HV := Lib.hid hV
  clear hV
  go_enter Try.func13, Try.ntmps13
  go_wp2_with fail
  refine (R1.out _).mono ?_; rintro e w1 ⟨rfl, b1⟩
  have x1 := hx.out.after b1
  obtain ⟨c0, c1, c2, c3⟩ := x1.2.1.cells
  have X1 := Lib.hid x1
  clear x1 hx b1
  go_wp2_with fail
  refine (R2.out _).mono ?_; rintro e w2 ⟨rfl, b2⟩
  have X2 := Lib.hid (X1.out.after b2)
  clear X1 b2 c0 c1 c2 c3
  go_wp2_with fail
  clear R1 R2
  go_loopw [4] (fun i wr => ∃ (j : Nat) (g : Fc), j ≤ 80 ∧ i = .int .i64 j ∧ fIn g ∧ fRR g = true ∧ fIt (80 - j) g = F ∧ Hid (FDuo g fZ w wr)) (fun i _ => 80 - (intOf i).toNat)
  case atStart => exact ⟨0, f, by omega, rfl, hf, hr, HF.out, X2⟩
  case round =>
    obtain ⟨j, g, hj, rfl, ig, rg, hg, X⟩ := hrel
    have R := Lib.hid (HR.out g ig)
    obtain ⟨c0, c1, c2, c3⟩ := X.out.2.1.cells
    by_cases hlt : (j : Int) < 80
    · obtain ⟨n, hn⟩ : ∃ n, 80 - j = n + 1 := ⟨79 - j, by omega⟩
      rw [hn] at hg
      cases h : rdok g
      · have hV : V = fBV fZ false := by rw [← HV.out, ← hg, fIt_no h]; rfl
        subst hV
        rw [h, if_neg (by decide)] at R
        clear HR HV HF hg
        go_wp2_with fail
        refine (R.out _).mono ?_; rintro e w3 ⟨rfl, b3⟩
        have x3 := X.out.after b3
        obtain ⟨e0, e1, e2, e3⟩ := x3.2.2.cells
        obtain ⟨g0, g1, g2, g3⟩ := x3.2.2.free
        have k1 := x3.2.2.lt
        have XE := Lib.hid ((x3.set fZ).alloc (.cells (fCells fZ) 28))
        clear x3 X b3 c0 c1 c2 c3 R
        go_wp2_with fail
        exact bodyPost_ret (v := fBV fZ false) (by simp [results, Try.results13, go_sem, e0, e1, e2, e3, fZ, k1]) rfl ⟨rfl, XE.out.1⟩
      · rw [h, if_pos rfl] at R
        by_cases he : rd g = g
        · have hV : V = fBV g true := by rw [← HV.out, ← hg, fIt_end h he]; rfl
          subst hV
          rw [he] at R
          clear HR HV HF hg
          go_wp2_with fail
          refine (R.out _).mono ?_; rintro e w3 ⟨rfl, b3⟩
          have x3 := X.out.after b3
          obtain ⟨e0, e1, e2, e3⟩ := x3.2.2.cells
          obtain ⟨g0, g1, g2, g3⟩ := x3.2.2.free
          have k1 := x3.2.2.lt
          have XE := Lib.hid ((x3.set g).alloc (.cells (fCells g) 28))
          clear c0 c1 c2 c3
          obtain ⟨c0, c1, c2, c3⟩ := x3.2.1.cells
          have k2 := x3.2.1.lt
          clear x3 X b3 R
          go_wp2_with fail
          exact bodyPost_ret (v := fBV g true) (by simp [results, Try.results13, go_sem, e0, e1, e2, e3, k1]) rfl ⟨rfl, XE.out.1⟩
        · rw [fIt_on h he] at hg
          have ig2 := rd_in ig
          have rg2 := rd_right h
          have hne : (¬ ((rd g).1.1.toNat : Int) = (g.1.1.toNat : Int)) ∨ (((rd g).1.1.toNat : Int) = (g.1.1.toNat : Int) ∧ ¬ ((rd g).1.2.toNat : Int) = (g.1.2.toNat : Int)) ∨
              (((rd g).1.1.toNat : Int) = (g.1.1.toNat : Int) ∧ ((rd g).1.2.toNat : Int) = (g.1.2.toNat : Int) ∧ ¬ (rd g).2.1 = g.2.1) ∨
              (((rd g).1.1.toNat : Int) = (g.1.1.toNat : Int) ∧ ((rd g).1.2.toNat : Int) = (g.1.2.toNat : Int) ∧ (rd g).2.1 = g.2.1 ∧ ¬ (rd g).2.2 = g.2.2) := by
            have hb : ∀ x y : BitVec 64, (x.toNat : Int) = (y.toNat : Int) → x = y := fun x y h => BitVec.eq_of_toNat_eq (by omega)
            by_cases a1 : ((rd g).1.1.toNat : Int) = (g.1.1.toNat : Int)
            · by_cases a2 : ((rd g).1.2.toNat : Int) = (g.1.2.toNat : Int)
              · by_cases a3 : (rd g).2.1 = g.2.1
                · by_cases a4 : (rd g).2.2 = g.2.2
                  · exact absurd (Prod.ext (Prod.ext (hb _ _ a1) (hb _ _ a2)) (Prod.ext a3 a4)) he
                  · exact .inr (.inr (.inr ⟨a1, a2, a3, a4⟩))
                · exact .inr (.inr (.inl ⟨a1, a2, a3⟩))
              · exact .inr (.inl ⟨a1, a2⟩)
            · exact .inl a1
          have hg2 : fIt (80 - (j + 1)) (rd g) = F := by rw [show 80 - (j + 1) = n by omega]; exact hg
          have HG := Lib.hid hg2
          clear hg hg2 he
          generalize rd g = g' at *
          clear HR
          rcases hne with a1 | ⟨a1, a2⟩ | ⟨a1, a2, a3⟩ | ⟨a1, a2, a3, a4⟩
          all_goals
            go_wp2_with fail
            refine (R.out _).mono ?_; rintro e w3 ⟨rfl, b3⟩
            have x3 := X.out.after b3
            clear c0 c1 c2 c3
            obtain ⟨c0, c1, c2, c3⟩ := x3.2.1.cells
            obtain ⟨f0, f1, f2, f3⟩ := x3.2.1.free
            have k2 := x3.2.1.lt
            have XN := Lib.hid ((x3.setA g').alloc (.cells (fCells g') 28))
            clear X b3 R x3
            go_wp2_with fail
            go_round
            case rel =>
              have XM := XN.out
              simp only [fCells, uV] at XM
              try rw [a1] at XM
              try rw [a2] at XM
              try rw [a3] at XM
              exact ⟨j + 1, g', by omega, by go_num, ig2, rg2, HG.out, Lib.hid XM⟩
            case measure => first | (simp [intOf]; done) | (simp [intOf]; omega)
    · have hj2 : j = 80 := by omega
      subst hj2
      have hV : V = fBV g true := by rw [← HV.out, ← hg]; rfl
      subst hV
      clear HR HV HF hg R
      obtain ⟨e0, e1, e2, e3⟩ := X.out.2.2.cells
      obtain ⟨g0, g1, g2, g3⟩ := X.out.2.2.free
      have XE := Lib.hid (X.out.set g)
      clear X
      go_wp2_with fail
      exact bodyPost_ret (v := fBV g true) (by simp [results, Try.results13, go_sem, e0, e1, e2, e3]) rfl ⟨rfl, XE.out.1⟩

/-- Two facts that are not one part somewhere first. -/
theorem fc_ne {a b : Fc} (h : ¬ a = b) : (¬ (a.1.1.toNat : Int) = (b.1.1.toNat : Int)) ∨ ((a.1.1.toNat : Int) = (b.1.1.toNat : Int) ∧ ¬ (a.1.2.toNat : Int) = (b.1.2.toNat : Int)) ∨
    ((a.1.1.toNat : Int) = (b.1.1.toNat : Int) ∧ (a.1.2.toNat : Int) = (b.1.2.toNat : Int) ∧ ¬ a.2.1 = b.2.1) ∨
    ((a.1.1.toNat : Int) = (b.1.1.toNat : Int) ∧ (a.1.2.toNat : Int) = (b.1.2.toNat : Int) ∧ a.2.1 = b.2.1 ∧ ¬ a.2.2 = b.2.2) := by
  have hb : ∀ x y : BitVec 64, (x.toNat : Int) = (y.toNat : Int) → x = y := fun x y h => BitVec.eq_of_toNat_eq (by omega)
  by_cases a1 : (a.1.1.toNat : Int) = (b.1.1.toNat : Int)
  · by_cases a2 : (a.1.2.toNat : Int) = (b.1.2.toNat : Int)
    · by_cases a3 : a.2.1 = b.2.1
      · by_cases a4 : a.2.2 = b.2.2
        · exact absurd (Prod.ext (Prod.ext (hb _ _ a1) (hb _ _ a2)) (Prod.ext a3 a4)) h
        · exact .inr (.inr (.inr ⟨a1, a2, a3, a4⟩))
      · exact .inr (.inr (.inl ⟨a1, a2, a3⟩))
    · exact .inr (.inl ⟨a1, a2⟩)
  · exact .inl a1

set_option maxHeartbeats 1000000 in
theorem rf_settle (f : Fc) (w : World) (hf : fIn f) : Calls Try.prog 13 #[fV f] w (Gives (fBV ((fS f).getD fZ) (fS f).isSome) w) := by
  cases hr : fRR f
  · have hz : fS f = none := by unfold fS; rw [hr]; rfl
    rw [hz]
    show Calls _ _ _ _ (Gives (fBV fZ false) w)
    have R1 := Lib.hid fun w => rright_says f.1 w
    have R2 := Lib.hid fun w => rs_right f.2 w
    have hx := Lib.hid (FDuo.new f fZ w)
    cases h1 : tR f.1
    · rw [h1] at R1
      clear hr hz
      go_enter Try.func13, Try.ntmps13
      go_wp2_with fail
      refine (R1.out _).mono ?_; rintro e w1 ⟨rfl, b1⟩
      have x1 := hx.out.after b1
      obtain ⟨e0, e1, e2, e3⟩ := x1.2.2.cells
      obtain ⟨g0, g1, g2, g3⟩ := x1.2.2.free
      have XE := Lib.hid (x1.set fZ)
      clear x1 hx b1
      go_wp2_with fail
      exact bodyPost_ret (v := fBV fZ false) (by simp [results, Try.results13, go_sem, e0, e1, e2, e3, fZ]) rfl ⟨rfl, XE.out.1⟩
    · have h2 : sR f.2 = false := by
        unfold fRR at hr
        rw [h1] at hr
        simpa using hr
      rw [h1] at R1
      rw [h2] at R2
      clear hr hz
      go_enter Try.func13, Try.ntmps13
      go_wp2_with fail
      refine (R1.out _).mono ?_; rintro e w1 ⟨rfl, b1⟩
      have x1 := hx.out.after b1
      obtain ⟨c0, c1, c2, c3⟩ := x1.2.1.cells
      have X1 := Lib.hid x1
      clear x1 hx b1
      go_wp2_with fail
      refine (R2.out _).mono ?_; rintro e w2 ⟨rfl, b2⟩
      have x2 := X1.out.after b2
      obtain ⟨e0, e1, e2, e3⟩ := x2.2.2.cells
      obtain ⟨g0, g1, g2, g3⟩ := x2.2.2.free
      have XE := Lib.hid (x2.set fZ)
      clear x2 X1 b2 c0 c1 c2 c3
      go_wp2_with fail
      exact bodyPost_ret (v := fBV fZ false) (by simp [results, Try.results13, go_sem, e0, e1, e2, e3, fZ]) rfl ⟨rfl, XE.out.1⟩
  · exact rf_settle_run f w hf hr

set_option maxHeartbeats 1000000 in
theorem rf_right (f : Fc) (w : World) (hf : fIn f) : Calls Try.prog 18 #[fV f] w (Gives (.bool (fR f)) w) := by
  have S := Lib.hid fun w => rf_settle f w hf
  have hx := Lib.hid (show Blks w [(w.heap.size, fCells f, 28)] (w.alloc (.cells (fCells f) 28)) from (Blks.start w).new (fCells f) 28)
  cases hs : fS f with
  | none =>
    have e : fR f = false := by unfold fR; rw [hs]; exact decide_eq_false (fun h => by cases h)
    rw [hs] at S
    rw [e]
    replace S : Hid (∀ w, Calls Try.prog 13 #[fV f] w (Gives (fBV fZ false) w)) := S
    go_enter Try.func18, Try.ntmps18
    go_wp2_with fail
    refine (S.out _).mono ?_; rintro e w1 ⟨rfl, b1⟩
    have x1 := hx.out.after b1
    clear hx b1
    go_wp2_with fail
    go_ret
    exact ⟨rfl, below_alloc x1.1 _⟩
  | some g =>
    rw [hs] at S
    replace S : Hid (∀ w, Calls Try.prog 13 #[fV f] w (Gives (fBV g true) w)) := S
    by_cases hg : g = f
    · subst hg
      have e : fR g = true := decide_eq_true hs
      rw [e]
      go_enter Try.func18, Try.ntmps18
      go_wp2_with fail
      refine (S.out _).mono ?_; rintro e w1 ⟨rfl, b1⟩
      have x1 := hx.out.after b1
      have y1 : fB w.heap.size g w1 := x1.get (by simp)
      obtain ⟨c0, c1, c2, c3⟩ := y1.cells
      have k1 := y1.lt
      clear hx b1 y1
      go_wp2_with fail
      go_ret
      exact ⟨rfl, below_alloc x1.1 _⟩
    · have e : fR f = false := by unfold fR; rw [hs]; exact decide_eq_false (fun h => hg (Option.some.inj h))
      rw [e]
      rcases fc_ne hg with a1 | ⟨a1, a2⟩ | ⟨a1, a2, a3⟩ | ⟨a1, a2, a3, a4⟩
      all_goals
        go_enter Try.func18, Try.ntmps18
        go_wp2_with fail
        refine (S.out _).mono ?_; rintro e w1 ⟨rfl, b1⟩
        have x1 := hx.out.after b1
        have y1 : fB w.heap.size f w1 := x1.get (by simp)
        obtain ⟨c0, c1, c2, c3⟩ := y1.cells
        have k1 := y1.lt
        clear hx b1 y1
        go_wp2_with fail
        go_ret
        exact ⟨rfl, below_alloc x1.1 _⟩

end Go.Proofs.Ytfepokiibdkoeaa


/-
  The program's fact: Settle.
  Conditions: the numbers fit their kinds.
-/
namespace Go.Proofs.Ytfepokiibdkoeaa
open Go.RowKit
set_option linter.unusedVariables false

theorem rdok_RR {f : Fc} (h : rdok f = true) : fRR f = true := by
  obtain ⟨h1, h2⟩ := rdok_iff.mp h
  have k := sTok_le (show sTok (max f.2.1 (bSp f.1).1) (min f.2.2 (bSp f.1).2) = true from h1)
  have k2 : tRR f.1 (rS (rdS f)) = true := by
    unfold tMok at h2
    exact (Bool.and_eq_true_iff.mp h2).1
  unfold tRR at k2
  exact fRR_iff.mpr ⟨(Bool.and_eq_true_iff.mp k2).1, decide_eq_true (by omega)⟩
theorem fS_no {f : Fc} (h : rdok f = false) : fS f = none := by
  rw [fS_eq]
  split
  · exact fE_no h
  · rfl
theorem fS_end {f : Fc} (h : rdok f = true) (e : rd f = f) : fS f = some f := by
  rw [fS_eq, if_pos (rdok_RR h)]
  exact fE_end h e
theorem fS_on {f : Fc} (h : rdok f = true) (e : ¬ rd f = f) : fS f = fS (rd f) := by
  rw [fS_eq, fS_eq, if_pos (rdok_RR h), if_pos (rd_right h)]
  exact fE_on (rdok_RR h) h e

/-- The fact that lies in a block. -/
def cellN (w : World) (g k : Nat) : Int := match w.cell? ⟨g, k, none⟩ with | some (.int _ n) => n | _ => 0
def rdF (g : Nat) (w : World) : Fc := ((BitVec.ofInt 64 (cellN w g 0), BitVec.ofInt 64 (cellN w g 1)), (cellN w g 2, cellN w g 3))
theorem rdF_of {g : Nat} {f : Fc} {w : World} (h : fB g f w) : rdF g w = f := by
  obtain ⟨c0, c1, c2, c3⟩ := h.cells
  unfold rdF cellN
  rw [c0, c1, c2, c3]
  dsimp only
  rw [ofInt_eq rfl, ofInt_eq rfl]

set_option maxRecDepth 100000 in
set_option maxHeartbeats 4000000 in
theorem fp_settle (f : Fc) (w : World) (hf : fIn f) : Calls Try.prog 12 #[fV f] w (Gives (fBV ((fS f).getD fZ) (fS f).isSome) w) := by
  have hx := Lib.hid (FDuo.new f fZ w)
  have HR := Lib.hid fun (g : Fc) (hg : fIn g) => fun w => fp_round g w hg
  generalize hF : fS f = F
  have HF := Lib.hid hF
  clear hF
  generalize hV : fBV (F.getD fZ) F.isSome = V
  have HV := Lib.hid hV
  clear hV
  go_enter Try.func12, Try.ntmps12
  go_wp2_with fail
  go_loopw [] (fun wr => ∃ g : Fc, fIn g ∧ fS g = F ∧ Hid (FDuo g fZ w wr)) (fun wr => fM (rdF w.heap.size wr))
  case atStart => exact ⟨f, hf, HF.out, hx⟩
  case round =>
    obtain ⟨g, ig, hg, X⟩ := hrel
    have R := Lib.hid (HR.out g ig)
    obtain ⟨c0, c1, c2, c3⟩ := X.out.2.1.cells
    cases h : rdok g
    · have hV : V = fBV fZ false := by rw [← HV.out, ← hg, fS_no h]; rfl
      subst hV
      rw [h, if_neg (by decide)] at R
      clear HR HV HF hg
      go_wp2_with fail
      refine (R.out _).mono ?_; rintro e w3 ⟨rfl, b3⟩
      have x3 := X.out.after b3
      obtain ⟨e0, e1, e2, e3⟩ := x3.2.2.cells
      obtain ⟨g0, g1, g2, g3⟩ := x3.2.2.free
      have k1 := x3.2.2.lt
      have XE := Lib.hid ((x3.set fZ).alloc (.cells (fCells fZ) 28))
      clear x3 X b3 c0 c1 c2 c3 R
      go_wp2_with fail
      exact bodyPost_ret (v := fBV fZ false) (by simp [results, Try.results12, go_sem, e0, e1, e2, e3, fZ, k1]) rfl ⟨rfl, XE.out.1⟩
    · rw [h, if_pos rfl] at R
      by_cases he : rd g = g
      · have hV : V = fBV g true := by rw [← HV.out, ← hg, fS_end h he]; rfl
        subst hV
        rw [he] at R
        clear HR HV HF hg
        go_wp2_with fail
        refine (R.out _).mono ?_; rintro e w3 ⟨rfl, b3⟩
        have x3 := X.out.after b3
        obtain ⟨e0, e1, e2, e3⟩ := x3.2.2.cells
        obtain ⟨g0, g1, g2, g3⟩ := x3.2.2.free
        have k1 := x3.2.2.lt
        have XE := Lib.hid ((x3.set g).alloc (.cells (fCells g) 28))
        clear c0 c1 c2 c3
        obtain ⟨c0, c1, c2, c3⟩ := x3.2.1.cells
        have k2 := x3.2.1.lt
        clear x3 X b3 R
        go_wp2_with fail
        exact bodyPost_ret (v := fBV g true) (by simp [results, Try.results12, go_sem, e0, e1, e2, e3, k1]) rfl ⟨rfl, XE.out.1⟩
      · rw [fS_on h he] at hg
        have ig2 := rd_in ig
        have hne := fc_ne he
        have HM := Lib.hid (fM_less (rdok_RR h) h he)
        have HG := Lib.hid hg
        clear hg he
        generalize rd g = g' at *
        clear HR
        have HD := Lib.hid (rdF_of X.out.2.1)
        rcases hne with a1 | ⟨a1, a2⟩ | ⟨a1, a2, a3⟩ | ⟨a1, a2, a3, a4⟩
        all_goals
          go_wp2_with fail
          refine (R.out _).mono ?_; rintro e w3 ⟨rfl, b3⟩
          have x3 := X.out.after b3
          clear c0 c1 c2 c3
          obtain ⟨c0, c1, c2, c3⟩ := x3.2.1.cells
          obtain ⟨f0, f1, f2, f3⟩ := x3.2.1.free
          have k2 := x3.2.1.lt
          have XN := Lib.hid ((x3.setA g').alloc (.cells (fCells g') 28))
          clear X b3 R x3
          go_wp2_with fail
          have XM := XN.out
          simp only [fCells, uV] at XM
          try rw [a1] at XM
          try rw [a2] at XM
          try rw [a3] at XM
          refine ⟨⟨g', ig2, HG.out, Lib.hid XM⟩, ?_⟩
          rw [HD.out, rdF_of XM.2.1]
          exact HM.out

end Go.Proofs.Ytfepokiibdkoeaa


/-
  The document's own answers of layer 6: settled, Known, Has, Within.
  Conditions: the numbers fit their kinds.
-/
namespace Go.Proofs.Ytfepokiibdkoeaa
open Go.RowKit
set_option linter.unusedVariables false

/-- Known bits' block, a span's, and a result's. -/
def TSF (t : Tn) (s : Sp) (r : Fc) (w u : World) : Prop := Below w.heap.size w u ∧ Box w.heap.size t u ∧ sB (w.heap.size + 1) s u ∧ fB (w.heap.size + 1 + 1) r u
theorem TSF.new (t : Tn) (s : Sp) (w : World) : TSF t s fZ w (((w.alloc (.cells #[uV t.1, uV t.2] 24)).alloc (.cells #[.int .u64 s.1, .int .u64 s.2] 26)).alloc (.cells (fCells fZ) 28)) :=
  ⟨below_alloc (below_alloc (below_alloc (Below.refl _ _) _) _) _, ((Box.new w t rfl).alloc _).alloc _, (sB.new _ s (by simp)).alloc _, fB.new _ fZ (by simp)⟩
theorem TSF.after {t : Tn} {s : Sp} {r : Fc} {w u u' : World} (h : TSF t s r w u) (k : Below u.heap.size u u') : TSF t s r w u' := ⟨below_next' h.1 k, h.2.1.after k, h.2.2.1.after k, h.2.2.2.after k⟩

set_option maxHeartbeats 1000000 in
theorem rf_settled (t : Tn) (s : Sp) (w : World) (hs : sIn s) : Calls Try.prog 50 #[tV t, sV s] w (Gives (fV (fSd (t, s))) w) := by
  have S : Hid (∀ w, Calls Try.prog 13 #[fV (t, s)] w (Gives (fBV (fSd (t, s)) (fS (t, s)).isSome) w)) := Lib.hid fun w => rf_settle (t, s) w hs
  have hx := Lib.hid (TSF.new t s w)
  generalize fSd (t, s) = g at *
  generalize (fS (t, s)).isSome = k at *
  go_enter Try.func50, Try.ntmps50
  go_wp2_with fail
  refine (S.out _).mono ?_; rintro e w1 ⟨rfl, b1⟩
  have x1 := hx.out.after b1
  obtain ⟨e0, e1, e2, e3⟩ := x1.2.2.2.cells
  obtain ⟨g0, g1, g2, g3⟩ := x1.2.2.2.free
  have k1 := x1.2.2.2.lt
  have XE := Lib.hid (below_alloc (below_four x1.1 (k := w.heap.size + 1 + 1) (by omega) g) (.cells (fCells g) 28))
  clear x1 hx b1
  go_wp2_with fail
  exact bodyPost_ret (v := fV g) (by simp [results, Try.results50, go_sem, e0, e1, e2, e3, k1]) rfl ⟨rfl, XE.out⟩

set_option maxHeartbeats 1000000 in
theorem rf_known (f : Fc) (w : World) (hf : fIn f) : Calls Try.prog 15 #[fV f] w (Gives (.tuple #[uV (fKv f), .bool (fK f)]) w) := by
  have R := Lib.hid fun w => rf_right f w hf
  have hx := Lib.hid (show Blks w [(w.heap.size, fCells f, 28)] (w.alloc (.cells (fCells f) 28)) from (Blks.start w).new (fCells f) 28)
  cases hr : fR f
  · have e1 : fK f = false := by unfold fK; rw [hr]; rfl
    have e2 : fKv f = 0#64 := by unfold fKv; rw [e1]; rfl
    rw [hr] at R
    rw [e1, e2]
    clear e1 e2 hr
    go_enter Try.func15, Try.ntmps15
    go_wp2_with fail
    refine (R.out _).mono ?_; rintro e w1 ⟨rfl, b1⟩
    have x1 := hx.out.after b1
    clear hx b1
    go_wp2_with fail
    go_ret2
    exact ⟨rfl, x1.1⟩
  · rw [hr] at R
    by_cases hz : f.1.2 = 0#64
    · have e1 : fK f = true := by unfold fK; rw [hr, hz]; rfl
      have e2 : fKv f = f.1.1 := by unfold fKv; rw [e1, if_pos rfl]
      have hz' : ((f.1.2.toNat : Int) != 0) = false := by rw [bv_ne0, hz]; decide
      rw [e1, e2]
      clear e1 e2 hr hz
      go_enter Try.func15, Try.ntmps15
      go_wp2_with fail
      refine (R.out _).mono ?_; rintro e w1 ⟨rfl, b1⟩
      have x1 := hx.out.after b1
      have y1 : fB w.heap.size f w1 := x1.get (by simp)
      obtain ⟨c0, c1, c2, c3⟩ := y1.cells
      clear hx b1 y1
      go_wp2_with fail
      go_ret2
      exact ⟨rfl, x1.1⟩
    · have e1 : fK f = false := by unfold fK; rw [hr, beq_eq_false_iff_ne.mpr hz]; rfl
      have e2 : fKv f = 0#64 := by unfold fKv; rw [e1]; rfl
      have hz' : ((f.1.2.toNat : Int) != 0) = true := by
        rw [bne_iff_ne]
        intro h
        exact hz (BitVec.eq_of_toNat_eq (by simpa using h))
      rw [e1, e2]
      clear e1 e2 hr hz
      go_enter Try.func15, Try.ntmps15
      go_wp2_with fail
      refine (R.out _).mono ?_; rintro e w1 ⟨rfl, b1⟩
      have x1 := hx.out.after b1
      have y1 : fB w.heap.size f w1 := x1.get (by simp)
      obtain ⟨c0, c1, c2, c3⟩ := y1.cells
      clear hx b1 y1
      go_wp2_with fail
      go_ret2
      exact ⟨rfl, x1.1⟩

set_option maxHeartbeats 1000000 in
theorem rf_has (f : Fc) (n : BitVec 64) (w : World) (hf : fIn f) : Calls Try.prog 24 #[fV f, uV n] w (Gives (.bool (fHs f n)) w) := by
  have R := Lib.hid fun w => rf_right f w hf
  have H1 := Lib.hid (rhas_says f.1 n)
  have H2 := Lib.hid (rs_has f.2 (n.toNat : Int))
  have hx := Lib.hid (show Blks w [(w.heap.size, fCells f, 28)] (w.alloc (.cells (fCells f) 28)) from (Blks.start w).new (fCells f) 28)
  unfold fHs fHas
  generalize sH f.2 (n.toNat : Int) = q at *
  cases hr : fR f
  · rw [hr] at R
    clear hr
    go_enter Try.func24, Try.ntmps24
    go_wp2_with fail
    refine (R.out _).mono ?_; rintro e w1 ⟨rfl, b1⟩
    have x1 := hx.out.after b1
    clear hx b1
    go_wp2_with fail
    go_ret
    exact ⟨rfl, x1.1⟩
  · rw [hr] at R
    clear hr
    cases h1 : tH f.1 n
    · rw [h1] at H1
      clear h1
      go_enter Try.func24, Try.ntmps24
      go_wp2_with fail
      refine (R.out _).mono ?_; rintro e w1 ⟨rfl, b1⟩
      have x1 := hx.out.after b1
      have y1 : fB w.heap.size f w1 := x1.get (by simp)
      obtain ⟨c0, c1, c2, c3⟩ := y1.cells
      clear hx b1 y1
      go_wp2_with fail
      refine (H1.out _).mono ?_; rintro e w2 ⟨rfl, b2⟩
      have x2 := x1.after b2
      clear x1 b2 c0 c1 c2 c3
      go_wp2_with fail
      go_ret
      exact ⟨rfl, x2.1⟩
    · rw [h1] at H1
      clear h1
      go_enter Try.func24, Try.ntmps24
      go_wp2_with fail
      refine (R.out _).mono ?_; rintro e w1 ⟨rfl, b1⟩
      have x1 := hx.out.after b1
      have y1 : fB w.heap.size f w1 := x1.get (by simp)
      obtain ⟨c0, c1, c2, c3⟩ := y1.cells
      clear hx b1 y1
      go_wp2_with fail
      refine (H1.out _).mono ?_; rintro e w2 ⟨rfl, b2⟩
      have x2 := x1.after b2
      have y2 : fB w.heap.size f w2 := x2.get (by simp)
      clear x1 b2 c0 c1 c2 c3
      obtain ⟨c0, c1, c2, c3⟩ := y2.cells
      go_wp2_with fail
      refine (H2.out _).mono ?_; rintro e w3 ⟨rfl, b3⟩
      have x3 := x2.after b3
      clear x2 b3 c0 c1 c2 c3 y2
      go_wp2_with fail
      go_ret
      exact ⟨rfl, x3.1⟩

end Go.Proofs.Ytfepokiibdkoeaa


/-
  The document's own answers of layer 4: Join, add, Meet, Cut.
  Conditions: none.
-/
namespace Go.Proofs.Ytfepokiibdkoeaa
open Go.RowKit
set_option linter.unusedVariables false

set_option maxRecDepth 100000 in
set_option maxHeartbeats 1000000 in
theorem rjoin_says (a b : Tn) (w : World) : Calls Try.prog 51 #[tV a, tV b] w (Gives (tV (tJ a b)) w) := by
  have hx := Lib.hid (Trio.new a b w)
  have h1 := Lib.hid (rboth_says a b)
  unfold tJ
  generalize tRR a b = r1 at *
  cases r1
  · rw [if_neg (by decide)]
    go_enter Try.func51, Try.ntmps51
    go_wp2_with fail
    refine (h1.out _).mono ?_; rintro e w1 ⟨rfl, b1⟩
    have x1 := hx.out.after b1
    obtain ⟨c0, c1⟩ := x1.2.cells
    obtain ⟨f0, f1⟩ := x1.2.free
    have X1 := Lib.hid (x1.set (0#64, 0#64))
    clear x1 hx b1
    go_wp2_with fail
    exact bodyPost_ret (v := tV (0#64, 0#64)) (by simp [results, Try.results51, go_sem, c0, c1]) rfl ⟨rfl, X1.out.1.1⟩
  · rw [if_pos rfl]
    generalize ht : tMade a.1 (a.2 ||| b.2 ||| (a.1 ^^^ b.1)) = t at *
    have ht := Lib.hid ht
    go_enter Try.func51, Try.ntmps51
    go_wp2_with fail
    refine (h1.out _).mono ?_; rintro e w1 ⟨rfl, b1⟩
    have x1 := hx.out.after b1
    obtain ⟨p0, p1, p2, p3⟩ := x1.1.cells
    obtain ⟨c0, c1⟩ := x1.2.cells
    obtain ⟨f0, f1⟩ := x1.2.free
    have X1 := Lib.hid x1
    clear x1 hx b1
    go_wp2_with fail
    simp only [bv_xor, bv_or]
    refine (rmade_says _ _ _).mono ?_; rintro e w2 ⟨rfl, b2⟩
    rw [ht.out]
    have x2 := X1.out.after b2
    clear p0 p1 p2 p3 c0 c1 f0 f1 X1 b2 ht
    obtain ⟨c0, c1⟩ := x2.2.cells
    obtain ⟨f0, f1⟩ := x2.2.free
    have X2 := Lib.hid (x2.set t)
    clear x2
    go_wp2_with fail
    exact bodyPost_ret (v := tV t) (by simp [results, Try.results51, go_sem, c0, c1]) rfl ⟨rfl, X2.out.1.1⟩


set_option maxRecDepth 100000 in
set_option maxHeartbeats 1000000 in
theorem radd_says (a b : Tn) (w : World) : Calls Try.prog 109 #[tV a, tV b] w (Gives (tV (tAdd a b)) w) := by
  have hx := Lib.hid (Trio.new a b w)
  have ht := Lib.hid (show tMade (a.1 + b.1) (((a.2 + b.2 + (a.1 + b.1)) ^^^ (a.1 + b.1)) ||| a.2 ||| b.2) = tAdd a b from rfl)
  go_enter Try.func109, Try.ntmps109
  go_wp2_with fail
  simp only [bv_add', bv_xor, bv_or]
  refine (rmade_says _ _ _).mono ?_; rintro e w1 ⟨rfl, b1⟩
  rw [ht.out]
  have x1 := hx.out.after b1
  clear ht hx b1
  generalize tAdd a b = t at *
  obtain ⟨c0, c1⟩ := x1.2.cells
  obtain ⟨f0, f1⟩ := x1.2.free
  have X1 := Lib.hid (x1.set t)
  clear x1
  go_wp2_with fail
  exact bodyPost_ret (v := tV t) (by simp [results, Try.results109, go_sem, c0, c1]) rfl ⟨rfl, X1.out.1.1⟩

set_option maxRecDepth 100000 in
theorem mod_low (x : BitVec 64) (k : Nat) (h : k ≤ 63) : (x.toNat : Int).tmod (IntKind.u64.wrap (2 ^ k)) = ((tLow x k).toNat : Int) := by
  rw [IntKind.wrap_u64, pow_lt_64 k h, low_int]; exact Int.tmod_eq_emod_of_nonneg (bv_rng x).1
set_option maxRecDepth 100000 in
theorem rcut_no (t : Tn) (width : Int) (w : World) (h : tR t = false) : Calls Try.prog 62 #[tV t, .int .i64 width] w (Gives (tV (0#64, 0#64)) w) := by
  have hx := Lib.hid (Duo.new t w)
  have h1 := Lib.hid (rright_says t)
  rw [h] at h1
  clear h
  go_enter Try.func62, Try.ntmps62
  go_wp2_with fail
  refine (h1.out _).mono ?_; rintro e w1 ⟨rfl, b1⟩
  have x1 := hx.out.after b1
  obtain ⟨c0, c1⟩ := x1.2.2.cells
  obtain ⟨f0, f1⟩ := x1.2.2.free
  have X1 := Lib.hid (x1.set (0#64, 0#64))
  clear x1 hx b1
  go_wp2_with fail
  exact bodyPost_ret (v := tV (0#64, 0#64)) (by simp [results, Try.results62, go_sem, c0, c1]) rfl ⟨rfl, X1.out.1⟩
set_option maxRecDepth 100000 in
theorem rcut_all (t : Tn) (width : Int) (w : World) (h : tR t = true) (hw : width < 1 ∨ (1 ≤ width ∧ 63 < width)) : Calls Try.prog 62 #[tV t, .int .i64 width] w (Gives (tV t) w) := by
  have hx := Lib.hid (Duo.new t w)
  have h1 := Lib.hid (rright_says t)
  rw [h] at h1
  clear h
  rcases hw with hw | ⟨hw, hw'⟩
  all_goals
    go_enter Try.func62, Try.ntmps62
    go_wp2_with fail
    refine (h1.out _).mono ?_; rintro e w1 ⟨rfl, b1⟩
    have x1 := hx.out.after b1
    obtain ⟨p0, p1⟩ := x1.2.1.cells
    obtain ⟨c0, c1⟩ := x1.2.2.cells
    obtain ⟨f0, f1⟩ := x1.2.2.free
    have X1 := Lib.hid (x1.set t)
    clear x1 hx b1
    go_wp2_with fail
    exact bodyPost_ret (v := tV t) (by simp [results, Try.results62, go_sem, c0, c1]) rfl ⟨rfl, X1.out.1⟩
set_option maxRecDepth 100000 in
theorem rcut_some (t : Tn) (width : Int) (w : World) (h : tR t = true) (h1 : 1 ≤ width) (h2 : width ≤ 63) : Calls Try.prog 62 #[tV t, .int .i64 width] w (Gives (tV (tLow t.1 width.toNat, tLow t.2 width.toNat)) w) := by
  have hx := Lib.hid (Duo.new t w)
  have hr := Lib.hid (rright_says t)
  rw [h] at hr
  clear h
  obtain ⟨P, hP, hP1⟩ : ∃ P : Int, IntKind.u64.wrap (2 ^ width.toNat) = P ∧ 1 ≤ P := ⟨_, rfl, by rw [IntKind.wrap_u64, pow_lt_64 _ (by omega)]; exact (pow_le_64 _ (by omega)).1⟩
  have e1 := mod_low t.1 width.toNat (by omega)
  have e2 := mod_low t.2 width.toNat (by omega)
  rw [hP] at e1 e2
  have e8 : (P == 0) = false := beq_eq_false_iff_ne.mpr (by omega)
  have e9 : ¬ P = 0 := by omega
  generalize tLow t.1 width.toNat = l1 at *
  generalize tLow t.2 width.toNat = l2 at *
  go_enter Try.func62, Try.ntmps62
  go_wp2_with fail
  refine (hr.out _).mono ?_; rintro e w1 ⟨rfl, b1⟩
  have x1 := hx.out.after b1
  obtain ⟨p0, p1⟩ := x1.2.1.cells
  obtain ⟨c0, c1⟩ := x1.2.2.cells
  obtain ⟨f0, f1⟩ := x1.2.2.free
  have X1 := Lib.hid x1
  clear x1 hx b1
  go_wp2_with fail
  go_still_tail 11, (by kernel_rfl)
  change wpList _ _ _ _ _ w1.drew
  have X2 := Lib.hid (X1.out.after (Below.drew (Below.refl _ _)))
  clear X1 p0 p1 c0 c1 f0 f1
  generalize w1.drew = w2 at *
  obtain ⟨c0, c1⟩ := X2.out.2.2.cells
  obtain ⟨f0, f1⟩ := X2.out.2.2.free
  have X3 := Lib.hid (X2.out.set (l1, l2))
  go_wp2_with fail
  exact bodyPost_ret (v := tV (l1, l2)) (by simp [results, Try.results62, go_sem, c0, c1]) rfl ⟨rfl, X3.out.1⟩
set_option maxRecDepth 100000 in
theorem rcut_says (t : Tn) (width : Int) (w : World) : Calls Try.prog 62 #[tV t, .int .i64 width] w (Gives (tV (tC t width)) w) := by
  unfold tC
  cases h : tR t
  · exact rcut_no t width w h
  · rw [if_pos rfl]
    by_cases hw : width < 1 ∨ 63 < width
    · rw [if_pos hw]
      exact rcut_all t width w h (by omega)
    · rw [if_neg hw]
      exact rcut_some t width w h (by omega) (by omega)

end Go.Proofs.Ytfepokiibdkoeaa


/-
  The document's own answers of layer 6: Within, Join, Cut.
  Conditions: the numbers fit their kinds.
-/
namespace Go.Proofs.Ytfepokiibdkoeaa
open Go.RowKit
set_option linter.unusedVariables false

set_option maxHeartbeats 2000000 in
theorem rf_within (a b : Fc) (w : World) (ha : fIn a) (hb : fIn b) : Calls Try.prog 27 #[fV a, fV b] w (Gives (.bool (fWi a b)) w) := by
  have R1 := Lib.hid fun w => rf_right a w ha
  have R2 := Lib.hid fun w => rf_right b w hb
  have W1 := Lib.hid (rwithin_says a.1 b.1)
  have W2 := Lib.hid (rs_within a.2 b.2)
  have hx := Lib.hid (FDuo.new a b w)
  unfold fWi fLe
  generalize sW a.2 b.2 = q at *
  cases h1 : fR a
  · rw [h1] at R1
    clear h1
    go_enter Try.func27, Try.ntmps27
    go_wp2_with fail
    refine (R1.out _).mono ?_; rintro e w1 ⟨rfl, b1⟩
    have x1 := hx.out.after b1
    clear hx b1
    obtain ⟨p0, p1, p2, p3⟩ := x1.2.1.cells
    obtain ⟨q0, q1, q2, q3⟩ := x1.2.2.cells
    go_wp2_with fail
    go_ret
    exact ⟨rfl, x1.1⟩
  · rw [h1] at R1
    clear h1
    cases h2 : fR b
    · rw [h2] at R2
      clear h2
      go_enter Try.func27, Try.ntmps27
      go_wp2_with fail
      refine (R1.out _).mono ?_; rintro e w1 ⟨rfl, b1⟩
      have x1 := hx.out.after b1
      clear hx b1
      obtain ⟨p0, p1, p2, p3⟩ := x1.2.1.cells
      obtain ⟨q0, q1, q2, q3⟩ := x1.2.2.cells
      go_wp2_with fail
      refine (R2.out _).mono ?_; rintro e w2 ⟨rfl, b2⟩
      have x2 := x1.after b2
      clear x1 b2
      clear p0 p1 p2 p3 q0 q1 q2 q3
      obtain ⟨p0, p1, p2, p3⟩ := x2.2.1.cells
      obtain ⟨q0, q1, q2, q3⟩ := x2.2.2.cells
      go_wp2_with fail
      go_ret
      exact ⟨rfl, x2.1⟩
    · rw [h2] at R2
      clear h2
      cases h3 : tW a.1 b.1
      · rw [h3] at W1
        clear h3
        go_enter Try.func27, Try.ntmps27
        go_wp2_with fail
        refine (R1.out _).mono ?_; rintro e w1 ⟨rfl, b1⟩
        have x1 := hx.out.after b1
        clear hx b1
        obtain ⟨p0, p1, p2, p3⟩ := x1.2.1.cells
        obtain ⟨q0, q1, q2, q3⟩ := x1.2.2.cells
        go_wp2_with fail
        refine (R2.out _).mono ?_; rintro e w2 ⟨rfl, b2⟩
        have x2 := x1.after b2
        clear x1 b2
        clear p0 p1 p2 p3 q0 q1 q2 q3
        obtain ⟨p0, p1, p2, p3⟩ := x2.2.1.cells
        obtain ⟨q0, q1, q2, q3⟩ := x2.2.2.cells
        go_wp2_with fail
        refine (W1.out _).mono ?_; rintro e w3 ⟨rfl, b3⟩
        have x3 := x2.after b3
        clear x2 b3
        clear p0 p1 p2 p3 q0 q1 q2 q3
        obtain ⟨p0, p1, p2, p3⟩ := x3.2.1.cells
        obtain ⟨q0, q1, q2, q3⟩ := x3.2.2.cells
        go_wp2_with fail
        go_ret
        exact ⟨rfl, x3.1⟩
      · rw [h3] at W1
        clear h3
        go_enter Try.func27, Try.ntmps27
        go_wp2_with fail
        refine (R1.out _).mono ?_; rintro e w1 ⟨rfl, b1⟩
        have x1 := hx.out.after b1
        clear hx b1
        obtain ⟨p0, p1, p2, p3⟩ := x1.2.1.cells
        obtain ⟨q0, q1, q2, q3⟩ := x1.2.2.cells
        go_wp2_with fail
        refine (R2.out _).mono ?_; rintro e w2 ⟨rfl, b2⟩
        have x2 := x1.after b2
        clear x1 b2
        clear p0 p1 p2 p3 q0 q1 q2 q3
        obtain ⟨p0, p1, p2, p3⟩ := x2.2.1.cells
        obtain ⟨q0, q1, q2, q3⟩ := x2.2.2.cells
        go_wp2_with fail
        refine (W1.out _).mono ?_; rintro e w3 ⟨rfl, b3⟩
        have x3 := x2.after b3
        clear x2 b3
        clear p0 p1 p2 p3 q0 q1 q2 q3
        obtain ⟨p0, p1, p2, p3⟩ := x3.2.1.cells
        obtain ⟨q0, q1, q2, q3⟩ := x3.2.2.cells
        go_wp2_with fail
        refine (W2.out _).mono ?_; rintro e w4 ⟨rfl, b4⟩
        have x4 := x3.after b4
        clear x3 b4
        clear p0 p1 p2 p3 q0 q1 q2 q3
        obtain ⟨p0, p1, p2, p3⟩ := x4.2.1.cells
        obtain ⟨q0, q1, q2, q3⟩ := x4.2.2.cells
        go_wp2_with fail
        go_ret
        exact ⟨rfl, x4.1⟩

/-- A fact's block, a result's, and a span's variable. -/
def FDS (f r : Fc) (s : Sp) (w u : World) : Prop := FDuo f r w u ∧ sB (w.heap.size + 1 + 1) s u
theorem FDS.after {f r : Fc} {s : Sp} {w u u' : World} (h : FDS f r s w u) (k : Below u.heap.size u u') : FDS f r s w u' := ⟨h.1.after k, h.2.after k⟩

set_option maxHeartbeats 2000000 in
theorem rf_cut_no (f : Fc) (w : World) (hf : fIn f) (h : fR f = false) : Calls Try.prog 30 #[fV f] w (Gives (fV fZ) w) := by
  have R := Lib.hid fun w => rf_right f w hf
  rw [h] at R
  clear h
  have hx := Lib.hid (FDuo.new f fZ w)
  go_enter Try.func30, Try.ntmps30
  go_wp2_with fail
  refine (R.out _).mono ?_; rintro e w1 ⟨rfl, b1⟩
  have x1 := hx.out.after b1
  obtain ⟨e0, e1, e2, e3⟩ := x1.2.2.cells
  obtain ⟨g0, g1, g2, g3⟩ := x1.2.2.free
  have XE := Lib.hid (x1.set fZ)
  clear x1 hx b1
  go_wp2_with fail
  exact bodyPost_ret (v := fV fZ) (by simp [results, Try.results30, go_sem, e0, e1, e2, e3, fZ]) rfl ⟨rfl, XE.out.1⟩

set_option maxHeartbeats 4000000 in
theorem rf_cut_yes (f : Fc) (w : World) (hf : fIn f) (h : fR f = true) : Calls Try.prog 30 #[fV f] w (Gives (fV (fSd (tC f.1 32, fCs f.2))) w) := by
  have R := Lib.hid fun w => rf_right f w hf
  rw [h] at R
  clear h
  have K := Lib.hid (rcut_says f.1 32)
  have S := Lib.hid fun w => rf_settled (tC f.1 32) (fCs f.2) w (fCs_in hf)
  have hx := Lib.hid (FDuo.new f fZ w)
  generalize fSd (tC f.1 32, fCs f.2) = g at *
  generalize tC f.1 32 = t at *
  by_cases hh : 4294967296 ≤ f.2.2
  · have e : fCs f.2 = (0, 4294967295) := if_pos hh
    rw [e] at S
    clear e
    go_enter Try.func30, Try.ntmps30
    go_wp2_with fail
    refine (R.out _).mono ?_; rintro e w1 ⟨rfl, b1⟩
    have x1 := hx.out.after b1
    obtain ⟨p0, p1, p2, p3⟩ := x1.2.1.cells
    have k0 := x1.2.1.lt
    have SB := Lib.hid (sB.new w1 (0, 4294967295) (g := w1.heap.size) rfl)
    have X2 := Lib.hid (x1.alloc (.cells #[.int .u64 0, .int .u64 4294967295] 26))
    have gsn := x1.2.2.lt
    clear hx b1 x1
    go_wp2_with fail
    clear p0 p1 p2 p3 k0
    generalize w1.heap.size = gs at *
    generalize w1.alloc (.cells #[.int .u64 0, .int .u64 4294967295] 26) = w2 at *
    have HB : Below w2.heap.size w2 w2.drew := Below.drew (Below.refl _ _)
    have z1 := X2.out.2.2.lt
    have ng : gs ≠ w.heap.size + 1 := by
      have := gsn
      omega
    have KK := Lib.hid (fun (wx : World) (hx : Below w2.heap.size w2 wx) => And.intro (And.intro (X2.out.after hx).2.1.cells.1 (X2.out.after hx).2.1.cells.2.1) (SB.out.after hx).cells)
    have KS := Lib.hid (fun (wx : World) (hx : Below w2.heap.size w2 wx) => And.intro (And.intro ((X2.out.after hx).set g).2.1.cells.1 ((X2.out.after hx).set g).2.1.cells.2.1)
      ((((((SB.out.after hx).other (o := 0) (k := w.heap.size + 1) (uV g.1.1) ng).other (o := 1) (k := w.heap.size + 1) (uV g.1.2) ng).other (o := 2) (k := w.heap.size + 1) (.int .u64 g.2.1) ng).other (o := 3) (k := w.heap.size + 1) (.int .u64 g.2.2) ng).cells))
    have FR := Lib.hid (fun (wx : World) (hx : Below w2.heap.size w2 wx) => And.intro (X2.out.after hx).2.2.free (X2.out.after hx).2.2.cells)
    go_region_held3 (fun w' => (w'.cell? ⟨w.heap.size, 0, none⟩ = some (uV f.1.1) ∧ w'.cell? ⟨w.heap.size, 1, none⟩ = some (uV f.1.2)) ∧ w'.cell? ⟨gs, 0, none⟩ = some (.int .u64 0) ∧ w'.cell? ⟨gs, 1, none⟩ = some (.int .u64 4294967295))
      (first
        | exact KK.out _ HB
        | exact KK.out _ (Below.drew HB)
        | exact KS.out _ HB)
      (first
        | (go_at_call 62; refine (K.out _).mono ?_; rintro e w6 ⟨rfl, hb6⟩; replace HB := below_next' HB hb6; clear hb6)
        | (go_at_call 50; refine (S.out _).mono ?_; rintro e w7 ⟨rfl, hb7⟩; replace HB := below_next' HB hb7; clear hb7; obtain ⟨⟨g0, g1, g2, g3⟩, e0, e1, e2, e3⟩ := FR.out _ HB))
    all_goals
      have XE := Lib.hid ((X2.out.after HB).set g)
      clear KK KS FR X2 SB
      go_wp2_with fail
      exact bodyPost_ret (v := fV g) (by simp [results, Try.results30, go_sem, e0, e1, e2, e3]) rfl ⟨rfl, XE.out.1⟩
  · have e : fCs f.2 = f.2 := if_neg hh
    rw [e] at S
    clear e
    have hh2 : f.2.2 < 4294967296 := by omega
    go_enter Try.func30, Try.ntmps30
    go_wp2_with fail
    refine (R.out _).mono ?_; rintro e w1 ⟨rfl, b1⟩
    have x1 := hx.out.after b1
    obtain ⟨p0, p1, p2, p3⟩ := x1.2.1.cells
    have k0 := x1.2.1.lt
    have SB := Lib.hid (sB.new w1 f.2 (g := w1.heap.size) rfl)
    have X2 := Lib.hid (x1.alloc (.cells #[.int .u64 f.2.1, .int .u64 f.2.2] 26))
    have gsn := x1.2.2.lt
    clear hx b1 x1
    go_wp2_with fail
    clear p0 p1 p2 p3 k0
    generalize w1.heap.size = gs at *
    generalize w1.alloc (.cells #[.int .u64 f.2.1, .int .u64 f.2.2] 26) = w2 at *
    have HB : Below w2.heap.size w2 w2.drew := Below.drew (Below.refl _ _)
    have z1 := X2.out.2.2.lt
    have ng : gs ≠ w.heap.size + 1 := by
      have := gsn
      omega
    have KK := Lib.hid (fun (wx : World) (hx : Below w2.heap.size w2 wx) => And.intro (And.intro (X2.out.after hx).2.1.cells.1 (X2.out.after hx).2.1.cells.2.1) (SB.out.after hx).cells)
    have KS := Lib.hid (fun (wx : World) (hx : Below w2.heap.size w2 wx) => And.intro (And.intro ((X2.out.after hx).set g).2.1.cells.1 ((X2.out.after hx).set g).2.1.cells.2.1)
      ((((((SB.out.after hx).other (o := 0) (k := w.heap.size + 1) (uV g.1.1) ng).other (o := 1) (k := w.heap.size + 1) (uV g.1.2) ng).other (o := 2) (k := w.heap.size + 1) (.int .u64 g.2.1) ng).other (o := 3) (k := w.heap.size + 1) (.int .u64 g.2.2) ng).cells))
    have FR := Lib.hid (fun (wx : World) (hx : Below w2.heap.size w2 wx) => And.intro (X2.out.after hx).2.2.free (X2.out.after hx).2.2.cells)
    go_region_held3 (fun w' => (w'.cell? ⟨w.heap.size, 0, none⟩ = some (uV f.1.1) ∧ w'.cell? ⟨w.heap.size, 1, none⟩ = some (uV f.1.2)) ∧ w'.cell? ⟨gs, 0, none⟩ = some (.int .u64 f.2.1) ∧ w'.cell? ⟨gs, 1, none⟩ = some (.int .u64 f.2.2))
      (first
        | exact KK.out _ HB
        | exact KK.out _ (Below.drew HB)
        | exact KS.out _ HB)
      (first
        | (go_at_call 62; refine (K.out _).mono ?_; rintro e w6 ⟨rfl, hb6⟩; replace HB := below_next' HB hb6; clear hb6)
        | (go_at_call 50; refine (S.out _).mono ?_; rintro e w7 ⟨rfl, hb7⟩; replace HB := below_next' HB hb7; clear hb7; obtain ⟨⟨g0, g1, g2, g3⟩, e0, e1, e2, e3⟩ := FR.out _ HB))
    all_goals
      have XE := Lib.hid ((X2.out.after HB).set g)
      clear KK KS FR X2 SB
      go_wp2_with fail
      exact bodyPost_ret (v := fV g) (by simp [results, Try.results30, go_sem, e0, e1, e2, e3]) rfl ⟨rfl, XE.out.1⟩

theorem rf_cut (f : Fc) (w : World) (hf : fIn f) : Calls Try.prog 30 #[fV f] w (Gives (fV (fC f)) w) := by
  unfold fC
  cases h : fR f
  · exact rf_cut_no f w hf h
  · exact rf_cut_yes f w hf h

end Go.Proofs.Ytfepokiibdkoeaa


/-
  The document's own answers of layer 6: Join.
  Conditions: the numbers fit their kinds.
-/
namespace Go.Proofs.Ytfepokiibdkoeaa
open Go.RowKit
set_option linter.unusedVariables false

/-- Two facts' blocks, and behind them a result's. -/
def FTri (a b r : Fc) (w u : World) : Prop := FDuo a b w u ∧ fB (w.heap.size + 1 + 1) r u
theorem FTri.new (a b r : Fc) (w : World) : FTri a b r w (((w.alloc (.cells (fCells a) 28)).alloc (.cells (fCells b) 28)).alloc (.cells (fCells r) 28)) :=
  ⟨(FDuo.new a b w).alloc _, fB.new _ r (by simp)⟩
theorem FTri.after {a b r : Fc} {w u u' : World} (h : FTri a b r w u) (k : Below u.heap.size u u') : FTri a b r w u' := ⟨h.1.after k, h.2.after k⟩
theorem FTri.set {a b r : Fc} {w u : World} (h : FTri a b r w u) (s : Fc) :
    FTri a b s w ((((u.setCell ⟨w.heap.size + 1 + 1, 0, none⟩ (uV s.1.1)).setCell ⟨w.heap.size + 1 + 1, 1, none⟩ (uV s.1.2)).setCell ⟨w.heap.size + 1 + 1, 2, none⟩ (.int .u64 s.2.1)).setCell ⟨w.heap.size + 1 + 1, 3, none⟩ (.int .u64 s.2.2)) :=
  ⟨⟨below_four h.1.1 (by omega) s, h.1.2.1.others (by omega), h.1.2.2.others (by omega)⟩, h.2.set s⟩

set_option maxHeartbeats 4000000 in
theorem rf_join_run (a b : Fc) (t : Tn) (s : Sp) (g : Fc) (w : World)
    (R1 : Hid (∀ w, Calls Try.prog 18 #[fV a] w (Gives (.bool true) w)))
    (R2 : Hid (∀ w, Calls Try.prog 18 #[fV b] w (Gives (.bool true) w)))
    (J1 : Hid (∀ w, Calls Try.prog 51 #[tV a.1, tV b.1] w (Gives (tV t) w)))
    (J2 : Hid (∀ w, Calls Try.prog 52 #[sV a.2, sV b.2] w (Gives (sV s) w)))
    (S : Hid (∀ w, Calls Try.prog 50 #[tV t, sV s] w (Gives (fV g) w))) :
    Calls Try.prog 25 #[fV a, fV b] w (Gives (fV g) w) := by
  have hx := Lib.hid (FTri.new a b fZ w)
  go_enter Try.func25, Try.ntmps25
  go_wp2_with fail
  refine (R1.out _).mono ?_; rintro e w1 ⟨rfl, b1⟩
  have x1 := hx.out.after b1
  obtain ⟨q0, q1, q2, q3⟩ := x1.1.2.2.cells
  clear hx b1
  go_wp2_with fail
  refine (R2.out _).mono ?_; rintro e w2 ⟨rfl, b2⟩
  have X2 := Lib.hid (x1.after b2)
  clear x1 b2 q0 q1 q2 q3
  go_wp2_with fail
  have HB : Below w2.heap.size w2 w2.drew := Below.drew (Below.refl _ _)
  have KK := Lib.hid (fun (wx : World) (hx : Below w2.heap.size w2 wx) => And.intro (X2.out.after hx).1.2.1.cells (X2.out.after hx).1.2.2.cells)
  have KS := Lib.hid (fun (wx : World) (hx : Below w2.heap.size w2 wx) => And.intro ((X2.out.after hx).set g).1.2.1.cells ((X2.out.after hx).set g).1.2.2.cells)
  have FR := Lib.hid (fun (wx : World) (hx : Below w2.heap.size w2 wx) => And.intro (X2.out.after hx).2.free (X2.out.after hx).2.cells)
  go_region_held3 (fun w' => (w'.cell? ⟨w.heap.size, 0, none⟩ = some (uV a.1.1) ∧ w'.cell? ⟨w.heap.size, 1, none⟩ = some (uV a.1.2) ∧ w'.cell? ⟨w.heap.size, 2, none⟩ = some (.int .u64 a.2.1) ∧ w'.cell? ⟨w.heap.size, 3, none⟩ = some (.int .u64 a.2.2)) ∧
      w'.cell? ⟨w.heap.size + 1, 0, none⟩ = some (uV b.1.1) ∧ w'.cell? ⟨w.heap.size + 1, 1, none⟩ = some (uV b.1.2) ∧ w'.cell? ⟨w.heap.size + 1, 2, none⟩ = some (.int .u64 b.2.1) ∧ w'.cell? ⟨w.heap.size + 1, 3, none⟩ = some (.int .u64 b.2.2))
    (first
      | exact KK.out _ HB
      | exact KK.out _ (Below.drew HB)
      | exact KS.out _ HB)
    (first
      | (go_at_call 51; refine (J1.out _).mono ?_; rintro e w6 ⟨rfl, hb6⟩; replace HB := below_next' HB hb6; clear hb6)
      | (go_at_call 52; refine (J2.out _).mono ?_; rintro e w8 ⟨rfl, hb8⟩; replace HB := below_next' HB hb8; clear hb8)
      | (go_at_call 50; refine (S.out _).mono ?_; rintro e w7 ⟨rfl, hb7⟩; replace HB := below_next' HB hb7; clear hb7; obtain ⟨⟨g0, g1, g2, g3⟩, e0, e1, e2, e3⟩ := FR.out _ HB))
  all_goals
    have XE := Lib.hid ((X2.out.after HB).set g)
    clear KK KS FR X2
    go_wp2_with fail
    exact bodyPost_ret (v := fV g) (by simp [results, Try.results25, go_sem, e0, e1, e2, e3]) rfl ⟨rfl, XE.out.1.1⟩

set_option maxHeartbeats 2000000 in
theorem rf_join (a b : Fc) (w : World) (ha : fIn a) (hb : fIn b) : Calls Try.prog 25 #[fV a, fV b] w (Gives (fV (fJ a b)) w) := by
  have R1 := Lib.hid fun w => rf_right a w ha
  have R2 := Lib.hid fun w => rf_right b w hb
  have J1 := Lib.hid (rjoin_says a.1 b.1)
  have J2 := Lib.hid (rs_join a.2 b.2)
  have S := Lib.hid fun w => rf_settled (tJ a.1 b.1) (sJ a.2 b.2) w (sJ_in ha hb)
  unfold fJ
  cases h1 : fR a
  · rw [h1] at R1
    clear h1 S J1 J2
    have hx := Lib.hid (FTri.new a b fZ w)
    show Calls _ _ _ _ (Gives (fV fZ) w)
    go_enter Try.func25, Try.ntmps25
    go_wp2_with fail
    refine (R1.out _).mono ?_; rintro e w1 ⟨rfl, b1⟩
    have x1 := hx.out.after b1
    obtain ⟨e0, e1, e2, e3⟩ := x1.2.cells
    obtain ⟨g0, g1, g2, g3⟩ := x1.2.free
    have XE := Lib.hid (x1.set fZ)
    clear x1 hx b1
    go_wp2_with fail
    exact bodyPost_ret (v := fV fZ) (by simp [results, Try.results25, go_sem, e0, e1, e2, e3, fZ]) rfl ⟨rfl, XE.out.1.1⟩
  · rw [h1] at R1
    clear h1
    cases h2 : fR b
    · rw [h2] at R2
      clear h2 S J1 J2
      have hx := Lib.hid (FTri.new a b fZ w)
      show Calls _ _ _ _ (Gives (fV fZ) w)
      go_enter Try.func25, Try.ntmps25
      go_wp2_with fail
      refine (R1.out _).mono ?_; rintro e w1 ⟨rfl, b1⟩
      have x1 := hx.out.after b1
      obtain ⟨q0, q1, q2, q3⟩ := x1.1.2.2.cells
      clear hx b1
      go_wp2_with fail
      refine (R2.out _).mono ?_; rintro e w2 ⟨rfl, b2⟩
      have x2 := x1.after b2
      clear q0 q1 q2 q3
      obtain ⟨e0, e1, e2, e3⟩ := x2.2.cells
      obtain ⟨g0, g1, g2, g3⟩ := x2.2.free
      have XE := Lib.hid (x2.set fZ)
      clear x2 x1 b2
      go_wp2_with fail
      exact bodyPost_ret (v := fV fZ) (by simp [results, Try.results25, go_sem, e0, e1, e2, e3, fZ]) rfl ⟨rfl, XE.out.1.1⟩
    · rw [h2] at R2
      exact rf_join_run a b _ _ _ w R1 R2 J1 J2 S

end Go.Proofs.Ytfepokiibdkoeaa


/-
  The program's fact: Right, Of, Any, Known, Has, bothRight, Within.
  Conditions: the numbers fit their kinds.
-/
namespace Go.Proofs.Ytfepokiibdkoeaa
open Go.RowKit
set_option linter.unusedVariables false

set_option maxHeartbeats 1000000 in
theorem fp_right (f : Fc) (w : World) (hf : fIn f) : Calls Try.prog 17 #[fV f] w (Gives (.bool (fR f)) w) := by
  have S := Lib.hid fun w => fp_settle f w hf
  have hx := Lib.hid (show Blks w [(w.heap.size, fCells f, 28)] (w.alloc (.cells (fCells f) 28)) from (Blks.start w).new (fCells f) 28)
  cases hs : fS f with
  | none =>
    have e : fR f = false := by unfold fR; rw [hs]; exact decide_eq_false (fun h => by cases h)
    rw [hs] at S
    rw [e]
    replace S : Hid (∀ w, Calls Try.prog 12 #[fV f] w (Gives (fBV fZ false) w)) := S
    go_enter Try.func17, Try.ntmps17
    go_wp2_with fail
    refine (S.out _).mono ?_; rintro e w1 ⟨rfl, b1⟩
    have x1 := hx.out.after b1
    clear hx b1
    go_wp2_with fail
    go_ret
    exact ⟨rfl, below_alloc x1.1 _⟩
  | some g =>
    rw [hs] at S
    replace S : Hid (∀ w, Calls Try.prog 12 #[fV f] w (Gives (fBV g true) w)) := S
    by_cases hg : g = f
    · subst hg
      have e : fR g = true := decide_eq_true hs
      rw [e]
      go_enter Try.func17, Try.ntmps17
      go_wp2_with fail
      refine (S.out _).mono ?_; rintro e w1 ⟨rfl, b1⟩
      have x1 := hx.out.after b1
      have y1 : fB w.heap.size g w1 := x1.get (by simp)
      obtain ⟨c0, c1, c2, c3⟩ := y1.cells
      have k1 := y1.lt
      clear hx b1 y1
      go_wp2_with fail
      go_ret
      exact ⟨rfl, below_alloc x1.1 _⟩
    · have e : fR f = false := by unfold fR; rw [hs]; exact decide_eq_false (fun h => hg (Option.some.inj h))
      rw [e]
      rcases fc_ne hg with a1 | ⟨a1, a2⟩ | ⟨a1, a2, a3⟩ | ⟨a1, a2, a3, a4⟩
      all_goals
        go_enter Try.func17, Try.ntmps17
        go_wp2_with fail
        refine (S.out _).mono ?_; rintro e w1 ⟨rfl, b1⟩
        have x1 := hx.out.after b1
        have y1 : fB w.heap.size f w1 := x1.get (by simp)
        obtain ⟨c0, c1, c2, c3⟩ := y1.cells
        have k1 := y1.lt
        clear hx b1 y1
        go_wp2_with fail
        go_ret
        exact ⟨rfl, below_alloc x1.1 _⟩

set_option maxHeartbeats 1000000 in
theorem fp_known (f : Fc) (w : World) (hf : fIn f) : Calls Try.prog 14 #[fV f] w (Gives (.tuple #[uV (fKv f), .bool (fK f)]) w) := by
  have R := Lib.hid fun w => fp_right f w hf
  have hx := Lib.hid (show Blks w [(w.heap.size, fCells f, 28)] (w.alloc (.cells (fCells f) 28)) from (Blks.start w).new (fCells f) 28)
  cases hr : fR f
  · have e1 : fK f = false := by unfold fK; rw [hr]; rfl
    have e2 : fKv f = 0#64 := by unfold fKv; rw [e1]; rfl
    rw [hr] at R
    rw [e1, e2]
    clear e1 e2 hr
    go_enter Try.func14, Try.ntmps14
    go_wp2_with fail
    refine (R.out _).mono ?_; rintro e w1 ⟨rfl, b1⟩
    have x1 := hx.out.after b1
    clear hx b1
    go_wp2_with fail
    go_ret2
    exact ⟨rfl, x1.1⟩
  · rw [hr] at R
    by_cases hz : f.1.2 = 0#64
    · have e1 : fK f = true := by unfold fK; rw [hr, hz]; rfl
      have e2 : fKv f = f.1.1 := by unfold fKv; rw [e1, if_pos rfl]
      have hz' : ((f.1.2.toNat : Int) != 0) = false := by rw [bv_ne0, hz]; decide
      rw [e1, e2]
      clear e1 e2 hr hz
      go_enter Try.func14, Try.ntmps14
      go_wp2_with fail
      refine (R.out _).mono ?_; rintro e w1 ⟨rfl, b1⟩
      have x1 := hx.out.after b1
      have y1 : fB w.heap.size f w1 := x1.get (by simp)
      obtain ⟨c0, c1, c2, c3⟩ := y1.cells
      clear hx b1 y1
      go_wp2_with fail
      go_ret2
      exact ⟨rfl, x1.1⟩
    · have e1 : fK f = false := by unfold fK; rw [hr, beq_eq_false_iff_ne.mpr hz]; rfl
      have e2 : fKv f = 0#64 := by unfold fKv; rw [e1]; rfl
      have hz' : ((f.1.2.toNat : Int) != 0) = true := by
        rw [bne_iff_ne]
        intro h
        exact hz (BitVec.eq_of_toNat_eq (by simpa using h))
      rw [e1, e2]
      clear e1 e2 hr hz
      go_enter Try.func14, Try.ntmps14
      go_wp2_with fail
      refine (R.out _).mono ?_; rintro e w1 ⟨rfl, b1⟩
      have x1 := hx.out.after b1
      have y1 : fB w.heap.size f w1 := x1.get (by simp)
      obtain ⟨c0, c1, c2, c3⟩ := y1.cells
      clear hx b1 y1
      go_wp2_with fail
      go_ret2
      exact ⟨rfl, x1.1⟩

set_option maxHeartbeats 1000000 in
theorem fp_has (f : Fc) (n : BitVec 64) (w : World) (hf : fIn f) : Calls Try.prog 23 #[fV f, uV n] w (Gives (.bool (fHs f n)) w) := by
  have R := Lib.hid fun w => fp_right f w hf
  have H1 := Lib.hid (has_says f.1 n)
  have H2 := Lib.hid (shas_says f.2 (n.toNat : Int))
  have hx := Lib.hid (show Blks w [(w.heap.size, fCells f, 28)] (w.alloc (.cells (fCells f) 28)) from (Blks.start w).new (fCells f) 28)
  unfold fHs fHas
  generalize sH f.2 (n.toNat : Int) = q at *
  cases hr : fR f
  · rw [hr] at R
    clear hr
    go_enter Try.func23, Try.ntmps23
    go_wp2_with fail
    refine (R.out _).mono ?_; rintro e w1 ⟨rfl, b1⟩
    have x1 := hx.out.after b1
    clear hx b1
    go_wp2_with fail
    go_ret
    exact ⟨rfl, x1.1⟩
  · rw [hr] at R
    clear hr
    cases h1 : tH f.1 n
    · rw [h1] at H1
      clear h1
      go_enter Try.func23, Try.ntmps23
      go_wp2_with fail
      refine (R.out _).mono ?_; rintro e w1 ⟨rfl, b1⟩
      have x1 := hx.out.after b1
      have y1 : fB w.heap.size f w1 := x1.get (by simp)
      obtain ⟨c0, c1, c2, c3⟩ := y1.cells
      clear hx b1 y1
      go_wp2_with fail
      refine (H1.out _).mono ?_; rintro e w2 ⟨rfl, b2⟩
      have x2 := x1.after b2
      clear x1 b2 c0 c1 c2 c3
      go_wp2_with fail
      go_ret
      exact ⟨rfl, x2.1⟩
    · rw [h1] at H1
      clear h1
      go_enter Try.func23, Try.ntmps23
      go_wp2_with fail
      refine (R.out _).mono ?_; rintro e w1 ⟨rfl, b1⟩
      have x1 := hx.out.after b1
      have y1 : fB w.heap.size f w1 := x1.get (by simp)
      obtain ⟨c0, c1, c2, c3⟩ := y1.cells
      clear hx b1 y1
      go_wp2_with fail
      refine (H1.out _).mono ?_; rintro e w2 ⟨rfl, b2⟩
      have x2 := x1.after b2
      have y2 : fB w.heap.size f w2 := x2.get (by simp)
      clear x1 b2 c0 c1 c2 c3
      obtain ⟨c0, c1, c2, c3⟩ := y2.cells
      go_wp2_with fail
      refine (H2.out _).mono ?_; rintro e w3 ⟨rfl, b3⟩
      have x3 := x2.after b3
      clear x2 b3 c0 c1 c2 c3 y2
      go_wp2_with fail
      go_ret
      exact ⟨rfl, x3.1⟩


theorem fp_of (n : BitVec 64) (w : World) : Calls Try.prog 19 #[uV n] w (Gives (fV (fOf n)) w) := by
  have O := Lib.hid (of_says n)
  have hx := Lib.hid (fB.new w fZ rfl)
  go_enter Try.func19, Try.ntmps19
  go_wp2_with fail
  refine (O.out _).mono ?_; rintro e w1 ⟨rfl, b1⟩
  have x1 := fB.after hx.out b1
  have bw := below_next' (below_alloc (Below.refl w.heap.size w) (.cells (fCells fZ) 28)) b1
  obtain ⟨c0, c1, c2, c3⟩ := x1.cells
  obtain ⟨f0, f1, f2, f3⟩ := x1.free
  have X1 := Lib.hid (below_four bw (Nat.le_refl _) (fOf n))
  clear x1 bw b1 hx
  go_wp2_with fail
  exact bodyPost_ret (v := fV (fOf n)) (by simp [results, Try.results19, go_sem, c0, c1, c2, c3, fOf]) rfl ⟨rfl, X1.out⟩
theorem fp_unknown (w : World) : Calls Try.prog 43 #[] w (Gives (.agg #[.int .u64 0, .int .u64 18446744073709551615]) w) := by
  go_enter Try.func43, Try.ntmps43
  go_wp2_with fail
  exact bodyPost_ret (v := .agg #[.int .u64 0, .int .u64 18446744073709551615]) (by simp [results, Try.results43, go_sem]) rfl ⟨rfl, below_alloc (Below.refl _ _) _⟩
theorem fp_any (w : World) : Calls Try.prog 21 #[] w (Gives (fV fAny) w) := by
  have U := Lib.hid fp_unknown
  have A : Hid (∀ w, Calls Try.prog 44 #[] w (Gives (.agg #[.int .u64 0, .int .u64 18446744073709551615]) w)) := Lib.hid sall_says
  have hx := Lib.hid (fB.new w fZ rfl)
  have ha : fV fAny = .agg #[.int .u64 0, .int .u64 18446744073709551615, .int .u64 0, .int .u64 18446744073709551615] := by
    unfold fAny sAll
    simp
  rw [ha]
  go_enter Try.func21, Try.ntmps21
  go_wp2_with fail
  refine (U.out _).mono ?_; rintro e w1 ⟨rfl, b1⟩
  have x1 := fB.after hx.out b1
  have bw := below_next' (below_alloc (Below.refl w.heap.size w) (.cells (fCells fZ) 28)) b1
  clear hx b1
  go_wp2_with fail
  refine (A.out _).mono ?_; rintro e w2 ⟨rfl, b2⟩
  have x2 := fB.after x1 b2
  have bw2 := below_next' bw b2
  clear x1 bw b2
  obtain ⟨c0, c1, c2, c3⟩ := x2.cells
  obtain ⟨f0, f1, f2, f3⟩ := x2.free
  have X1 := Lib.hid ((((bw2.setCell (p := ⟨w.heap.size, 0, none⟩) (Nat.le_refl _) (.int .u64 0)).setCell (p := ⟨w.heap.size, 1, none⟩) (Nat.le_refl _) (.int .u64 18446744073709551615)).setCell (p := ⟨w.heap.size, 2, none⟩) (Nat.le_refl _) (.int .u64 0)).setCell (p := ⟨w.heap.size, 3, none⟩) (Nat.le_refl _) (.int .u64 18446744073709551615))
  clear x2 bw2
  go_wp2_with fail
  exact bodyPost_ret (v := .agg #[.int .u64 0, .int .u64 18446744073709551615, .int .u64 0, .int .u64 18446744073709551615]) (by simp [results, Try.results21, go_sem, c0, c1, c2, c3]) rfl ⟨rfl, X1.out⟩

set_option maxHeartbeats 1000000 in
theorem fp_both (a b : Fc) (w : World) (ha : fIn a) (hb : fIn b) : Calls Try.prog 53 #[fV a, fV b] w (Gives (.bool (fR a && fR b)) w) := by
  have R1 := Lib.hid fun w => fp_right a w ha
  have R2 := Lib.hid fun w => fp_right b w hb
  have hx := Lib.hid (FDuo.new a b w)
  generalize fR b = y at *
  cases h1 : fR a
  · rw [h1] at R1
    clear h1
    go_enter Try.func53, Try.ntmps53
    go_wp2_with fail
    refine (R1.out _).mono ?_; rintro e w1 ⟨rfl, b1⟩
    have x1 := hx.out.after b1
    clear hx b1
    go_wp2_with fail
    go_ret
    exact ⟨rfl, x1.1⟩
  · rw [h1] at R1
    clear h1
    go_enter Try.func53, Try.ntmps53
    go_wp2_with fail
    refine (R1.out _).mono ?_; rintro e w1 ⟨rfl, b1⟩
    have x1 := hx.out.after b1
    clear hx b1
    obtain ⟨q0, q1, q2, q3⟩ := x1.2.2.cells
    go_wp2_with fail
    refine (R2.out _).mono ?_; rintro e w2 ⟨rfl, b2⟩
    have x2 := x1.after b2
    clear x1 b2 q0 q1 q2 q3
    go_wp2_with fail
    go_ret
    exact ⟨rfl, x2.1⟩

set_option maxHeartbeats 2000000 in
theorem fp_within (a b : Fc) (w : World) (ha : fIn a) (hb : fIn b) : Calls Try.prog 26 #[fV a, fV b] w (Gives (.bool (fWi a b)) w) := by
  have R1 := Lib.hid fun w => fp_both a b w ha hb
  have W1 := Lib.hid (within_says a.1 b.1)
  have W2 := Lib.hid (swithin_says a.2 b.2)
  have hx := Lib.hid (FDuo.new a b w)
  unfold fWi fLe
  generalize sW a.2 b.2 = q at *
  cases h1 : (fR a && fR b)
  · rw [h1] at R1
    clear h1
    go_enter Try.func26, Try.ntmps26
    go_wp2_with fail
    refine (R1.out _).mono ?_; rintro e w1 ⟨rfl, b1⟩
    have x1 := hx.out.after b1
    clear hx b1
    go_wp2_with fail
    go_ret
    exact ⟨rfl, x1.1⟩
  · rw [h1] at R1
    clear h1
    cases h3 : tW a.1 b.1
    · rw [h3] at W1
      clear h3
      go_enter Try.func26, Try.ntmps26
      go_wp2_with fail
      refine (R1.out _).mono ?_; rintro e w1 ⟨rfl, b1⟩
      have x1 := hx.out.after b1
      clear hx b1
      obtain ⟨p0, p1, p2, p3⟩ := x1.2.1.cells
      obtain ⟨q0, q1, q2, q3⟩ := x1.2.2.cells
      go_wp2_with fail
      refine (W1.out _).mono ?_; rintro e w2 ⟨rfl, b2⟩
      have x2 := x1.after b2
      clear x1 b2 p0 p1 p2 p3 q0 q1 q2 q3
      go_wp2_with fail
      go_ret
      exact ⟨rfl, x2.1⟩
    · rw [h3] at W1
      clear h3
      go_enter Try.func26, Try.ntmps26
      go_wp2_with fail
      refine (R1.out _).mono ?_; rintro e w1 ⟨rfl, b1⟩
      have x1 := hx.out.after b1
      clear hx b1
      obtain ⟨p0, p1, p2, p3⟩ := x1.2.1.cells
      obtain ⟨q0, q1, q2, q3⟩ := x1.2.2.cells
      go_wp2_with fail
      refine (W1.out _).mono ?_; rintro e w2 ⟨rfl, b2⟩
      have x2 := x1.after b2
      clear x1 b2 p0 p1 p2 p3 q0 q1 q2 q3
      obtain ⟨p0, p1, p2, p3⟩ := x2.2.1.cells
      obtain ⟨q0, q1, q2, q3⟩ := x2.2.2.cells
      go_wp2_with fail
      refine (W2.out _).mono ?_; rintro e w3 ⟨rfl, b3⟩
      have x3 := x2.after b3
      clear x2 b3 p0 p1 p2 p3 q0 q1 q2 q3
      go_wp2_with fail
      go_ret
      exact ⟨rfl, x3.1⟩

end Go.Proofs.Ytfepokiibdkoeaa


/-
  The program's fact: Join, short, bothKnown.
  Conditions: the numbers fit their kinds.
-/
namespace Go.Proofs.Ytfepokiibdkoeaa
open Go.RowKit
set_option linter.unusedVariables false

theorem fp_short (f : Fc) (w : World) : Calls Try.prog 60 #[fV f] w (Gives (.bool (decide (f.2.2 ≤ 4294967295))) w) := by
  go_enter Try.func60, Try.ntmps60
  go_wp2
  go_ret
  exact ⟨rfl, below_alloc (Below.refl _ _) _⟩
theorem fp_bothKnown (a b : Fc) (w : World) : Calls Try.prog 66 #[fV a, fV b] w (Gives (.bool (a.1.2 ||| b.1.2 == 0#64)) w) := by
  have e := Lib.hid (bv_eq0 (a.1.2 ||| b.1.2))
  have o := Lib.hid (bv_or a.1.2 b.1.2)
  go_enter Try.func66, Try.ntmps66
  go_wp2_with fail
  rw [o.out, e.out]
  go_ret
  exact ⟨rfl, below_alloc (below_alloc (Below.refl _ _) _) _⟩

/-- A new block of a fact. -/
def nB (g : Nat) (w : World) : Prop := Blk g #[.int .u64 0, .int .u64 0, .int .u64 0, .int .u64 0] 28 w
theorem nB.after {g : Nat} {w w' : World} (h : nB g w) (b : Below w.heap.size w w') : nB g w' := Blk.after h b
theorem nB.made {w w' : World} (b : Below (w.alloc (.cells #[.int .u64 0, .int .u64 0, .int .u64 0, .int .u64 0] 28)).heap.size (w.alloc (.cells #[.int .u64 0, .int .u64 0, .int .u64 0, .int .u64 0] 28)) w') : nB w.heap.size w' := nB.after (Blk.new w _ _ rfl) b
theorem nB.cells {g : Nat} {w : World} (h : nB g w) : w.cell? ⟨g, 0, none⟩ = some (.int .u64 0) ∧ w.cell? ⟨g, 1, none⟩ = some (.int .u64 0) ∧ w.cell? ⟨g, 2, none⟩ = some (.int .u64 0) ∧ w.cell? ⟨g, 3, none⟩ = some (.int .u64 0) :=
  ⟨Blk.cell h 0, Blk.cell h 1, Blk.cell h 2, Blk.cell h 3⟩
theorem nB.free {g : Nat} {w : World} (h : nB g w) : w.frozen? ⟨g, 0, none⟩ = false ∧ w.frozen? ⟨g, 1, none⟩ = false ∧ w.frozen? ⟨g, 2, none⟩ = false ∧ w.frozen? ⟨g, 3, none⟩ = false :=
  ⟨Blk.free h 0, Blk.free h 1, Blk.free h 2, Blk.free h 3⟩
theorem FTri.alloc {a b r : Fc} {w u : World} (h : FTri a b r w u) (o : Obj) : FTri a b r w (u.alloc o) := h.after (below_alloc (Below.refl _ _) o)
theorem FTri.far {a b r : Fc} {w u : World} {k : Nat} (h : FTri a b r w u) (hk : w.heap.size + 1 + 1 < k) (s : Fc) :
    FTri a b r w ((((u.setCell ⟨k, 0, none⟩ (uV s.1.1)).setCell ⟨k, 1, none⟩ (uV s.1.2)).setCell ⟨k, 2, none⟩ (.int .u64 s.2.1)).setCell ⟨k, 3, none⟩ (.int .u64 s.2.2)) :=
  ⟨⟨below_four h.1.1 (by omega) s, h.1.2.1.others (by omega), h.1.2.2.others (by omega)⟩, h.2.others (by omega)⟩
theorem nB.fB {g : Nat} {w : World} (h : nB g w) : fB g fZ w := h

set_option maxRecDepth 100000 in
set_option maxHeartbeats 4000000 in
theorem fp_join_run (a b : Fc) (t : Tn) (s : Sp) (g : Fc) (k : Bool) (w : World)
    (R1 : Hid (∀ w, Calls Try.prog 53 #[fV a, fV b] w (Gives (.bool true) w)))
    (J1 : Hid (∀ w, Calls Try.prog 58 #[tV a.1, tV b.1] w (Gives (tV t) w)))
    (J2 : Hid (∀ w, Calls Try.prog 59 #[sV a.2, sV b.2] w (Gives (sV s) w)))
    (S : Hid (∀ w, Calls Try.prog 12 #[fV (t, s)] w (Gives (fBV g k) w))) :
    Calls Try.prog 28 #[fV a, fV b] w (Gives (fV g) w) := by
  have hx := Lib.hid (FTri.new a b fZ w)
  go_enter Try.func28, Try.ntmps28
  go_wp2_with fail
  refine (R1.out _).mono ?_; rintro e w1 ⟨rfl, b1⟩
  have X2 := Lib.hid (hx.out.after b1)
  clear hx b1
  go_wp2_with fail
  generalize w1 = w2 at *
  have HB : Below w2.heap.size w2 w2.drew := Below.drew (Below.refl _ _)
  have KK := Lib.hid (fun (wx : World) (hx : Below w2.heap.size w2 wx) => And.intro (X2.out.after hx).1.2.1.cells (X2.out.after hx).1.2.2.cells)
  have HA : Below w2.heap.size w2 ((w2.alloc (.cells #[.int .u64 0, .int .u64 0, .int .u64 0, .int .u64 0] 28)).drew) := Below.drew (below_alloc (Below.refl _ _) _)
  have z1 := X2.out.2.lt
  go_region_held3 (fun w' => (w'.cell? ⟨w.heap.size, 0, none⟩ = some (uV a.1.1) ∧ w'.cell? ⟨w.heap.size, 1, none⟩ = some (uV a.1.2) ∧ w'.cell? ⟨w.heap.size, 2, none⟩ = some (.int .u64 a.2.1) ∧ w'.cell? ⟨w.heap.size, 3, none⟩ = some (.int .u64 a.2.2)) ∧
      w'.cell? ⟨w.heap.size + 1, 0, none⟩ = some (uV b.1.1) ∧ w'.cell? ⟨w.heap.size + 1, 1, none⟩ = some (uV b.1.2) ∧ w'.cell? ⟨w.heap.size + 1, 2, none⟩ = some (.int .u64 b.2.1) ∧ w'.cell? ⟨w.heap.size + 1, 3, none⟩ = some (.int .u64 b.2.2))
    (first
      | exact KK.out _ HB
      | exact KK.out _ (Below.drew HB)
      | exact KK.out _ (below_alloc HB _)
      | exact KK.out _ (Below.drew (below_alloc HB _))
      | exact KK.out _ (below_alloc (Below.drew HB) _)
      | exact KK.out _ (below_four HB (by omega) g)
      | exact KK.out _ HA)
    (first
      | (go_at_call 58; refine (J1.out _).mono ?_; rintro e w6 ⟨rfl, hb6⟩;
         (first | have TB := nB.made hb6 | have TB := (show nB w2.heap.size w6 from nB.made (w := w2.drew) hb6) | skip);
         (first | replace HB := below_next' HB hb6 | replace HB := below_next' (below_alloc HB _) hb6); clear hb6; have n6 := HB.size)
      | (go_at_call 59; refine (J2.out _).mono ?_; rintro e w8 ⟨rfl, hb8⟩;
         (first | replace TB := nB.after TB hb8 | have TB := nB.made hb8 | skip);
         (first | replace HB := below_next' HB hb8 | replace HB := below_next' (below_alloc HB _) hb8); clear hb8; have n8 := HB.size)
      | (go_at_call 12; refine (S.out _).mono ?_; rintro e w7 ⟨rfl, hb7⟩;
         (first | replace TB := nB.after TB hb7 | have TB := nB.made hb7 | skip);
         (first | replace HB := below_next' HB hb7 | replace HB := below_next' (below_alloc HB _) hb7); clear hb7; have n7 := HB.size; (try obtain ⟨t0, t1, t2, t3⟩ := TB.cells); (try obtain ⟨f0, f1, f2, f3⟩ := TB.free)))
  all_goals
    rename_i hh
    clear hh
    have x7 := X2.out.after HB
    first
      | (have TU := Lib.hid (fB.set (show fB w8.heap.size fZ w7 from TB) g)
         have XU := Lib.hid (x7.far (k := w8.heap.size) (by omega) g)
         clear TB HB KK HA x7
         generalize w8.heap.size = gt at *
         generalize (World.setCell (World.setCell (World.setCell (World.setCell w7 ⟨gt, 0, none⟩ (uV g.1.1)) ⟨gt, 1, none⟩ (uV g.1.2)) ⟨gt, 2, none⟩ (.int .u64 g.2.1)) ⟨gt, 3, none⟩ (.int .u64 g.2.2)) = u at TU XU ⊢)
      | (have TU := Lib.hid (fB.set (show fB w6.heap.size fZ w7 from TB) g)
         have XU := Lib.hid (x7.far (k := w6.heap.size) (by omega) g)
         clear TB HB KK HA x7
         generalize w6.heap.size = gt at *
         generalize (World.setCell (World.setCell (World.setCell (World.setCell w7 ⟨gt, 0, none⟩ (uV g.1.1)) ⟨gt, 1, none⟩ (uV g.1.2)) ⟨gt, 2, none⟩ (.int .u64 g.2.1)) ⟨gt, 3, none⟩ (.int .u64 g.2.2)) = u at TU XU ⊢)
      | (have TU := Lib.hid (fB.set (show fB w2.heap.size fZ w7 from TB) g)
         have XU := Lib.hid (x7.far (k := w2.heap.size) (by omega) g)
         clear TB HB KK HA x7
         generalize w2.heap.size = gt at *
         generalize (World.setCell (World.setCell (World.setCell (World.setCell w7 ⟨gt, 0, none⟩ (uV g.1.1)) ⟨gt, 1, none⟩ (uV g.1.2)) ⟨gt, 2, none⟩ (.int .u64 g.2.1)) ⟨gt, 3, none⟩ (.int .u64 g.2.2)) = u at TU XU ⊢)
      | (have TU := Lib.hid (fB.new w7 g rfl)
         have XU := Lib.hid (x7.alloc (.cells (fCells g) 28))
         clear HB KK HA x7
         generalize w7.heap.size = gt at *
         generalize World.alloc w7 (.cells (fCells g) 28) = u at TU XU ⊢)
    all_goals
      clear X2
      obtain ⟨u0, u1, u2, u3⟩ := TU.out.cells
      obtain ⟨e0, e1, e2, e3⟩ := XU.out.2.cells
      obtain ⟨g0, g1, g2, g3⟩ := XU.out.2.free
      have XE := Lib.hid (XU.out.set g)
      clear XU TU
      go_wp2_with fail
      exact bodyPost_ret (v := fV g) (by simp [results, Try.results28, go_sem, e0, e1, e2, e3]) rfl ⟨rfl, XE.out.1.1⟩

end Go.Proofs.Ytfepokiibdkoeaa


/-
  The program's fact: how what is known of what arithmetic makes is found.
  Conditions: the numbers fit their kinds.
-/
namespace Go.Proofs.Ytfepokiibdkoeaa
open Go.RowKit
set_option linter.unusedVariables false

def fDv (op : Int) (y : Fc) : Int := if y = fOf 0#64 then (if op = 48 then 4 else 2) else 6
def fFo (op off : Int) (x y : Fc) : Int :=
  if (x.1.2 ||| y.1.2 == 0#64) = true then 1
  else if ¬ off = 0 then 0
  else if op = 176 then 3
  else if op = 48 ∨ op = 144 then fDv op y
  else if op = 96 ∨ op = 112 then (if fK y then 5 else 0)
  else if op = 0 ∨ op = 16 ∨ op = 32 ∨ op = 80 ∨ op = 64 ∨ op = 160 then 6
  else 0

set_option maxHeartbeats 1000000 in
theorem fp_divided (op : Int) (y : Fc) (w : World) : Calls Try.prog 106 #[.int .u8 op, fV y] w (Gives (.int .u8 (fDv op y)) w) := by
  have O : Hid (∀ w, Calls Try.prog 19 #[.int .u64 0] w (Gives (fV (fOf 0#64)) w)) := Lib.hid fun w => fp_of 0#64 w
  have hx := Lib.hid (fB.new w y rfl)
  unfold fDv
  generalize fOf 0#64 = z at *
  by_cases hy : y = z
  · rw [if_pos hy]
    subst hy
    by_cases ho : op = 48
    · rw [if_pos ho]
      subst ho
      go_enter Try.func106, Try.ntmps106
      go_wp2_with fail
      have HB : Below w.heap.size w (w.alloc (.cells (fCells y) 28)).drew := Below.drew (below_alloc (Below.refl _ _) _)
      have y0 := hx.out.after (Below.drew (Below.refl _ _))
      obtain ⟨p0, p1, p2, p3⟩ := y0.cells
      go_region_with (first
        | (go_at_call 19; refine (O.out _).mono ?_; rintro e w1 ⟨rfl, b1⟩; replace y0 := y0.after b1; replace HB := below_next' HB b1; clear b1 p0 p1 p2 p3; obtain ⟨p0, p1, p2, p3⟩ := y0.cells))
      all_goals
        clear y0 p0 p1 p2 p3
        go_wp2_with fail
        go_ret
        exact ⟨rfl, HB⟩
    · rw [if_neg ho]
      go_enter Try.func106, Try.ntmps106
      go_wp2_with fail
      have HB : Below w.heap.size w (w.alloc (.cells (fCells y) 28)).drew := Below.drew (below_alloc (Below.refl _ _) _)
      have y0 := hx.out.after (Below.drew (Below.refl _ _))
      obtain ⟨p0, p1, p2, p3⟩ := y0.cells
      go_region_with (first
        | (go_at_call 19; refine (O.out _).mono ?_; rintro e w1 ⟨rfl, b1⟩; replace y0 := y0.after b1; replace HB := below_next' HB b1; clear b1 p0 p1 p2 p3; obtain ⟨p0, p1, p2, p3⟩ := y0.cells))
      all_goals
        clear y0 p0 p1 p2 p3
        go_wp2_with fail
        go_ret
        exact ⟨rfl, HB⟩
  · rw [if_neg hy]
    rcases fc_ne (fun h => hy (Eq.symm h)) with a1 | ⟨a1, a2⟩ | ⟨a1, a2, a3⟩ | ⟨a1, a2, a3, a4⟩
    all_goals
      first | have s1 := Ne.symm a4 | have s1 := Ne.symm a3 | have s1 := Ne.symm a2 | have s1 := Ne.symm a1
      go_enter Try.func106, Try.ntmps106
      go_wp2_with fail
      have HB : Below w.heap.size w (w.alloc (.cells (fCells y) 28)).drew := Below.drew (below_alloc (Below.refl _ _) _)
      have y0 := hx.out.after (Below.drew (Below.refl _ _))
      obtain ⟨p0, p1, p2, p3⟩ := y0.cells
      go_region_with (first
        | (go_at_call 19; refine (O.out _).mono ?_; rintro e w1 ⟨rfl, b1⟩; replace y0 := y0.after b1; replace HB := below_next' HB b1; clear b1 p0 p1 p2 p3; obtain ⟨p0, p1, p2, p3⟩ := y0.cells))
      all_goals
        clear y0 p0 p1 p2 p3
        go_wp2_with fail
        go_ret
        exact ⟨rfl, HB⟩

end Go.Proofs.Ytfepokiibdkoeaa


/-
  The program's fact: how what is known of what arithmetic makes is found.
  Conditions: the numbers fit their kinds.
-/
namespace Go.Proofs.Ytfepokiibdkoeaa
open Go.RowKit
set_option linter.unusedVariables false

theorem fFo_counted {op off : Int} {x y : Fc} (h : (x.1.2 ||| y.1.2 == 0#64) = true) : fFo op off x y = 1 := by unfold fFo; rw [if_pos h]
theorem fFo_off {op off : Int} {x y : Fc} (h : (x.1.2 ||| y.1.2 == 0#64) = false) (ho : ¬ off = 0) : fFo op off x y = 0 := by unfold fFo; rw [h, if_neg (by decide), if_pos ho]
theorem fFo_else {op : Int} {x y : Fc} (h : (x.1.2 ||| y.1.2 == 0#64) = false) : fFo op 0 x y = if op = 176 then 3 else if op = 48 ∨ op = 144 then fDv op y else if op = 96 ∨ op = 112 then (if fK y then 5 else 0) else if op = 0 ∨ op = 16 ∨ op = 32 ∨ op = 80 ∨ op = 64 ∨ op = 160 then 6 else 0 := by
  unfold fFo; rw [h, if_neg (by decide), if_neg (by decide)]

set_option maxHeartbeats 1000000 in
theorem fp_found_counted (op off : Int) (x y : Fc) (w : World)
    (B : Hid (∀ w, Calls Try.prog 66 #[fV x, fV y] w (Gives (.bool true) w))) :
    Calls Try.prog 93 #[.int .u8 op, .int .i16 off, fV x, fV y] w (Gives (.int .u8 1) w) := by
  have hx := Lib.hid (FDuo.new x y w)
  go_enter Try.func93, Try.ntmps93
  go_wp2_with fail
  refine (B.out _).mono ?_; rintro e w1 ⟨rfl, b1⟩
  have x1 := hx.out.after b1
  clear hx b1
  go_wp2_with fail
  go_ret
  exact ⟨rfl, x1.1⟩

set_option maxHeartbeats 1000000 in
theorem fp_found_off (op off : Int) (ho : ¬ off = 0) (x y : Fc) (w : World)
    (B : Hid (∀ w, Calls Try.prog 66 #[fV x, fV y] w (Gives (.bool false) w))) :
    Calls Try.prog 93 #[.int .u8 op, .int .i16 off, fV x, fV y] w (Gives (.int .u8 0) w) := by
  have hx := Lib.hid (FDuo.new x y w)
  go_enter Try.func93, Try.ntmps93
  go_wp2_with fail
  refine (B.out _).mono ?_; rintro e w1 ⟨rfl, b1⟩
  have x1 := hx.out.after b1
  clear hx b1
  go_wp2_with fail
  go_ret
  exact ⟨rfl, x1.1⟩

set_option maxHeartbeats 1000000 in
theorem fp_found_mov (x y : Fc) (w : World)
    (B : Hid (∀ w, Calls Try.prog 66 #[fV x, fV y] w (Gives (.bool false) w))) :
    Calls Try.prog 93 #[.int .u8 176, .int .i16 0, fV x, fV y] w (Gives (.int .u8 3) w) := by
  have hx := Lib.hid (FDuo.new x y w)
  go_enter Try.func93, Try.ntmps93
  go_wp2_with fail
  refine (B.out _).mono ?_; rintro e w1 ⟨rfl, b1⟩
  have x1 := hx.out.after b1
  clear hx b1
  go_wp2_with fail
  go_ret
  exact ⟨rfl, x1.1⟩

set_option maxHeartbeats 1000000 in
theorem fp_found_add (x y : Fc) (w : World)
    (B : Hid (∀ w, Calls Try.prog 66 #[fV x, fV y] w (Gives (.bool false) w))) :
    Calls Try.prog 93 #[.int .u8 0, .int .i16 0, fV x, fV y] w (Gives (.int .u8 6) w) := by
  have hx := Lib.hid (FDuo.new x y w)
  go_enter Try.func93, Try.ntmps93
  go_wp2_with fail
  refine (B.out _).mono ?_; rintro e w1 ⟨rfl, b1⟩
  have x1 := hx.out.after b1
  clear hx b1
  go_wp2_with fail
  go_ret
  exact ⟨rfl, x1.1⟩

set_option maxHeartbeats 1000000 in
theorem fp_found_sub (x y : Fc) (w : World)
    (B : Hid (∀ w, Calls Try.prog 66 #[fV x, fV y] w (Gives (.bool false) w))) :
    Calls Try.prog 93 #[.int .u8 16, .int .i16 0, fV x, fV y] w (Gives (.int .u8 6) w) := by
  have hx := Lib.hid (FDuo.new x y w)
  go_enter Try.func93, Try.ntmps93
  go_wp2_with fail
  refine (B.out _).mono ?_; rintro e w1 ⟨rfl, b1⟩
  have x1 := hx.out.after b1
  clear hx b1
  go_wp2_with fail
  go_ret
  exact ⟨rfl, x1.1⟩

set_option maxHeartbeats 1000000 in
theorem fp_found_mul (x y : Fc) (w : World)
    (B : Hid (∀ w, Calls Try.prog 66 #[fV x, fV y] w (Gives (.bool false) w))) :
    Calls Try.prog 93 #[.int .u8 32, .int .i16 0, fV x, fV y] w (Gives (.int .u8 6) w) := by
  have hx := Lib.hid (FDuo.new x y w)
  go_enter Try.func93, Try.ntmps93
  go_wp2_with fail
  refine (B.out _).mono ?_; rintro e w1 ⟨rfl, b1⟩
  have x1 := hx.out.after b1
  clear hx b1
  go_wp2_with fail
  go_ret
  exact ⟨rfl, x1.1⟩

set_option maxHeartbeats 1000000 in
theorem fp_found_and (x y : Fc) (w : World)
    (B : Hid (∀ w, Calls Try.prog 66 #[fV x, fV y] w (Gives (.bool false) w))) :
    Calls Try.prog 93 #[.int .u8 80, .int .i16 0, fV x, fV y] w (Gives (.int .u8 6) w) := by
  have hx := Lib.hid (FDuo.new x y w)
  go_enter Try.func93, Try.ntmps93
  go_wp2_with fail
  refine (B.out _).mono ?_; rintro e w1 ⟨rfl, b1⟩
  have x1 := hx.out.after b1
  clear hx b1
  go_wp2_with fail
  go_ret
  exact ⟨rfl, x1.1⟩

set_option maxHeartbeats 1000000 in
theorem fp_found_or (x y : Fc) (w : World)
    (B : Hid (∀ w, Calls Try.prog 66 #[fV x, fV y] w (Gives (.bool false) w))) :
    Calls Try.prog 93 #[.int .u8 64, .int .i16 0, fV x, fV y] w (Gives (.int .u8 6) w) := by
  have hx := Lib.hid (FDuo.new x y w)
  go_enter Try.func93, Try.ntmps93
  go_wp2_with fail
  refine (B.out _).mono ?_; rintro e w1 ⟨rfl, b1⟩
  have x1 := hx.out.after b1
  clear hx b1
  go_wp2_with fail
  go_ret
  exact ⟨rfl, x1.1⟩

set_option maxHeartbeats 1000000 in
theorem fp_found_xor (x y : Fc) (w : World)
    (B : Hid (∀ w, Calls Try.prog 66 #[fV x, fV y] w (Gives (.bool false) w))) :
    Calls Try.prog 93 #[.int .u8 160, .int .i16 0, fV x, fV y] w (Gives (.int .u8 6) w) := by
  have hx := Lib.hid (FDuo.new x y w)
  go_enter Try.func93, Try.ntmps93
  go_wp2_with fail
  refine (B.out _).mono ?_; rintro e w1 ⟨rfl, b1⟩
  have x1 := hx.out.after b1
  clear hx b1
  go_wp2_with fail
  go_ret
  exact ⟨rfl, x1.1⟩

set_option maxHeartbeats 1000000 in
theorem fp_found_div (v : Int) (x y : Fc) (w : World)
    (B : Hid (∀ w, Calls Try.prog 66 #[fV x, fV y] w (Gives (.bool false) w)))
    (D : Hid (∀ w, Calls Try.prog 106 #[.int .u8 48, fV y] w (Gives (.int .u8 v) w))) :
    Calls Try.prog 93 #[.int .u8 48, .int .i16 0, fV x, fV y] w (Gives (.int .u8 v) w) := by
  have hx := Lib.hid (FDuo.new x y w)
  go_enter Try.func93, Try.ntmps93
  go_wp2_with fail
  refine (B.out _).mono ?_; rintro e w1 ⟨rfl, b1⟩
  have x1 := hx.out.after b1
  clear hx b1
  obtain ⟨q0, q1, q2, q3⟩ := x1.2.2.cells
  go_wp2_with fail
  refine (D.out _).mono ?_; rintro e w2 ⟨rfl, b2⟩
  have x2 := x1.after b2
  clear x1 b2 q0 q1 q2 q3
  go_wp2_with fail
  go_ret
  exact ⟨rfl, x2.1⟩

set_option maxHeartbeats 1000000 in
theorem fp_found_mod (v : Int) (x y : Fc) (w : World)
    (B : Hid (∀ w, Calls Try.prog 66 #[fV x, fV y] w (Gives (.bool false) w)))
    (D : Hid (∀ w, Calls Try.prog 106 #[.int .u8 144, fV y] w (Gives (.int .u8 v) w))) :
    Calls Try.prog 93 #[.int .u8 144, .int .i16 0, fV x, fV y] w (Gives (.int .u8 v) w) := by
  have hx := Lib.hid (FDuo.new x y w)
  go_enter Try.func93, Try.ntmps93
  go_wp2_with fail
  refine (B.out _).mono ?_; rintro e w1 ⟨rfl, b1⟩
  have x1 := hx.out.after b1
  clear hx b1
  obtain ⟨q0, q1, q2, q3⟩ := x1.2.2.cells
  go_wp2_with fail
  refine (D.out _).mono ?_; rintro e w2 ⟨rfl, b2⟩
  have x2 := x1.after b2
  clear x1 b2 q0 q1 q2 q3
  go_wp2_with fail
  go_ret
  exact ⟨rfl, x2.1⟩

set_option maxHeartbeats 1000000 in
theorem fp_found_lsh_yes (k : BitVec 64) (x y : Fc) (w : World)
    (B : Hid (∀ w, Calls Try.prog 66 #[fV x, fV y] w (Gives (.bool false) w)))
    (D : Hid (∀ w, Calls Try.prog 14 #[fV y] w (Gives (.tuple #[uV k, .bool true]) w))) :
    Calls Try.prog 93 #[.int .u8 96, .int .i16 0, fV x, fV y] w (Gives (.int .u8 5) w) := by
  have hx := Lib.hid (FDuo.new x y w)
  go_enter Try.func93, Try.ntmps93
  go_wp2_with fail
  refine (B.out _).mono ?_; rintro e w1 ⟨rfl, b1⟩
  have x1 := hx.out.after b1
  clear hx b1
  obtain ⟨q0, q1, q2, q3⟩ := x1.2.2.cells
  go_wp2_with fail
  refine (D.out _).mono ?_; rintro e w2 ⟨rfl, b2⟩
  have x2 := x1.after b2
  clear x1 b2 q0 q1 q2 q3
  go_wp2_with fail
  go_ret
  exact ⟨rfl, x2.1⟩

set_option maxHeartbeats 1000000 in
theorem fp_found_lsh_no (k : BitVec 64) (x y : Fc) (w : World)
    (B : Hid (∀ w, Calls Try.prog 66 #[fV x, fV y] w (Gives (.bool false) w)))
    (D : Hid (∀ w, Calls Try.prog 14 #[fV y] w (Gives (.tuple #[uV k, .bool false]) w))) :
    Calls Try.prog 93 #[.int .u8 96, .int .i16 0, fV x, fV y] w (Gives (.int .u8 0) w) := by
  have hx := Lib.hid (FDuo.new x y w)
  go_enter Try.func93, Try.ntmps93
  go_wp2_with fail
  refine (B.out _).mono ?_; rintro e w1 ⟨rfl, b1⟩
  have x1 := hx.out.after b1
  clear hx b1
  obtain ⟨q0, q1, q2, q3⟩ := x1.2.2.cells
  go_wp2_with fail
  refine (D.out _).mono ?_; rintro e w2 ⟨rfl, b2⟩
  have x2 := x1.after b2
  clear x1 b2 q0 q1 q2 q3
  go_wp2_with fail
  go_ret
  exact ⟨rfl, x2.1⟩

set_option maxHeartbeats 1000000 in
theorem fp_found_rsh_yes (k : BitVec 64) (x y : Fc) (w : World)
    (B : Hid (∀ w, Calls Try.prog 66 #[fV x, fV y] w (Gives (.bool false) w)))
    (D : Hid (∀ w, Calls Try.prog 14 #[fV y] w (Gives (.tuple #[uV k, .bool true]) w))) :
    Calls Try.prog 93 #[.int .u8 112, .int .i16 0, fV x, fV y] w (Gives (.int .u8 5) w) := by
  have hx := Lib.hid (FDuo.new x y w)
  go_enter Try.func93, Try.ntmps93
  go_wp2_with fail
  refine (B.out _).mono ?_; rintro e w1 ⟨rfl, b1⟩
  have x1 := hx.out.after b1
  clear hx b1
  obtain ⟨q0, q1, q2, q3⟩ := x1.2.2.cells
  go_wp2_with fail
  refine (D.out _).mono ?_; rintro e w2 ⟨rfl, b2⟩
  have x2 := x1.after b2
  clear x1 b2 q0 q1 q2 q3
  go_wp2_with fail
  go_ret
  exact ⟨rfl, x2.1⟩

set_option maxHeartbeats 1000000 in
theorem fp_found_rsh_no (k : BitVec 64) (x y : Fc) (w : World)
    (B : Hid (∀ w, Calls Try.prog 66 #[fV x, fV y] w (Gives (.bool false) w)))
    (D : Hid (∀ w, Calls Try.prog 14 #[fV y] w (Gives (.tuple #[uV k, .bool false]) w))) :
    Calls Try.prog 93 #[.int .u8 112, .int .i16 0, fV x, fV y] w (Gives (.int .u8 0) w) := by
  have hx := Lib.hid (FDuo.new x y w)
  go_enter Try.func93, Try.ntmps93
  go_wp2_with fail
  refine (B.out _).mono ?_; rintro e w1 ⟨rfl, b1⟩
  have x1 := hx.out.after b1
  clear hx b1
  obtain ⟨q0, q1, q2, q3⟩ := x1.2.2.cells
  go_wp2_with fail
  refine (D.out _).mono ?_; rintro e w2 ⟨rfl, b2⟩
  have x2 := x1.after b2
  clear x1 b2 q0 q1 q2 q3
  go_wp2_with fail
  go_ret
  exact ⟨rfl, x2.1⟩

set_option maxHeartbeats 1000000 in
theorem fp_found_none (op : Int) (n1 : ¬ op = 176) (n2 : ¬ op = 48) (n3 : ¬ op = 144) (n4 : ¬ op = 96) (n5 : ¬ op = 112) (n6 : ¬ op = 0) (n7 : ¬ op = 16) (n8 : ¬ op = 32) (n9 : ¬ op = 80) (n10 : ¬ op = 64) (n11 : ¬ op = 160) (x y : Fc) (w : World)
    (B : Hid (∀ w, Calls Try.prog 66 #[fV x, fV y] w (Gives (.bool false) w))) :
    Calls Try.prog 93 #[.int .u8 op, .int .i16 0, fV x, fV y] w (Gives (.int .u8 0) w) := by
  have hx := Lib.hid (FDuo.new x y w)
  go_enter Try.func93, Try.ntmps93
  go_wp2_with fail
  refine (B.out _).mono ?_; rintro e w1 ⟨rfl, b1⟩
  have x1 := hx.out.after b1
  clear hx b1
  go_wp2_with fail
  go_ret
  exact ⟨rfl, x1.1⟩

theorem fp_found (op off : Int) (x y : Fc) (w : World) (iy : fIn y) : Calls Try.prog 93 #[.int .u8 op, .int .i16 off, fV x, fV y] w (Gives (.int .u8 (fFo op off x y)) w) := by
  have B := Lib.hid (fp_bothKnown x y)
  have D := Lib.hid fun op => fp_divided op y
  have K := Lib.hid fun w => fp_known y w iy
  cases h : (x.1.2 ||| y.1.2 == 0#64)
  · rw [h] at B
    by_cases ho : off = 0
    · subst ho
      rw [fFo_else h]
      by_cases o1 : op = 176
      · subst o1; exact fp_found_mov x y w B
      rw [if_neg o1]
      by_cases o2 : op = 48
      · subst o2; rw [if_pos (Or.inl rfl)]; exact fp_found_div _ x y w B (Lib.hid (D.out 48))
      by_cases o3 : op = 144
      · subst o3; rw [if_pos (Or.inr rfl)]; exact fp_found_mod _ x y w B (Lib.hid (D.out 144))
      rw [if_neg (by omega)]
      by_cases o4 : op = 96
      · subst o4
        rw [if_pos (Or.inl rfl)]
        cases k : fK y
        · rw [k] at K; exact fp_found_lsh_no _ x y w B K
        · rw [k] at K; exact fp_found_lsh_yes _ x y w B K
      by_cases o5 : op = 112
      · subst o5
        rw [if_pos (Or.inr rfl)]
        cases k : fK y
        · rw [k] at K; exact fp_found_rsh_no _ x y w B K
        · rw [k] at K; exact fp_found_rsh_yes _ x y w B K
      rw [if_neg (by omega)]
      by_cases p : op = 0 ∨ op = 16 ∨ op = 32 ∨ op = 80 ∨ op = 64 ∨ op = 160
      · rw [if_pos p]
        rcases p with rfl | rfl | rfl | rfl | rfl | rfl
        · exact fp_found_add x y w B
        · exact fp_found_sub x y w B
        · exact fp_found_mul x y w B
        · exact fp_found_and x y w B
        · exact fp_found_or x y w B
        · exact fp_found_xor x y w B
      · rw [if_neg p]
        exact fp_found_none op (by omega) (by omega) (by omega) (by omega) (by omega) (by omega) (by omega) (by omega) (by omega) (by omega) (by omega) x y w B
    · rw [fFo_off h ho]
      exact fp_found_off op off ho x y w B
  · rw [h] at B
    rw [fFo_counted h]
    exact fp_found_counted op off x y w B

end Go.Proofs.Ytfepokiibdkoeaa


/-
  What tnum.move and mul answer.
  Conditions: none.
-/
namespace Go.Proofs.Ytfepokiibdkoeaa
open Go.RowKit
set_option linter.unusedVariables false

set_option maxRecDepth 100000 in
set_option maxHeartbeats 1000000 in
theorem move_no (op : Int) (a b : Tn) (w : World) (h : tKnown b = false) : Calls Try.prog 125 #[.int .u8 op, tV a, tV b] w (Gives (tBV (0#64, 0#64) false) w) := by
  have hx := Lib.hid (Trio.new a b w)
  have hk : ((b.2.toNat : Int) != 0) = true ∨ (((b.2.toNat : Int) != 0) = false ∧ (63 : Int) < (b.1.toNat : Int)) := by
    unfold tKnown at h
    rw [bv_ne0]
    cases hm : (b.2 == 0#64)
    · exact .inl rfl
    · rw [hm] at h
      simp at h
      exact .inr ⟨rfl, by omega⟩
  clear h
  rcases hk with hk | ⟨hk, hk2⟩
  all_goals
    go_enter Try.func125, Try.ntmps125
    go_wp2_with fail
    exact bodyPost_ret (v := tBV (0#64, 0#64) false) (by simp [results, Try.results125, go_sem]) rfl ⟨rfl, below_alloc (below_alloc (below_alloc (Below.refl _ _) _) _) _⟩
set_option maxRecDepth 100000 in
set_option maxHeartbeats 1000000 in
theorem move_lsh (a b : Tn) (w : World) (h : tKnown b = true) : Calls Try.prog 125 #[.int .u8 96, tV a, tV b] w (Gives (tBV (tLsh a b.1.toNat) true) w) := by
  obtain ⟨hk, hk2⟩ := known_is h
  clear h
  go_enter Try.func125, Try.ntmps125
  go_wp2_with fail
  simp only [bv_shl']
  have ht : (a.1 <<< b.1.toNat, a.2 <<< b.1.toNat) = tLsh a b.1.toNat := rfl
  generalize a.1 <<< b.1.toNat = p at *
  generalize a.2 <<< b.1.toNat = q at *
  rw [← ht]
  exact bodyPost_ret (v := tBV (p, q) true) (by simp [results, Try.results125, go_sem]) rfl ⟨rfl, below_alloc (below_alloc (below_alloc (Below.refl _ _) _) _) _⟩
set_option maxRecDepth 100000 in
set_option maxHeartbeats 1000000 in
theorem move_rsh (a b : Tn) (w : World) (h : tKnown b = true) : Calls Try.prog 125 #[.int .u8 112, tV a, tV b] w (Gives (tBV (tRsh a b.1.toNat) true) w) := by
  obtain ⟨hk, hk2⟩ := known_is h
  clear h
  go_enter Try.func125, Try.ntmps125
  go_wp2_with fail
  simp only [bv_shr]
  have ht : (a.1 >>> b.1.toNat, a.2 >>> b.1.toNat) = tRsh a b.1.toNat := rfl
  generalize a.1 >>> b.1.toNat = p at *
  generalize a.2 >>> b.1.toNat = q at *
  rw [← ht]
  exact bodyPost_ret (v := tBV (p, q) true) (by simp [results, Try.results125, go_sem]) rfl ⟨rfl, below_alloc (below_alloc (below_alloc (Below.refl _ _) _) _) _⟩
set_option maxRecDepth 100000 in
set_option maxHeartbeats 1000000 in
theorem mul_says (a b : Tn) (w : World) : Calls Try.prog 123 #[tV a, tV b] w (Gives (tV (tMulTo a b 64)) w) := by
  have hx := Lib.hid (Trio.new a b w)
  have h1 : ∀ w, Calls Try.prog 42 #[.int .u64 0] w (Gives (.agg #[.int .u64 0, .int .u64 0]) w) := fun w => of_says 0#64 w
  have h1 := Lib.hid h1
  go_enter Try.func123, Try.ntmps123
  go_wp2_with fail
  refine (h1.out _).mono ?_; rintro e w1 ⟨rfl, b1⟩
  have x1 := hx.out.after b1
  have hz := x1.2.lt
  have X1 := Lib.hid (show Quad a b (0#64, 0#64) w w1.heap.size (w1.alloc (.cells #[.int .u64 0, .int .u64 0] 24)) from ⟨x1.alloc _, hz, Box.new w1 (0#64, 0#64) rfl⟩)
  clear x1 b1 hx
  go_wp2_with fail
  generalize hg : w1.heap.size = g at *
  go_loopw [9] (fun i wr => ∃ j : Nat, j ≤ 64 ∧ i = .int .i64 j ∧ Hid (Quad a b (tMulTo a b j) w g wr)) (fun i wr => 64 - (intOf i).toNat)
  case atStart =>
    exact ⟨0, by omega, rfl, X1⟩
  case round =>
    obtain ⟨j, hj, rfl, X⟩ := hrel
    by_cases hlt : (j : Int) < 64
    · have E1 := Lib.hid (bit_ne b.1 j (by omega))
      have E2 := Lib.hid (bit_ne b.2 j (by omega))
      have ES := Lib.hid (show tMulTo a b (j + 1) = tStep a b j (tMulTo a b j) from rfl)
      unfold tStep at ES
      generalize tMulTo a b j = t at *
      generalize b.1.getLsbD j = c1 at *
      generalize b.2.getLsbD j = c2 at *
      obtain ⟨p0, p1, p2, p3⟩ := X.out.1.1.cells
      obtain ⟨q0, q1⟩ := X.out.2.2.cells
      obtain ⟨f0, f1⟩ := X.out.2.2.free
      cases c1
      · cases c2
        · have e1 := E1.out
          have e2 := E2.out
          have XN := Lib.hid (show Quad a b (tMulTo a b (j + 1)) w g wr by rw [ES.out]; exact X.out)
          clear E1 E2 ES
          go_wp2_with fail
          go_round
          case rel => exact ⟨j + 1, by omega, by go_num, XN⟩
          case measure => simp [intOf]; omega
        · have e1 := E1.out
          have e2 := E2.out
          have HM : Hid (∀ w, Calls Try.prog 124 #[.agg #[uV a.1, uV a.2]] w (Gives (uV (a.1 ||| a.2)) w)) := Lib.hid (maybe_says a)
          have HA := Lib.hid (add_says t (0#64, (a.1 ||| a.2) <<< j))
          have ES2 := Lib.hid (show tMulTo a b (j + 1) = tAdd t (0#64, (a.1 ||| a.2) <<< j) from ES.out)
          have HB : Below wr.heap.size wr wr.drew := Below.drew (Below.refl _ _)
          have H := Lib.hid (fun (wx : World) (hx : Below wr.heap.size wr wx) => And.intro (X.out.1.1.after hx).cells (And.intro (X.out.2.2.after hx).cells (X.out.2.2.after hx).free))
          generalize a.1 ||| a.2 = m at *
          have hm := bv_shl' m j
          generalize m <<< j = s at *
          clear E1 E2 ES h1
          go_wp2_with fail
          clear p0 p1 p2 p3 q0 q1 f0 f1
          obtain ⟨⟨p0, p1, p2, p3⟩, ⟨q0, q1⟩, f0, f1⟩ := H.out _ HB
          go_region_with (first
            | (go_at_call 124; refine (HM.out _).mono ?_; rintro e w4 ⟨rfl, hb4⟩; replace HB := below_next' HB hb4; clear hb4 p0 p1 p2 p3 q0 q1 f0 f1; obtain ⟨⟨p0, p1, p2, p3⟩, ⟨q0, q1⟩, f0, f1⟩ := H.out _ HB)
            | (go_at_call 121; refine (HA.out _).mono ?_; rintro e w5 ⟨rfl, hb5⟩; replace HB := below_next' HB hb5; clear hb5 p0 p1 p2 p3 q0 q1 f0 f1; obtain ⟨⟨p0, p1, p2, p3⟩, ⟨q0, q1⟩, f0, f1⟩ := H.out _ HB))
          all_goals
            have X5 := Lib.hid (show Quad a b (tMulTo a b (j + 1)) w g ((w5.setCell ⟨g, 0, none⟩ (uV (tAdd t (0#64, s)).1)).setCell ⟨g, 1, none⟩ (uV (tAdd t (0#64, s)).2)) by rw [ES2.out]; exact (X.out.after HB).set _)
            clear p0 p1 p2 p3 q0 q1 f0 f1 H X HA HM ES2
            go_wp2_with fail
            go_round
            case rel => exact ⟨j + 1, by omega, by go_num, X5⟩
            case measure => simp [intOf]; omega
      · have e1 := E1.out
        have HA := Lib.hid (add_says t (a.1 <<< j, a.2 <<< j))
        have ES2 := Lib.hid (show tMulTo a b (j + 1) = tAdd t (a.1 <<< j, a.2 <<< j) from ES.out)
        clear E1 E2 ES h1
        have m1 := bv_shl' a.1 j
        have m2 := bv_shl' a.2 j
        generalize a.1 <<< j = s1 at *
        generalize a.2 <<< j = s2 at *
        go_wp2_with fail
        go_still_tail 10, (by kernel_rfl)
        change wpList _ _ _ _ _ wr.drew
        have X2 := Lib.hid (X.out.after (Below.drew (Below.refl _ _)))
        clear X p0 p1 p2 p3 q0 q1 f0 f1
        generalize wr.drew = w2 at *
        go_wp2_with fail
        refine (HA.out _).mono ?_; rintro e w3 ⟨rfl, b3⟩
        have x3 := X2.out.after b3
        clear X2 b3 HA
        generalize tAdd t (s1, s2) = r at *
        obtain ⟨q0, q1⟩ := x3.2.2.cells
        obtain ⟨f0, f1⟩ := x3.2.2.free
        have X3 := Lib.hid (show Quad a b (tMulTo a b (j + 1)) w g ((w3.setCell ⟨g, 0, none⟩ (uV r.1)).setCell ⟨g, 1, none⟩ (uV r.2)) by rw [ES2.out]; exact x3.set r)
        clear x3 ES2
        go_wp2_with fail
        go_round
        case rel => exact ⟨j + 1, by omega, by go_num, X3⟩
        case measure => simp [intOf]; omega
    · have hj2 : j = 64 := by omega
      subst hj2
      generalize tMulTo a b 64 = t at *
      have x1 := X.out
      obtain ⟨p0, p1⟩ := x1.2.2.cells
      obtain ⟨c0, c1⟩ := x1.1.2.cells
      obtain ⟨f0, f1⟩ := x1.1.2.free
      have X2 := Lib.hid (x1.1.set t)
      clear x1 X
      go_wp2_with fail
      exact bodyPost_ret (v := tV t) (by simp [results, Try.results123, go_sem, c0, c1]) rfl ⟨rfl, X2.out.1.1⟩

end Go.Proofs.Ytfepokiibdkoeaa


/-
  What tnum.Do answers, op by op, and whole.
  Conditions: none.
-/
namespace Go.Proofs.Ytfepokiibdkoeaa
open Go.RowKit
set_option linter.unusedVariables false

set_option maxRecDepth 100000 in
set_option maxHeartbeats 1000000 in
theorem do_wrong (op : Int) (a b : Tn) (w : World) (hr : tRR a b = false) : Calls Try.prog 107 #[.int .u8 op, tV a, tV b] w (Gives (tBV (0#64, 0#64) false) w) := by
  have hx := Lib.hid (Trio.new a b w)
  have h0 := Lib.hid (both_says a b)
  rw [hr] at h0
  clear hr
  go_enter Try.func107, Try.ntmps107
  go_wp2_with fail
  refine (h0.out _).mono ?_; rintro e w1 ⟨rfl, b1⟩
  have x1 := hx.out.after b1
  obtain ⟨p0, p1, p2, p3⟩ := x1.1.cells
  obtain ⟨c0, c1⟩ := x1.2.cells
  obtain ⟨f0, f1⟩ := x1.2.free
  have X1 := Lib.hid x1
  clear x1 b1 hx h0
  go_wp2_with fail
  have X2 := Lib.hid (X1.out.set (0#64, 0#64))
  exact bodyPost_ret (v := tBV (0#64, 0#64) false) (by simp [results, Try.results107, go_sem, c0, c1]) rfl ⟨rfl, X2.out.1.1⟩

set_option maxRecDepth 100000 in
set_option maxHeartbeats 1000000 in
theorem do_other (op : Int) (a b : Tn) (w : World) (hr : tRR a b = true) (h1 : ¬ op = 0) (h2 : ¬ op = 16) (h3 : ¬ op = 32) (h4 : ¬ op = 80) (h5 : ¬ op = 64) (h6 : ¬ op = 160) (h7 : ¬ op = 96) (h8 : ¬ op = 112) : Calls Try.prog 107 #[.int .u8 op, tV a, tV b] w (Gives (tBV (0#64, 0#64) false) w) := by
  have hx := Lib.hid (Trio.new a b w)
  have h0 := Lib.hid (both_says a b)
  rw [hr] at h0
  clear hr
  go_enter Try.func107, Try.ntmps107
  go_wp2_with fail
  refine (h0.out _).mono ?_; rintro e w1 ⟨rfl, b1⟩
  have x1 := hx.out.after b1
  obtain ⟨p0, p1, p2, p3⟩ := x1.1.cells
  obtain ⟨c0, c1⟩ := x1.2.cells
  obtain ⟨f0, f1⟩ := x1.2.free
  have X1 := Lib.hid x1
  clear x1 b1 hx h0
  go_wp2_with fail
  have X2 := Lib.hid (X1.out.set (0#64, 0#64))
  exact bodyPost_ret (v := tBV (0#64, 0#64) false) (by simp [results, Try.results107, go_sem, c0, c1]) rfl ⟨rfl, X2.out.1.1⟩

set_option maxRecDepth 100000 in
set_option maxHeartbeats 1000000 in
theorem do_add (a b : Tn) (w : World) (hr : tRR a b = true) : Calls Try.prog 107 #[.int .u8 0, tV a, tV b] w (Gives (tBV (tAdd a b) true) w) := by
  have hx := Lib.hid (Trio.new a b w)
  have h0 := Lib.hid (both_says a b)
  rw [hr] at h0
  clear hr
  have hc : Hid (∀ w, Calls _ _ _ _ _) := Lib.hid (add_says a b)
  generalize tAdd a b = t at *
  go_enter Try.func107, Try.ntmps107
  go_wp2_with fail
  refine (h0.out _).mono ?_; rintro e w1 ⟨rfl, b1⟩
  have x1 := hx.out.after b1
  obtain ⟨p0, p1, p2, p3⟩ := x1.1.cells
  obtain ⟨c0, c1⟩ := x1.2.cells
  obtain ⟨f0, f1⟩ := x1.2.free
  have X1 := Lib.hid x1
  clear x1 b1 hx h0
  go_wp2_with fail
  refine (hc.out _).mono ?_; rintro e w2 ⟨rfl, b2⟩
  have x2 := X1.out.after b2
  clear p0 p1 p2 p3 c0 c1 f0 f1 X1 b2
  obtain ⟨c0, c1⟩ := x2.2.cells
  obtain ⟨f0, f1⟩ := x2.2.free
  have X2 := Lib.hid (x2.set t)
  clear x2
  go_wp2_with fail
  exact bodyPost_ret (v := tBV t true) (by simp [results, Try.results107, go_sem, c0, c1]) rfl ⟨rfl, X2.out.1.1⟩

set_option maxRecDepth 100000 in
set_option maxHeartbeats 1000000 in
theorem do_sub (a b : Tn) (w : World) (hr : tRR a b = true) : Calls Try.prog 107 #[.int .u8 16, tV a, tV b] w (Gives (tBV (tSub a b) true) w) := by
  have hx := Lib.hid (Trio.new a b w)
  have h0 := Lib.hid (both_says a b)
  rw [hr] at h0
  clear hr
  have hc : Hid (∀ w, Calls _ _ _ _ _) := Lib.hid (sub_says a b)
  generalize tSub a b = t at *
  go_enter Try.func107, Try.ntmps107
  go_wp2_with fail
  refine (h0.out _).mono ?_; rintro e w1 ⟨rfl, b1⟩
  have x1 := hx.out.after b1
  obtain ⟨p0, p1, p2, p3⟩ := x1.1.cells
  obtain ⟨c0, c1⟩ := x1.2.cells
  obtain ⟨f0, f1⟩ := x1.2.free
  have X1 := Lib.hid x1
  clear x1 b1 hx h0
  go_wp2_with fail
  refine (hc.out _).mono ?_; rintro e w2 ⟨rfl, b2⟩
  have x2 := X1.out.after b2
  clear p0 p1 p2 p3 c0 c1 f0 f1 X1 b2
  obtain ⟨c0, c1⟩ := x2.2.cells
  obtain ⟨f0, f1⟩ := x2.2.free
  have X2 := Lib.hid (x2.set t)
  clear x2
  go_wp2_with fail
  exact bodyPost_ret (v := tBV t true) (by simp [results, Try.results107, go_sem, c0, c1]) rfl ⟨rfl, X2.out.1.1⟩

set_option maxRecDepth 100000 in
set_option maxHeartbeats 1000000 in
theorem do_mul (a b : Tn) (w : World) (hr : tRR a b = true) : Calls Try.prog 107 #[.int .u8 32, tV a, tV b] w (Gives (tBV (tMulTo a b 64) true) w) := by
  have hx := Lib.hid (Trio.new a b w)
  have h0 := Lib.hid (both_says a b)
  rw [hr] at h0
  clear hr
  have hc : Hid (∀ w, Calls _ _ _ _ _) := Lib.hid (mul_says a b)
  generalize tMulTo a b 64 = t at *
  go_enter Try.func107, Try.ntmps107
  go_wp2_with fail
  refine (h0.out _).mono ?_; rintro e w1 ⟨rfl, b1⟩
  have x1 := hx.out.after b1
  obtain ⟨p0, p1, p2, p3⟩ := x1.1.cells
  obtain ⟨c0, c1⟩ := x1.2.cells
  obtain ⟨f0, f1⟩ := x1.2.free
  have X1 := Lib.hid x1
  clear x1 b1 hx h0
  go_wp2_with fail
  refine (hc.out _).mono ?_; rintro e w2 ⟨rfl, b2⟩
  have x2 := X1.out.after b2
  clear p0 p1 p2 p3 c0 c1 f0 f1 X1 b2
  obtain ⟨c0, c1⟩ := x2.2.cells
  obtain ⟨f0, f1⟩ := x2.2.free
  have X2 := Lib.hid (x2.set t)
  clear x2
  go_wp2_with fail
  exact bodyPost_ret (v := tBV t true) (by simp [results, Try.results107, go_sem, c0, c1]) rfl ⟨rfl, X2.out.1.1⟩

set_option maxRecDepth 100000 in
set_option maxHeartbeats 1000000 in
theorem do_lsh (a b : Tn) (w : World) (hr : tRR a b = true) (hk : tKnown b = true) : Calls Try.prog 107 #[.int .u8 96, tV a, tV b] w (Gives (tBV (tLsh a b.1.toNat) true) w) := by
  have hx := Lib.hid (Trio.new a b w)
  have h0 := Lib.hid (both_says a b)
  rw [hr] at h0
  clear hr
  have hc : Hid (∀ w, Calls _ _ _ _ _) := Lib.hid fun w => move_lsh a b w hk
  generalize tLsh a b.1.toNat = t at *
  clear hk
  go_enter Try.func107, Try.ntmps107
  go_wp2_with fail
  refine (h0.out _).mono ?_; rintro e w1 ⟨rfl, b1⟩
  have x1 := hx.out.after b1
  obtain ⟨p0, p1, p2, p3⟩ := x1.1.cells
  obtain ⟨c0, c1⟩ := x1.2.cells
  obtain ⟨f0, f1⟩ := x1.2.free
  have X1 := Lib.hid x1
  clear x1 b1 hx h0
  go_wp2_with fail
  refine (hc.out _).mono ?_; rintro e w2 ⟨rfl, b2⟩
  have x2 := X1.out.after b2
  clear p0 p1 p2 p3 c0 c1 f0 f1 X1 b2
  obtain ⟨c0, c1⟩ := x2.2.cells
  obtain ⟨f0, f1⟩ := x2.2.free
  have X2 := Lib.hid (x2.set t)
  clear x2
  go_wp2_with fail
  exact bodyPost_ret (v := tBV t true) (by simp [results, Try.results107, go_sem, c0, c1]) rfl ⟨rfl, X2.out.1.1⟩

set_option maxRecDepth 100000 in
set_option maxHeartbeats 1000000 in
theorem do_no_lsh (a b : Tn) (w : World) (hr : tRR a b = true) (hk : tKnown b = false) : Calls Try.prog 107 #[.int .u8 96, tV a, tV b] w (Gives (tBV (0#64, 0#64) false) w) := by
  have hx := Lib.hid (Trio.new a b w)
  have h0 := Lib.hid (both_says a b)
  rw [hr] at h0
  clear hr
  have hc : Hid (∀ w, Calls _ _ _ _ _) := Lib.hid fun w => move_no 96 a b w hk
  clear hk
  go_enter Try.func107, Try.ntmps107
  go_wp2_with fail
  refine (h0.out _).mono ?_; rintro e w1 ⟨rfl, b1⟩
  have x1 := hx.out.after b1
  obtain ⟨p0, p1, p2, p3⟩ := x1.1.cells
  obtain ⟨c0, c1⟩ := x1.2.cells
  obtain ⟨f0, f1⟩ := x1.2.free
  have X1 := Lib.hid x1
  clear x1 b1 hx h0
  go_wp2_with fail
  refine (hc.out _).mono ?_; rintro e w2 ⟨rfl, b2⟩
  have x2 := X1.out.after b2
  clear p0 p1 p2 p3 c0 c1 f0 f1 X1 b2
  obtain ⟨c0, c1⟩ := x2.2.cells
  obtain ⟨f0, f1⟩ := x2.2.free
  have X2 := Lib.hid (x2.set (0#64, 0#64))
  clear x2
  go_wp2_with fail
  exact bodyPost_ret (v := tBV (0#64, 0#64) false) (by simp [results, Try.results107, go_sem, c0, c1]) rfl ⟨rfl, X2.out.1.1⟩

set_option maxRecDepth 100000 in
set_option maxHeartbeats 1000000 in
theorem do_rsh (a b : Tn) (w : World) (hr : tRR a b = true) (hk : tKnown b = true) : Calls Try.prog 107 #[.int .u8 112, tV a, tV b] w (Gives (tBV (tRsh a b.1.toNat) true) w) := by
  have hx := Lib.hid (Trio.new a b w)
  have h0 := Lib.hid (both_says a b)
  rw [hr] at h0
  clear hr
  have hc : Hid (∀ w, Calls _ _ _ _ _) := Lib.hid fun w => move_rsh a b w hk
  generalize tRsh a b.1.toNat = t at *
  clear hk
  go_enter Try.func107, Try.ntmps107
  go_wp2_with fail
  refine (h0.out _).mono ?_; rintro e w1 ⟨rfl, b1⟩
  have x1 := hx.out.after b1
  obtain ⟨p0, p1, p2, p3⟩ := x1.1.cells
  obtain ⟨c0, c1⟩ := x1.2.cells
  obtain ⟨f0, f1⟩ := x1.2.free
  have X1 := Lib.hid x1
  clear x1 b1 hx h0
  go_wp2_with fail
  refine (hc.out _).mono ?_; rintro e w2 ⟨rfl, b2⟩
  have x2 := X1.out.after b2
  clear p0 p1 p2 p3 c0 c1 f0 f1 X1 b2
  obtain ⟨c0, c1⟩ := x2.2.cells
  obtain ⟨f0, f1⟩ := x2.2.free
  have X2 := Lib.hid (x2.set t)
  clear x2
  go_wp2_with fail
  exact bodyPost_ret (v := tBV t true) (by simp [results, Try.results107, go_sem, c0, c1]) rfl ⟨rfl, X2.out.1.1⟩

set_option maxRecDepth 100000 in
set_option maxHeartbeats 1000000 in
theorem do_no_rsh (a b : Tn) (w : World) (hr : tRR a b = true) (hk : tKnown b = false) : Calls Try.prog 107 #[.int .u8 112, tV a, tV b] w (Gives (tBV (0#64, 0#64) false) w) := by
  have hx := Lib.hid (Trio.new a b w)
  have h0 := Lib.hid (both_says a b)
  rw [hr] at h0
  clear hr
  have hc : Hid (∀ w, Calls _ _ _ _ _) := Lib.hid fun w => move_no 112 a b w hk
  clear hk
  go_enter Try.func107, Try.ntmps107
  go_wp2_with fail
  refine (h0.out _).mono ?_; rintro e w1 ⟨rfl, b1⟩
  have x1 := hx.out.after b1
  obtain ⟨p0, p1, p2, p3⟩ := x1.1.cells
  obtain ⟨c0, c1⟩ := x1.2.cells
  obtain ⟨f0, f1⟩ := x1.2.free
  have X1 := Lib.hid x1
  clear x1 b1 hx h0
  go_wp2_with fail
  refine (hc.out _).mono ?_; rintro e w2 ⟨rfl, b2⟩
  have x2 := X1.out.after b2
  clear p0 p1 p2 p3 c0 c1 f0 f1 X1 b2
  obtain ⟨c0, c1⟩ := x2.2.cells
  obtain ⟨f0, f1⟩ := x2.2.free
  have X2 := Lib.hid (x2.set (0#64, 0#64))
  clear x2
  go_wp2_with fail
  exact bodyPost_ret (v := tBV (0#64, 0#64) false) (by simp [results, Try.results107, go_sem, c0, c1]) rfl ⟨rfl, X2.out.1.1⟩

set_option maxRecDepth 100000 in
set_option maxHeartbeats 1000000 in
theorem do_xor (a b : Tn) (w : World) (hr : tRR a b = true) : Calls Try.prog 107 #[.int .u8 160, tV a, tV b] w (Gives (tBV (tXor a b) true) w) := by
  have hx := Lib.hid (Trio.new a b w)
  have h0 := Lib.hid (both_says a b)
  rw [hr] at h0
  clear hr
  have hc : Hid (∀ w, Calls _ _ _ _ _) := Lib.hid (made_says (a.1 ^^^ b.1) (a.2 ||| b.2))
  have hv : tMade (a.1 ^^^ b.1) (a.2 ||| b.2) = tXor a b := rfl
  rw [hv] at hc
  clear hv
  generalize tXor a b = t at *
  go_enter Try.func107, Try.ntmps107
  go_wp2_with fail
  refine (h0.out _).mono ?_; rintro e w1 ⟨rfl, b1⟩
  have x1 := hx.out.after b1
  obtain ⟨p0, p1, p2, p3⟩ := x1.1.cells
  obtain ⟨c0, c1⟩ := x1.2.cells
  obtain ⟨f0, f1⟩ := x1.2.free
  have X1 := Lib.hid x1
  clear x1 b1 hx h0
  go_wp2_with fail
  simp only [bv_xor, bv_or]
  refine (hc.out _).mono ?_; rintro e w2 ⟨rfl, b2⟩
  have x2 := X1.out.after b2
  clear p0 p1 p2 p3 c0 c1 f0 f1 X1 b2
  obtain ⟨c0, c1⟩ := x2.2.cells
  obtain ⟨f0, f1⟩ := x2.2.free
  have X2 := Lib.hid (x2.set t)
  clear x2
  go_wp2_with fail
  exact bodyPost_ret (v := tBV t true) (by simp [results, Try.results107, go_sem, c0, c1]) rfl ⟨rfl, X2.out.1.1⟩

set_option maxRecDepth 100000 in
set_option maxHeartbeats 1000000 in
theorem do_or (a b : Tn) (w : World) (hr : tRR a b = true) : Calls Try.prog 107 #[.int .u8 64, tV a, tV b] w (Gives (tBV (tOr a b) true) w) := by
  have hx := Lib.hid (Trio.new a b w)
  have h0 := Lib.hid (both_says a b)
  rw [hr] at h0
  clear hr
  go_enter Try.func107, Try.ntmps107
  go_wp2_with fail
  refine (h0.out _).mono ?_; rintro e w1 ⟨rfl, b1⟩
  have x1 := hx.out.after b1
  obtain ⟨p0, p1, p2, p3⟩ := x1.1.cells
  obtain ⟨c0, c1⟩ := x1.2.cells
  obtain ⟨f0, f1⟩ := x1.2.free
  have X1 := Lib.hid x1
  clear x1 b1 hx h0
  go_wp2_with fail
  simp only [bv_or, bv_andNot]
  have hv : (a.1 ||| b.1, (a.2 ||| b.2) &&& ~~~(a.1 ||| b.1)) = tOr a b := rfl
  generalize (a.2 ||| b.2) &&& ~~~(a.1 ||| b.1) = m at *
  generalize a.1 ||| b.1 = v at *
  rw [← hv]
  have X2 := Lib.hid (X1.out.set (v, m))
  exact bodyPost_ret (v := tBV (v, m) true) (by simp [results, Try.results107, go_sem, c0, c1]) rfl ⟨rfl, X2.out.1.1⟩

end Go.Proofs.Ytfepokiibdkoeaa


/-
  What tnum.Do answers: And; and whole.
  Conditions: none.
-/
namespace Go.Proofs.Ytfepokiibdkoeaa
open Go.RowKit
set_option linter.unusedVariables false

set_option maxRecDepth 100000 in
set_option maxHeartbeats 1000000 in
theorem do_and (a b : Tn) (w : World) (hr : tRR a b = true) : Calls Try.prog 107 #[.int .u8 80, tV a, tV b] w (Gives (tBV (tAnd a b) true) w) := by
  have hx := Lib.hid (Trio.new a b w)
  have h0 := Lib.hid (both_says a b)
  rw [hr] at h0
  clear hr
  have HMa : Hid (∀ w, Calls Try.prog 124 #[.agg #[uV a.1, uV a.2]] w (Gives (uV (a.1 ||| a.2)) w)) := Lib.hid (maybe_says a)
  have HMb : Hid (∀ w, Calls Try.prog 124 #[.agg #[uV b.1, uV b.2]] w (Gives (uV (b.1 ||| b.2)) w)) := Lib.hid (maybe_says b)
  have hv : (a.1 &&& b.1, ((a.1 ||| a.2) &&& (b.1 ||| b.2)) &&& ~~~(a.1 &&& b.1)) = tAnd a b := rfl
  generalize a.1 ||| a.2 = pa at *
  generalize b.1 ||| b.2 = pb at *
  have e1 := bv_and a.1 b.1
  generalize a.1 &&& b.1 = v at *
  have E2 := Lib.hid (show bits .andNot .u64 (bits .and .u64 (pa.toNat : Int) (pb.toNat : Int)) (v.toNat : Int) = ((((pa &&& pb) &&& ~~~v).toNat : Nat) : Int) by rw [bv_and, bv_andNot])
  generalize (pa &&& pb) &&& ~~~v = m at *
  rw [← hv]
  clear hv
  go_enter Try.func107, Try.ntmps107
  go_wp2_with fail
  refine (h0.out _).mono ?_; rintro e w1 ⟨rfl, b1⟩
  have x1 := hx.out.after b1
  obtain ⟨p0, p1, p2, p3⟩ := x1.1.cells
  obtain ⟨c0, c1⟩ := x1.2.cells
  obtain ⟨f0, f1⟩ := x1.2.free
  have X1 := Lib.hid x1
  clear x1 b1 hx h0
  go_wp2_with fail
  have HB : Below w1.heap.size w1 w1.drew := Below.drew (Below.refl _ _)
  have H := Lib.hid (fun (wx : World) (hx : Below w1.heap.size w1 wx) => And.intro (X1.out.1.after hx).cells (And.intro (X1.out.2.after hx).cells (X1.out.2.after hx).free))
  clear p0 p1 p2 p3 c0 c1 f0 f1
  obtain ⟨⟨p0, p1, p2, p3⟩, ⟨c0, c1⟩, f0, f1⟩ := H.out _ HB
  go_region_with (first
    | (go_at_call 124; refine (HMa.out _).mono ?_; rintro e w4 ⟨rfl, hb4⟩; replace HB := below_next' HB hb4; clear hb4 p0 p1 p2 p3 c0 c1 f0 f1; obtain ⟨⟨p0, p1, p2, p3⟩, ⟨c0, c1⟩, f0, f1⟩ := H.out _ HB)
    | (go_at_call 124; refine (HMb.out _).mono ?_; rintro e w5 ⟨rfl, hb5⟩; replace HB := below_next' HB hb5; clear hb5 p0 p1 p2 p3 c0 c1 f0 f1; obtain ⟨⟨p0, p1, p2, p3⟩, ⟨c0, c1⟩, f0, f1⟩ := H.out _ HB))
  all_goals
    have X2 := Lib.hid ((X1.out.after HB).set (v, m))
    clear X1 H HMa HMb HB p0 p1 p2 p3
    go_wp2_with fail
    rw [E2.out]
    exact bodyPost_ret (v := tBV (v, m) true) (by simp [results, Try.results107, go_sem, c0, c1]) rfl ⟨rfl, X2.out.1.1⟩

set_option maxRecDepth 100000 in
theorem do_says (op : Int) (a b : Tn) (w : World) : Calls Try.prog 107 #[.int .u8 op, tV a, tV b] w (Gives (tBV (tDo op a b) (tDok op a b)) w) := by
  cases hr : tRR a b
  · have e : tDok op a b = false := by unfold tDok; rw [hr]; rfl
    have e2 : tDo op a b = (0#64, 0#64) := by unfold tDo; rw [e]; rfl
    rw [e, e2]
    exact do_wrong op a b w hr
  by_cases h1 : op = 0
  · subst h1
    have e : tDok 0 a b = true := by unfold tDok; rw [hr]; rfl
    have e2 : tDo 0 a b = tAdd a b := by unfold tDo; rw [e]; rfl
    rw [e, e2]
    exact do_add a b w hr
  by_cases h2 : op = 16
  · subst h2
    have e : tDok 16 a b = true := by unfold tDok; rw [hr]; rfl
    have e2 : tDo 16 a b = tSub a b := by unfold tDo; rw [e]; rfl
    rw [e, e2]
    exact do_sub a b w hr
  by_cases h3 : op = 32
  · subst h3
    have e : tDok 32 a b = true := by unfold tDok; rw [hr]; rfl
    have e2 : tDo 32 a b = tMulTo a b 64 := by unfold tDo; rw [e, if_pos rfl]; unfold tDo'; rw [if_neg (by decide), if_neg (by decide), if_pos rfl]
    rw [e, e2]
    exact do_mul a b w hr
  by_cases h4 : op = 80
  · subst h4
    have e : tDok 80 a b = true := by unfold tDok; rw [hr]; rfl
    have e2 : tDo 80 a b = tAnd a b := by unfold tDo; rw [e]; rfl
    rw [e, e2]
    exact do_and a b w hr
  by_cases h5 : op = 64
  · subst h5
    have e : tDok 64 a b = true := by unfold tDok; rw [hr]; rfl
    have e2 : tDo 64 a b = tOr a b := by unfold tDo; rw [e]; rfl
    rw [e, e2]
    exact do_or a b w hr
  by_cases h6 : op = 160
  · subst h6
    have e : tDok 160 a b = true := by unfold tDok; rw [hr]; rfl
    have e2 : tDo 160 a b = tXor a b := by unfold tDo; rw [e]; rfl
    rw [e, e2]
    exact do_xor a b w hr
  by_cases h7 : op = 96
  · subst h7
    cases hk : tKnown b
    · have e : tDok 96 a b = false := by unfold tDok; rw [hr, hk]; rfl
      have e2 : tDo 96 a b = (0#64, 0#64) := by unfold tDo; rw [e]; rfl
      rw [e, e2]
      exact do_no_lsh a b w hr hk
    · have e : tDok 96 a b = true := by unfold tDok; rw [hr, hk]; rfl
      have e2 : tDo 96 a b = tLsh a b.1.toNat := by unfold tDo; rw [e]; rfl
      rw [e, e2]
      exact do_lsh a b w hr hk
  by_cases h8 : op = 112
  · subst h8
    cases hk : tKnown b
    · have e : tDok 112 a b = false := by unfold tDok; rw [hr, hk]; rfl
      have e2 : tDo 112 a b = (0#64, 0#64) := by unfold tDo; rw [e]; rfl
      rw [e, e2]
      exact do_no_rsh a b w hr hk
    · have e : tDok 112 a b = true := by unfold tDok; rw [hr, hk]; rfl
      have e2 : tDo 112 a b = tRsh a b.1.toNat := by unfold tDo; rw [e]; rfl
      rw [e, e2]
      exact do_rsh a b w hr hk
  have e : tDok op a b = false := by unfold tDok; simp [h1, h2, h3, h4, h5, h6, h7, h8]
  have e2 : tDo op a b = (0#64, 0#64) := by unfold tDo; rw [e]; rfl
  rw [e, e2]
  exact do_other op a b w hr h1 h2 h3 h4 h5 h6 h7 h8

end Go.Proofs.Ytfepokiibdkoeaa


/-
  math/bits' Add64 and Sub64 without a carry, and Mul64, over whole numbers.
  Conditions: the numbers fit their kinds.
-/
namespace Go.Proofs.Ytfepokiibdkoeaa
open Go.RowKit
set_option linter.unusedVariables false

def sub64Row : Array Value → Sem Value := fun args => do
  let (x, y, b) ← Extern.MathBitsCarry.three "Sub64" args
  pure (Extern.MathBitsCarry.pair ((x + Extern.MathBitsCarry.m64 - y - b) % Extern.MathBitsCarry.m64) (if x < y + b then 1 else 0))

theorem add64_run {x y s c : Int} (hx : 0 ≤ x) (hy : 0 ≤ y) (hs : (x + y) % 18446744073709551616 = s) (hc : (x + y) / 18446744073709551616 = c) (w : World) :
    (callFunc 130 #[.int .u64 x, .int .u64 y, .int .u64 0]).run Try.prog w = .ok (.value (.tuple #[.int .u64 s, .int .u64 c])) w := by
  rw [run_callFunc_extern Try.func130 (by kernel_rfl) (by kernel_rfl) (by kernel_rfl) (e := add64Entry) (by kernel_rfl), run_add64 x y 0 hx hy (by decide) (by decide), Int.add_zero, hs, hc]
  rfl

theorem sub64_run {x y s c : Int} (hx : 0 ≤ x) (hy : 0 ≤ y) (hs : (x + 18446744073709551616 - y) % 18446744073709551616 = s) (hy' : y ≤ 18446744073709551615) (hc : (if x < y then 1 else 0) = c) (w : World) :
    (callFunc 131 #[.int .u64 x, .int .u64 y, .int .u64 0]).run Try.prog w = .ok (.value (.tuple #[.int .u64 s, .int .u64 c])) w := by
  rw [run_callFunc_extern Try.func131 (by kernel_rfl) (by kernel_rfl) (by kernel_rfl) (e := sub64Row) (by kernel_rfl)]
  obtain ⟨X, rfl⟩ := Int.eq_ofNat_of_zero_le hx
  obtain ⟨Y, rfl⟩ := Int.eq_ofNat_of_zero_le hy
  have e : (sub64Row #[.int .u64 (X : Int), .int .u64 (Y : Int), .int .u64 0]).run Try.prog w = .ok (Extern.MathBitsCarry.pair ((X + 18446744073709551616 - Y - 0) % 18446744073709551616) (if X < Y + 0 then 1 else 0)) w := rfl
  rw [e]
  have e1 : (((X + 18446744073709551616 - Y - 0) % 18446744073709551616 : Nat) : Int) = s := by omega
  have e2 : (((if X < Y + 0 then 1 else 0) : Nat) : Int) = c := by
    rw [← hc]
    by_cases h : X < Y
    · rw [if_pos (by omega), if_pos (by omega)]; rfl
    · rw [if_neg (by omega), if_neg (by omega)]; rfl
  refine Eq.trans (b := .ok (.value (.tuple #[.int .u64 ((((X + 18446744073709551616 - Y - 0) % 18446744073709551616 : Nat)) : Int), .int .u64 (((if X < Y + 0 then 1 else 0 : Nat)) : Int)])) w) rfl ?_
  rw [e1, e2]

set_option maxHeartbeats 1000000 in
theorem mul64_nat (x y : Nat) (hx : x < 18446744073709551616) (hy : y < 18446744073709551616) (w : World) :
    Calls Try.prog 132 #[.int .u64 (x : Int), .int .u64 (y : Int)] w fun e w' => e = .returned (.tuple #[.int .u64 ((x * y / 18446744073709551616 : Nat) : Int), .int .u64 ((x * y % 18446744073709551616 : Nat) : Int)]) ∧ w = w' := by
  obtain ⟨bd, bt, bw, hhi⟩ := Lib.mul64_hi x y hx hy
  have ba := Lib.half_mul_le (a := x / 4294967296) (b := y / 4294967296) (by omega) (by omega)
  have bb := Lib.half_mul_le (a := x / 4294967296) (b := y % 4294967296) (by omega) (by omega)
  have bc := Lib.half_mul_le (a := x % 4294967296) (b := y / 4294967296) (by omega) (by omega)
  have ba' : x / 4294967296 * (y / 4294967296) < 18446744073709551616 := by omega
  have bb' : x / 4294967296 * (y % 4294967296) < 18446744073709551616 := by omega
  have bc' : x % 4294967296 * (y / 4294967296) < 18446744073709551616 := by omega
  have bh1 : x / 4294967296 * (y / 4294967296) + (x / 4294967296 * (y % 4294967296) + x % 4294967296 * (y % 4294967296) / 4294967296) / 4294967296 < 18446744073709551616 := by omega
  have bh : x / 4294967296 * (y / 4294967296) + (x / 4294967296 * (y % 4294967296) + x % 4294967296 * (y % 4294967296) / 4294967296) / 4294967296 + ((x / 4294967296 * (y % 4294967296) + x % 4294967296 * (y % 4294967296) / 4294967296) % 4294967296 + x % 4294967296 * (y / 4294967296)) / 4294967296 < 18446744073709551616 := by omega
  go_enter Try.func132, Try.ntmps132
  go_wp2
  simp only [Mul64.maskN x hx, Mul64.maskN y hy, Mul64.divN, Mul64.mulN, Mul64.addN, Mul64.wrapN _ bd, Mul64.wrapN _ bb', Mul64.wrapN _ bt, Mul64.maskN _ bt, Mul64.wrapN _ bc', Mul64.wrapN _ bw, Mul64.wrapN _ ba', Mul64.wrapN _ bh1, Mul64.wrapN _ bh, Mul64.wrapM (x * y)]
  rw [hhi]
  go_ret2
  exact ⟨rfl, rfl⟩

theorem mul64_says {x y h l : Int} (hx : 0 ≤ x ∧ x ≤ 18446744073709551615) (hy : 0 ≤ y ∧ y ≤ 18446744073709551615) (e1 : x * y / 18446744073709551616 = h) (e2 : x * y % 18446744073709551616 = l) (w : World) :
    Calls Try.prog 132 #[.int .u64 x, .int .u64 y] w fun e w' => e = .returned (.tuple #[.int .u64 h, .int .u64 l]) ∧ w = w' := by
  obtain ⟨X, rfl⟩ := Int.eq_ofNat_of_zero_le hx.1
  obtain ⟨Y, rfl⟩ := Int.eq_ofNat_of_zero_le hy.1
  have hm := mul64_nat X Y (by omega) (by omega) w
  have f1 : ((X * Y / 18446744073709551616 : Nat) : Int) = h := by rw [← e1, ← Int.natCast_mul]; omega
  have f2 : ((X * Y % 18446744073709551616 : Nat) : Int) = l := by rw [← e2, ← Int.natCast_mul]; omega
  rw [f1, f2] at hm
  exact hm

end Go.Proofs.Ytfepokiibdkoeaa


/-
  What span.Do answers, op by op.
  Conditions: the numbers fit their kinds.
-/
namespace Go.Proofs.Ytfepokiibdkoeaa
open Go.RowKit
set_option linter.unusedVariables false

set_option maxHeartbeats 1000000 in
theorem sadd_says (a b : Sp) (w : World) (ha : sIn a) (hb : sIn b) (ra : a.1 ≤ a.2) (rb : b.1 ≤ b.2) : Calls Try.prog 126 #[sV a, sV b] w (Gives (sV (sAdd a b)) w) := by
  have hx := Lib.hid (STrio.new a b w)
  have A := Lib.hid sall_says
  unfold sIn In64 at ha hb
  obtain ⟨⟨a1, a2⟩, a3, a4⟩ := ha
  obtain ⟨⟨b1, b2⟩, b3, b4⟩ := hb
  unfold sAdd
  by_cases h : a.2 + b.2 ≤ 18446744073709551615
  · rw [if_pos h]
    have H := Lib.hid fun w => add64_run a3 b3 (s := a.2 + b.2) (c := 0) (by omega) (by omega) w
    have k1 : 0 ≤ a.1 + b.1 := by omega
    have k2 : a.1 + b.1 ≤ 18446744073709551615 := by omega
    clear a1 a2 b1 b2 a3 a4 b3 b4 ra rb
    go_enter Try.func126, Try.ntmps126
    go_wp2_with (simp only [H.out])
    exact bodyPost_ret (v := sV (a.1 + b.1, a.2 + b.2)) (by simp [results, Try.results126, go_sem]) rfl ⟨rfl, below_alloc (below_alloc (below_alloc (Below.refl _ _) _) _) _⟩
  · rw [if_neg h]
    have H := Lib.hid fun w => add64_run a3 b3 (s := a.2 + b.2 - 18446744073709551616) (c := 1) (by omega) (by omega) w
    go_enter Try.func126, Try.ntmps126
    go_wp2_with (simp only [H.out])
    refine (A.out _).mono ?_; rintro e w1 ⟨rfl, b1⟩
    have x1 := hx.out.after b1
    obtain ⟨c0, c1⟩ := x1.2.cells
    obtain ⟨f0, f1⟩ := x1.2.free
    have X1 := Lib.hid (x1.set sAll)
    clear x1 hx b1
    go_wp2_with fail
    exact bodyPost_ret (v := sV sAll) (by simp [results, Try.results126, go_sem, c0, c1]) rfl ⟨rfl, X1.out.1.1⟩

set_option maxHeartbeats 1000000 in
theorem ssub_says (a b : Sp) (w : World) (ha : sIn a) (hb : sIn b) (ra : a.1 ≤ a.2) (rb : b.1 ≤ b.2) : Calls Try.prog 127 #[sV a, sV b] w (Gives (sV (sSub a b)) w) := by
  have hx := Lib.hid (STrio.new a b w)
  have A := Lib.hid sall_says
  unfold sIn In64 at ha hb
  obtain ⟨⟨a1, a2⟩, a3, a4⟩ := ha
  obtain ⟨⟨b1, b2⟩, b3, b4⟩ := hb
  unfold sSub
  by_cases h : b.2 ≤ a.1
  · rw [if_pos h]
    have H := Lib.hid fun w => sub64_run a1 b3 (s := a.1 - b.2) (c := 0) (by omega) b4 (by rw [if_neg (by omega)]) w
    have k1 : 0 ≤ a.2 - b.1 := by omega
    have k2 : a.2 - b.1 ≤ 18446744073709551615 := by omega
    clear a1 a2 b1 b2 a3 a4 b3 b4 ra rb
    go_enter Try.func127, Try.ntmps127
    go_wp2_with (simp only [H.out])
    exact bodyPost_ret (v := sV (a.1 - b.2, a.2 - b.1)) (by simp [results, Try.results127, go_sem]) rfl ⟨rfl, below_alloc (below_alloc (below_alloc (Below.refl _ _) _) _) _⟩
  · rw [if_neg h]
    have H := Lib.hid fun w => sub64_run a1 b3 (s := a.1 + 18446744073709551616 - b.2) (c := 1) (by omega) b4 (by rw [if_pos (by omega)]) w
    go_enter Try.func127, Try.ntmps127
    go_wp2_with (simp only [H.out])
    refine (A.out _).mono ?_; rintro e w1 ⟨rfl, b1⟩
    have x1 := hx.out.after b1
    obtain ⟨c0, c1⟩ := x1.2.cells
    obtain ⟨f0, f1⟩ := x1.2.free
    have X1 := Lib.hid (x1.set sAll)
    clear x1 hx b1
    go_wp2_with fail
    exact bodyPost_ret (v := sV sAll) (by simp [results, Try.results127, go_sem, c0, c1]) rfl ⟨rfl, X1.out.1.1⟩

set_option maxHeartbeats 1000000 in
theorem smul_says (a b : Sp) (w : World) (ha : sIn a) (hb : sIn b) (ra : a.1 ≤ a.2) (rb : b.1 ≤ b.2) : Calls Try.prog 128 #[sV a, sV b] w (Gives (sV (sMul a b)) w) := by
  have hx := Lib.hid (STrio.new a b w)
  have A := Lib.hid sall_says
  unfold sIn In64 at ha hb
  obtain ⟨⟨a1, a2⟩, a3, a4⟩ := ha
  obtain ⟨⟨b1, b2⟩, b3, b4⟩ := hb
  have m0 : 0 ≤ a.2 * b.2 := Int.mul_nonneg a3 b3
  unfold sMul
  by_cases h : a.2 * b.2 ≤ 18446744073709551615
  · rw [if_pos h]
    have M := Lib.hid fun w => mul64_says ⟨a3, a4⟩ ⟨b3, b4⟩ (h := 0) (l := a.2 * b.2) (Int.ediv_eq_zero_of_lt m0 (by omega)) (Int.emod_eq_of_lt m0 (by omega)) w
    have k1 : 0 ≤ a.1 * b.1 := Int.mul_nonneg a1 b1
    have k2 : a.1 * b.1 ≤ 18446744073709551615 := Int.le_trans (Int.mul_le_mul ra rb b1 a3) h
    have k3 : IntKind.u64.wrap (a.1 * b.1) = a.1 * b.1 := by rw [IntKind.wrap_u64, Int.emod_eq_of_lt k1 (by omega)]
    generalize hq : a.1 * b.1 = q at *
    generalize a.2 * b.2 = r at *
    clear a1 a2 b1 b2 a3 a4 b3 b4 ra rb h m0
    go_enter Try.func128, Try.ntmps128
    go_wp2_with fail
    refine (M.out _).mono ?_; rintro e w1 ⟨rfl, rfl⟩
    go_wp2_with fail
    exact bodyPost_ret (v := sV (q, r)) (by simp [results, Try.results128, go_sem]) rfl ⟨rfl, below_alloc (below_alloc (below_alloc (Below.refl _ _) _) _) _⟩
  · rw [if_neg h]
    have hd : a.2 * b.2 / 18446744073709551616 ≠ 0 := fun hd => by
      generalize a.2 * b.2 = m at *
      omega
    have M := Lib.hid fun w => mul64_says ⟨a3, a4⟩ ⟨b3, b4⟩ rfl rfl w
    have k3 : ((a.2 * b.2 / 18446744073709551616) != 0) = true := bne_iff_ne.mpr hd
    generalize a.2 * b.2 / 18446744073709551616 = p at *
    generalize a.2 * b.2 % 18446744073709551616 = q at *
    clear hd h m0
    go_enter Try.func128, Try.ntmps128
    go_wp2_with fail
    refine (M.out _).mono ?_; rintro e w1 ⟨rfl, rfl⟩
    go_wp2_with fail
    refine (A.out _).mono ?_; rintro e w1 ⟨rfl, b1⟩
    have x1 := hx.out.after b1
    obtain ⟨c0, c1⟩ := x1.2.cells
    obtain ⟨f0, f1⟩ := x1.2.free
    have X1 := Lib.hid (x1.set sAll)
    clear x1 hx b1
    go_wp2_with fail
    exact bodyPost_ret (v := sV sAll) (by simp [results, Try.results128, go_sem, c0, c1]) rfl ⟨rfl, X1.out.1.1⟩

theorem ne_true' {a b : Int} (h : ¬ a = b) : (a != b) = true := bne_iff_ne.mpr h
theorem eq_false' {a b : Int} (h : ¬ a = b) : (a == b) = false := beq_eq_false_iff_ne.mpr h

/-- One answer of Do where both are right, behind the two boxes and the result's. -/
theorem sdo_bad (op : Int) (a b : Sp) (w : World) (h : sRR a b = false) : Calls Try.prog 108 #[.int .u8 op, sV a, sV b] w (Gives (sV (0, 0)) w) := by
  have h1 := Lib.hid (sboth_says a b)
  rw [h] at h1
  clear h
  have hx := Lib.hid (STrio.new a b w)
  go_enter Try.func108, Try.ntmps108
  go_wp2_with fail
  refine (h1.out _).mono ?_; rintro e w1 ⟨rfl, b1⟩
  have x1 := hx.out.after b1
  obtain ⟨c0, c1⟩ := x1.2.cells
  obtain ⟨f0, f1⟩ := x1.2.free
  have X1 := Lib.hid (x1.set (0, 0))
  clear x1 hx b1
  go_wp2_with fail
  exact bodyPost_ret (v := sV (0, 0)) (by simp [results, Try.results108, go_sem, c0, c1]) rfl ⟨rfl, X1.out.1.1⟩

set_option maxHeartbeats 2000000 in
theorem sdo_calls (op : Int) (a b : Sp) (w : World) (ha : sIn a) (hb : sIn b) (h : sRR a b = true) (ho : op = 0 ∨ op = 16 ∨ op = 32) :
    Calls Try.prog 108 #[.int .u8 op, sV a, sV b] w (Gives (sV (sDo' op a b)) w) := by
  have h1 := Lib.hid (sboth_says a b)
  rw [h] at h1
  obtain ⟨ra, rb⟩ := sRR_true h
  have hx := Lib.hid (STrio.new a b w)
  have k0 := Lib.hid fun w => sadd_says a b w ha hb ra rb
  have k1 := Lib.hid fun w => ssub_says a b w ha hb ra rb
  have k2 := Lib.hid fun w => smul_says a b w ha hb ra rb
  clear h ha hb ra rb
  rcases ho with rfl | rfl | rfl
  · have e : sDo' 0 a b = sAdd a b := rfl
    rw [e]
    generalize sAdd a b = t at *
    clear e k1 k2
    go_enter Try.func108, Try.ntmps108
    go_wp2_with fail
    refine (h1.out _).mono ?_; rintro e w1 ⟨rfl, b1⟩
    have x1 := hx.out.after b1
    obtain ⟨p0, p1⟩ := x1.1.2.1.cells
    obtain ⟨q0, q1⟩ := x1.1.2.2.cells
    have X1 := Lib.hid x1
    clear x1 hx b1
    go_wp2_with fail
    refine (k0.out _).mono ?_; rintro e w2 ⟨rfl, b2⟩
    have x2 := X1.out.after b2
    obtain ⟨c0, c1⟩ := x2.2.cells
    obtain ⟨f0, f1⟩ := x2.2.free
    have X2 := Lib.hid (x2.set t)
    clear x2 X1 b2 p0 p1 q0 q1
    go_wp2_with fail
    exact bodyPost_ret (v := sV t) (by simp [results, Try.results108, go_sem, c0, c1]) rfl ⟨rfl, X2.out.1.1⟩
  · have e : sDo' 16 a b = sSub a b := rfl
    rw [e]
    generalize sSub a b = t at *
    clear e k0 k2
    go_enter Try.func108, Try.ntmps108
    go_wp2_with fail
    refine (h1.out _).mono ?_; rintro e w1 ⟨rfl, b1⟩
    have x1 := hx.out.after b1
    obtain ⟨p0, p1⟩ := x1.1.2.1.cells
    obtain ⟨q0, q1⟩ := x1.1.2.2.cells
    have X1 := Lib.hid x1
    clear x1 hx b1
    go_wp2_with fail
    refine (k1.out _).mono ?_; rintro e w2 ⟨rfl, b2⟩
    have x2 := X1.out.after b2
    obtain ⟨c0, c1⟩ := x2.2.cells
    obtain ⟨f0, f1⟩ := x2.2.free
    have X2 := Lib.hid (x2.set t)
    clear x2 X1 b2 p0 p1 q0 q1
    go_wp2_with fail
    exact bodyPost_ret (v := sV t) (by simp [results, Try.results108, go_sem, c0, c1]) rfl ⟨rfl, X2.out.1.1⟩
  · have e : sDo' 32 a b = sMul a b := rfl
    rw [e]
    generalize sMul a b = t at *
    clear e k0 k1
    go_enter Try.func108, Try.ntmps108
    go_wp2_with fail
    refine (h1.out _).mono ?_; rintro e w1 ⟨rfl, b1⟩
    have x1 := hx.out.after b1
    obtain ⟨p0, p1⟩ := x1.1.2.1.cells
    obtain ⟨q0, q1⟩ := x1.1.2.2.cells
    have X1 := Lib.hid x1
    clear x1 hx b1
    go_wp2_with fail
    refine (k2.out _).mono ?_; rintro e w2 ⟨rfl, b2⟩
    have x2 := X1.out.after b2
    obtain ⟨c0, c1⟩ := x2.2.cells
    obtain ⟨f0, f1⟩ := x2.2.free
    have X2 := Lib.hid (x2.set t)
    clear x2 X1 b2 p0 p1 q0 q1
    go_wp2_with fail
    exact bodyPost_ret (v := sV t) (by simp [results, Try.results108, go_sem, c0, c1]) rfl ⟨rfl, X2.out.1.1⟩

end Go.Proofs.Ytfepokiibdkoeaa


/-
  span.Do: whatever tells all numbers.
  Conditions: none.
-/
namespace Go.Proofs.Ytfepokiibdkoeaa
open Go.RowKit
set_option linter.unusedVariables false

/-! Whatever tells all numbers. -/
set_option maxHeartbeats 1000000 in
theorem sdo_div0 (a b : Sp) (hz : b.1 = 0) (w : World) (h : sRR a b = true) :
    Calls Try.prog 108 #[.int .u8 48, sV a, sV b] w (Gives (sV sAll) w) := by
  have h1 := Lib.hid (sboth_says a b)
  rw [h] at h1
  have hx := Lib.hid (STrio.new a b w)
  have A := Lib.hid sall_says
  clear h
  have z1 : (b.1 != 0) = false := by rw [hz]; rfl
  clear hz
  generalize sAll = t at *
  go_enter Try.func108, Try.ntmps108
  go_wp2_with fail
  refine (h1.out _).mono ?_; rintro e w1 ⟨rfl, b1⟩
  have x1 := hx.out.after b1
  obtain ⟨p0, p1⟩ := x1.1.2.1.cells
  obtain ⟨q0, q1⟩ := x1.1.2.2.cells
  have X1 := Lib.hid x1
  clear x1 hx b1
  go_wp2_with fail
  refine (A.out _).mono ?_; rintro e w2 ⟨rfl, b2⟩
  have x2 := X1.out.after b2
  obtain ⟨c0, c1⟩ := x2.2.cells
  obtain ⟨f0, f1⟩ := x2.2.free
  have X2 := Lib.hid (x2.set t)
  clear x2 X1 b2 p0 p1 q0 q1
  go_wp2_with fail
  exact bodyPost_ret (v := sV t) (by simp [results, Try.results108, go_sem, c0, c1]) rfl ⟨rfl, X2.out.1.1⟩

set_option maxHeartbeats 1000000 in
theorem sdo_mod0 (a b : Sp) (hz : b.1 = 0) (w : World) (h : sRR a b = true) :
    Calls Try.prog 108 #[.int .u8 144, sV a, sV b] w (Gives (sV sAll) w) := by
  have h1 := Lib.hid (sboth_says a b)
  rw [h] at h1
  have hx := Lib.hid (STrio.new a b w)
  have A := Lib.hid sall_says
  clear h
  have z1 : (b.1 != 0) = false := by rw [hz]; rfl
  clear hz
  generalize sAll = t at *
  go_enter Try.func108, Try.ntmps108
  go_wp2_with fail
  refine (h1.out _).mono ?_; rintro e w1 ⟨rfl, b1⟩
  have x1 := hx.out.after b1
  obtain ⟨p0, p1⟩ := x1.1.2.1.cells
  obtain ⟨q0, q1⟩ := x1.1.2.2.cells
  have X1 := Lib.hid x1
  clear x1 hx b1
  go_wp2_with fail
  refine (A.out _).mono ?_; rintro e w2 ⟨rfl, b2⟩
  have x2 := X1.out.after b2
  obtain ⟨c0, c1⟩ := x2.2.cells
  obtain ⟨f0, f1⟩ := x2.2.free
  have X2 := Lib.hid (x2.set t)
  clear x2 X1 b2 p0 p1 q0 q1
  go_wp2_with fail
  exact bodyPost_ret (v := sV t) (by simp [results, Try.results108, go_sem, c0, c1]) rfl ⟨rfl, X2.out.1.1⟩

set_option maxHeartbeats 1000000 in
theorem sdo_rsh64 (a b : Sp) (hz : 64 ≤ b.2) (w : World) (h : sRR a b = true) :
    Calls Try.prog 108 #[.int .u8 112, sV a, sV b] w (Gives (sV sAll) w) := by
  have h1 := Lib.hid (sboth_says a b)
  rw [h] at h1
  have hx := Lib.hid (STrio.new a b w)
  have A := Lib.hid sall_says
  clear h
  generalize sAll = t at *
  go_enter Try.func108, Try.ntmps108
  go_wp2_with fail
  refine (h1.out _).mono ?_; rintro e w1 ⟨rfl, b1⟩
  have x1 := hx.out.after b1
  obtain ⟨p0, p1⟩ := x1.1.2.1.cells
  obtain ⟨q0, q1⟩ := x1.1.2.2.cells
  have X1 := Lib.hid x1
  clear x1 hx b1
  go_wp2_with fail
  refine (A.out _).mono ?_; rintro e w2 ⟨rfl, b2⟩
  have x2 := X1.out.after b2
  obtain ⟨c0, c1⟩ := x2.2.cells
  obtain ⟨f0, f1⟩ := x2.2.free
  have X2 := Lib.hid (x2.set t)
  clear x2 X1 b2 p0 p1 q0 q1
  go_wp2_with fail
  exact bodyPost_ret (v := sV t) (by simp [results, Try.results108, go_sem, c0, c1]) rfl ⟨rfl, X2.out.1.1⟩

set_option maxHeartbeats 1000000 in
theorem sdo_none (op : Int) (a b : Sp) (o1 : op ≠ 0) (o2 : op ≠ 16) (o3 : op ≠ 32) (o4 : op ≠ 48) (o5 : op ≠ 144) (o6 : op ≠ 80) (o7 : op ≠ 112) (w : World) (h : sRR a b = true) :
    Calls Try.prog 108 #[.int .u8 op, sV a, sV b] w (Gives (sV sAll) w) := by
  have h1 := Lib.hid (sboth_says a b)
  rw [h] at h1
  have hx := Lib.hid (STrio.new a b w)
  have A := Lib.hid sall_says
  clear h
  replace o1 := eq_false' o1
  replace o2 := eq_false' o2
  replace o3 := eq_false' o3
  replace o4 := eq_false' o4
  replace o5 := eq_false' o5
  replace o6 := eq_false' o6
  replace o7 := eq_false' o7
  generalize sAll = t at *
  go_enter Try.func108, Try.ntmps108
  go_wp2_with fail
  refine (h1.out _).mono ?_; rintro e w1 ⟨rfl, b1⟩
  have x1 := hx.out.after b1
  obtain ⟨p0, p1⟩ := x1.1.2.1.cells
  obtain ⟨q0, q1⟩ := x1.1.2.2.cells
  have X1 := Lib.hid x1
  clear x1 hx b1
  go_wp2_with fail
  refine (A.out _).mono ?_; rintro e w2 ⟨rfl, b2⟩
  have x2 := X1.out.after b2
  obtain ⟨c0, c1⟩ := x2.2.cells
  obtain ⟨f0, f1⟩ := x2.2.free
  have X2 := Lib.hid (x2.set t)
  clear x2 X1 b2 p0 p1 q0 q1
  go_wp2_with fail
  exact bodyPost_ret (v := sV t) (by simp [results, Try.results108, go_sem, c0, c1]) rfl ⟨rfl, X2.out.1.1⟩

end Go.Proofs.Ytfepokiibdkoeaa


/-
  span.Do: division, remainder, common bits, and bits moved lower.
  Conditions: the numbers fit their kinds.
-/
namespace Go.Proofs.Ytfepokiibdkoeaa
open Go.RowKit
set_option linter.unusedVariables false

set_option maxRecDepth 100000 in
set_option maxHeartbeats 2000000 in
theorem sdo_div (a b : Sp) (w : World) (ha : sIn a) (hb : sIn b) (h : sRR a b = true) (hz : b.1 ≠ 0) :
    Calls Try.prog 108 #[.int .u8 48, sV a, sV b] w (Gives (sV (a.1 / b.2, a.2 / b.1)) w) := by
  have h1 := Lib.hid (sboth_says a b)
  rw [h] at h1
  obtain ⟨ra, rb⟩ := sRR_true h
  have hx := Lib.hid (STrio.new a b w)
  unfold sIn In64 at ha hb
  obtain ⟨⟨a1, a2⟩, a3, a4⟩ := ha
  obtain ⟨⟨b1, b2⟩, b3, b4⟩ := hb
  have z1 : (b.1 == 0) = false := eq_false' hz
  have z2 : (b.2 == 0) = false := eq_false' (by omega)
  have z3 : (b.1 != 0) = true := ne_true' hz
  have z4 : ¬ b.2 = 0 := by omega
  have v1 : IntKind.u64.wrap (a.1 / b.2) = a.1 / b.2 := by
    have h1 := Int.ediv_le_self b.2 a1
    have h2 := Int.ediv_nonneg a1 b3
    rw [IntKind.wrap_u64]; omega
  have v2 : IntKind.u64.wrap (a.2 / b.1) = a.2 / b.1 := by
    have h1 := Int.ediv_le_self b.1 a3
    have h2 := Int.ediv_nonneg a3 b1
    rw [IntKind.wrap_u64]; omega
  have d1 : a.1.tdiv b.2 = a.1 / b.2 := Int.tdiv_eq_ediv_of_nonneg a1
  have d2 : a.2.tdiv b.1 = a.2 / b.1 := Int.tdiv_eq_ediv_of_nonneg a3
  go_enter Try.func108, Try.ntmps108
  go_wp2_with fail
  refine (h1.out _).mono ?_; rintro e w1 ⟨rfl, b1⟩
  have x1 := hx.out.after b1
  obtain ⟨p0, p1⟩ := x1.1.2.1.cells
  obtain ⟨q0, q1⟩ := x1.1.2.2.cells
  obtain ⟨c0, c1⟩ := x1.2.cells
  obtain ⟨f0, f1⟩ := x1.2.free
  have X1 := Lib.hid x1
  clear x1 hx b1
  go_wp2_with fail
  go_still_tail 11, (by kernel_rfl)
  change wpList _ _ _ _ _ w1.drew
  have X2 := Lib.hid (X1.out.after (Below.drew (Below.refl _ _)))
  clear X1 p0 p1 q0 q1 f0 f1 c0 c1
  generalize w1.drew = w2 at *
  obtain ⟨c0, c1⟩ := X2.out.2.cells
  obtain ⟨f0, f1⟩ := X2.out.2.free
  generalize a.1 / b.2 = q at *
  generalize a.2 / b.1 = r at *
  have X3 := Lib.hid (X2.out.set (q, r))
  go_wp2_with fail
  exact bodyPost_ret (v := sV (q, r)) (by simp [results, Try.results108, go_sem, c0, c1]) rfl ⟨rfl, X3.out.1.1⟩

set_option maxRecDepth 100000 in
set_option maxHeartbeats 2000000 in
theorem sdo_mod (a b : Sp) (w : World) (ha : sIn a) (hb : sIn b) (h : sRR a b = true) (hz : b.1 ≠ 0) :
    Calls Try.prog 108 #[.int .u8 144, sV a, sV b] w (Gives (sV (0, min a.2 (b.2 - 1))) w) := by
  have h1 := Lib.hid (sboth_says a b)
  rw [h] at h1
  obtain ⟨ra, rb⟩ := sRR_true h
  have hx := Lib.hid (STrio.new a b w)
  unfold sIn In64 at ha hb
  obtain ⟨⟨a1, a2⟩, a3, a4⟩ := ha
  obtain ⟨⟨b1, b2⟩, b3, b4⟩ := hb
  have z3 : (b.1 != 0) = true := ne_true' hz
  have k1 : 0 ≤ b.2 - 1 := by omega
  have k2 : b.2 - 1 ≤ 18446744073709551615 := by omega
  have e2 : min a.2 (b.2 - 1) = if b.2 - 1 < a.2 then b.2 - 1 else a.2 := by split <;> omega
  rw [e2]
  clear e2
  rcases int_lt_or (b.2 - 1) a.2 with k3 | k3
  all_goals
    first | rw [if_pos k3] | rw [if_neg (by omega)]
    go_enter Try.func108, Try.ntmps108
    go_wp2_with fail
    refine (h1.out _).mono ?_; rintro e w1 ⟨rfl, b1⟩
    have x1 := hx.out.after b1
    obtain ⟨p0, p1⟩ := x1.1.2.1.cells
    obtain ⟨q0, q1⟩ := x1.1.2.2.cells
    obtain ⟨c0, c1⟩ := x1.2.cells
    obtain ⟨f0, f1⟩ := x1.2.free
    have X1 := Lib.hid x1
    clear x1 hx b1
    go_wp2_with fail
    first
      | exact bodyPost_ret (v := sV (0, b.2 - 1)) (by simp [results, Try.results108, go_sem, c0, c1]) rfl ⟨rfl, (X1.out.set (0, b.2 - 1)).1.1⟩
      | exact bodyPost_ret (v := sV (0, a.2)) (by simp [results, Try.results108, go_sem, c0, c1]) rfl ⟨rfl, (X1.out.set (0, a.2)).1.1⟩

set_option maxRecDepth 100000 in
set_option maxHeartbeats 2000000 in
theorem sdo_and (a b : Sp) (w : World) (h : sRR a b = true) :
    Calls Try.prog 108 #[.int .u8 80, sV a, sV b] w (Gives (sV (0, min a.2 b.2)) w) := by
  have h1 := Lib.hid (sboth_says a b)
  rw [h] at h1
  have hx := Lib.hid (STrio.new a b w)
  have e2 : min a.2 b.2 = if b.2 < a.2 then b.2 else a.2 := by split <;> omega
  rw [e2]
  clear e2
  rcases int_lt_or b.2 a.2 with k3 | k3
  all_goals
    first | rw [if_pos k3] | rw [if_neg (by omega)]
    go_enter Try.func108, Try.ntmps108
    go_wp2_with fail
    refine (h1.out _).mono ?_; rintro e w1 ⟨rfl, b1⟩
    have x1 := hx.out.after b1
    obtain ⟨p0, p1⟩ := x1.1.2.1.cells
    obtain ⟨q0, q1⟩ := x1.1.2.2.cells
    obtain ⟨c0, c1⟩ := x1.2.cells
    obtain ⟨f0, f1⟩ := x1.2.free
    have X1 := Lib.hid x1
    clear x1 hx b1
    go_wp2_with fail
    first
      | exact bodyPost_ret (v := sV (0, b.2)) (by simp [results, Try.results108, go_sem, c0, c1]) rfl ⟨rfl, (X1.out.set (0, b.2)).1.1⟩
      | exact bodyPost_ret (v := sV (0, a.2)) (by simp [results, Try.results108, go_sem, c0, c1]) rfl ⟨rfl, (X1.out.set (0, a.2)).1.1⟩

set_option maxRecDepth 100000 in
set_option maxHeartbeats 2000000 in
theorem sdo_rsh (a b : Sp) (w : World) (ha : sIn a) (hb : sIn b) (h : sRR a b = true) (hz : b.2 < 64) :
    Calls Try.prog 108 #[.int .u8 112, sV a, sV b] w (Gives (sV (a.1 / 2 ^ b.2.toNat, a.2 / 2 ^ b.1.toNat)) w) := by
  have h1 := Lib.hid (sboth_says a b)
  rw [h] at h1
  obtain ⟨ra, rb⟩ := sRR_true h
  have hx := Lib.hid (STrio.new a b w)
  unfold sIn In64 at ha hb
  obtain ⟨⟨a1, a2⟩, a3, a4⟩ := ha
  obtain ⟨⟨b1, b2⟩, b3, b4⟩ := hb
  go_enter Try.func108, Try.ntmps108
  go_wp2_with fail
  refine (h1.out _).mono ?_; rintro e w1 ⟨rfl, b1⟩
  have x1 := hx.out.after b1
  obtain ⟨p0, p1⟩ := x1.1.2.1.cells
  obtain ⟨q0, q1⟩ := x1.1.2.2.cells
  obtain ⟨c0, c1⟩ := x1.2.cells
  obtain ⟨f0, f1⟩ := x1.2.free
  have X1 := Lib.hid x1
  clear x1 hx b1
  go_wp2_with fail
  exact bodyPost_ret (v := sV (a.1 / 2 ^ b.2.toNat, a.2 / 2 ^ b.1.toNat)) (by simp [results, Try.results108, go_sem, c0, c1]) rfl ⟨rfl, (X1.out.set (a.1 / 2 ^ b.2.toNat, a.2 / 2 ^ b.1.toNat)).1.1⟩

end Go.Proofs.Ytfepokiibdkoeaa


/-
  span.Do, of whatever op and spans.
  Conditions: the numbers fit their kinds.
-/
namespace Go.Proofs.Ytfepokiibdkoeaa
open Go.RowKit
set_option linter.unusedVariables false

theorem sdo_says (op : Int) (a b : Sp) (w : World) (ha : sIn a) (hb : sIn b) : Calls Try.prog 108 #[.int .u8 op, sV a, sV b] w (Gives (sV (sDo op a b)) w) := by
  unfold sDo
  cases h : sRR a b
  · exact sdo_bad op a b w h
  · rw [if_pos rfl]
    by_cases h0 : op = 0 ∨ op = 16 ∨ op = 32
    · exact sdo_calls op a b w ha hb h h0
    · unfold sDo'
      rw [if_neg (by omega), if_neg (by omega), if_neg (by omega)]
      by_cases h1 : op = 48
      · subst h1
        by_cases hz : b.1 = 0
        · rw [if_neg (by omega), if_neg (by omega), if_neg (by omega), if_neg (by omega)]
          exact sdo_div0 a b hz w h
        · rw [if_pos ⟨rfl, hz⟩]
          exact sdo_div a b w ha hb h hz
      · rw [if_neg (by omega)]
        by_cases h2 : op = 144
        · subst h2
          by_cases hz : b.1 = 0
          · rw [if_neg (by omega), if_neg (by omega), if_neg (by omega)]
            exact sdo_mod0 a b hz w h
          · rw [if_pos ⟨rfl, hz⟩]
            exact sdo_mod a b w ha hb h hz
        · rw [if_neg (by omega)]
          by_cases h3 : op = 80
          · subst h3
            rw [if_pos rfl]
            exact sdo_and a b w h
          · rw [if_neg h3]
            by_cases h4 : op = 112
            · subst h4
              by_cases hz : b.2 < 64
              · rw [if_pos ⟨rfl, hz⟩]
                exact sdo_rsh a b w ha hb h hz
              · rw [if_neg (by omega)]
                exact sdo_rsh64 a b (by omega) w h
            · rw [if_neg (by omega)]
              exact sdo_none op a b (by omega) (by omega) (by omega) h1 h2 h3 h4 w h

end Go.Proofs.Ytfepokiibdkoeaa


/-
  The program's fact: Join, parts.
  Conditions: the numbers fit their kinds.
-/
namespace Go.Proofs.Ytfepokiibdkoeaa
open Go.RowKit
set_option linter.unusedVariables false

set_option maxHeartbeats 2000000 in
theorem fp_join (a b : Fc) (w : World) (ha : fIn a) (hb : fIn b) : Calls Try.prog 28 #[fV a, fV b] w (Gives (fV (fJ a b)) w) := by
  have R1 := Lib.hid fun w => fp_both a b w ha hb
  have J1 := Lib.hid (join_says a.1 b.1)
  have J2 := Lib.hid (sjoin_says a.2 b.2)
  have S := Lib.hid fun w => fp_settle (tJ a.1 b.1, sJ a.2 b.2) w (sJ_in ha hb)
  unfold fJ
  cases h1 : (fR a && fR b)
  · rw [h1] at R1
    clear h1 S J1 J2
    have hx := Lib.hid (FTri.new a b fZ w)
    show Calls _ _ _ _ (Gives (fV fZ) w)
    go_enter Try.func28, Try.ntmps28
    go_wp2_with fail
    refine (R1.out _).mono ?_; rintro e w1 ⟨rfl, b1⟩
    have x1 := hx.out.after b1
    obtain ⟨e0, e1, e2, e3⟩ := x1.2.cells
    obtain ⟨g0, g1, g2, g3⟩ := x1.2.free
    have XE := Lib.hid (x1.set fZ)
    clear x1 hx b1
    go_wp2_with fail
    exact bodyPost_ret (v := fV fZ) (by simp [results, Try.results28, go_sem, e0, e1, e2, e3, fZ]) rfl ⟨rfl, XE.out.1.1⟩
  · rw [h1] at R1
    exact fp_join_run a b _ _ _ _ w R1 J1 J2 S

theorem FTri.far2 {a b r : Fc} {w u : World} {k : Nat} (h : FTri a b r w u) (hk : w.heap.size + 1 + 1 < k) (p q : Value) : FTri a b r w ((u.setCell ⟨k, 0, none⟩ p).setCell ⟨k, 1, none⟩ q) :=
  ⟨h.1.far (by omega) p q, (h.2.other _ (by omega)).other _ (by omega)⟩

set_option maxRecDepth 100000 in
set_option maxHeartbeats 4000000 in
theorem fp_parts_yes (op : Int) (x y : Fc) (t : Tn) (s : Sp) (g : Fc) (k : Bool) (w : World)
    (D1 : Hid (∀ w, Calls Try.prog 107 #[.int .u8 op, tV x.1, tV y.1] w (Gives (tBV t true) w)))
    (D2 : Hid (∀ w, Calls Try.prog 108 #[.int .u8 op, sV x.2, sV y.2] w (Gives (sV s) w)))
    (S : Hid (∀ w, Calls Try.prog 12 #[fV (t, s)] w (Gives (fBV g k) w))) :
    Calls Try.prog 94 #[.int .u8 op, fV x, fV y] w (Gives (fV g) w) := by
  have hx := Lib.hid (FTri.new x y fZ w)
  go_enter Try.func94, Try.ntmps94
  go_wp2_with fail
  refine (D1.out _).mono ?_; rintro e w1 ⟨rfl, b1⟩
  have x1 := hx.out.after b1
  have TT := Lib.hid (Box.new w1 t rfl)
  have X2 := Lib.hid (x1.alloc (.cells #[uV t.1, uV t.2] 24))
  clear hx b1 x1
  go_wp2_with fail
  generalize w1.heap.size = gs at *
  generalize w1.alloc (.cells #[uV t.1, uV t.2] 24) = w2 at *
  generalize HW : w2.heap.size = n2 at *
  subst HW
  have HB : Below w2.heap.size w2 w2.drew := Below.drew (Below.refl _ _)
  have KK := Lib.hid (fun (wx : World) (hx : Below w2.heap.size w2 wx) => And.intro (TT.out.after hx).cells (And.intro (And.intro (X2.out.after hx).1.2.1.cells.2.2.1 (X2.out.after hx).1.2.1.cells.2.2.2) (And.intro (X2.out.after hx).1.2.2.cells.2.2.1 (X2.out.after hx).1.2.2.cells.2.2.2)))
  have HA : Below w2.heap.size w2 ((w2.alloc (.cells #[.int .u64 0, .int .u64 0, .int .u64 0, .int .u64 0] 28)).drew) := Below.drew (below_alloc (Below.refl _ _) _)
  have z1 := X2.out.2.lt
  go_region_held3 (fun w' => (w'.cell? ⟨gs, 0, none⟩ = some (uV t.1) ∧ w'.cell? ⟨gs, 1, none⟩ = some (uV t.2)) ∧ (w'.cell? ⟨w.heap.size, 2, none⟩ = some (.int .u64 x.2.1) ∧ w'.cell? ⟨w.heap.size, 3, none⟩ = some (.int .u64 x.2.2)) ∧
      w'.cell? ⟨w.heap.size + 1, 2, none⟩ = some (.int .u64 y.2.1) ∧ w'.cell? ⟨w.heap.size + 1, 3, none⟩ = some (.int .u64 y.2.2))
    (first
      | exact KK.out _ HB
      | exact KK.out _ (Below.drew HB)
      | exact KK.out _ (below_alloc HB _)
      | exact KK.out _ (Below.drew (below_alloc HB _))
      | exact KK.out _ (below_alloc (Below.drew HB) _)
      | exact KK.out _ (below_four HB (by omega) g)
      | exact KK.out _ HA)
    (first
      | (go_at_call 108; refine (D2.out _).mono ?_; rintro e w6 ⟨rfl, hb6⟩;
         (first | have TB := nB.made hb6 | have TB := (show nB w2.heap.size w6 from nB.made (w := w2.drew) hb6) | skip);
         (first | replace HB := below_next' HB hb6 | replace HB := below_next' (below_alloc HB _) hb6); clear hb6; have n6 := HB.size)
      | (go_at_call 12; refine (S.out _).mono ?_; rintro e w7 ⟨rfl, hb7⟩;
         (first | replace TB := nB.after TB hb7 | have TB := nB.made hb7 | skip);
         (first | replace HB := below_next' HB hb7 | replace HB := below_next' (below_alloc HB _) hb7); clear hb7; have n7 := HB.size; (try obtain ⟨t0, t1, t2, t3⟩ := TB.cells); (try obtain ⟨f0, f1, f2, f3⟩ := TB.free)))
  all_goals
    rename_i hh
    clear hh
    have x7 := X2.out.after HB
    first
      | (have TU := Lib.hid (fB.set (show fB w6.heap.size fZ w7 from TB) g)
         have XU := Lib.hid (x7.far (k := w6.heap.size) (by omega) g)
         clear TB HB KK HA x7
         generalize w6.heap.size = gt at *
         generalize (World.setCell (World.setCell (World.setCell (World.setCell w7 ⟨gt, 0, none⟩ (uV g.1.1)) ⟨gt, 1, none⟩ (uV g.1.2)) ⟨gt, 2, none⟩ (.int .u64 g.2.1)) ⟨gt, 3, none⟩ (.int .u64 g.2.2)) = u at TU XU ⊢)
      | (have TU := Lib.hid (fB.set (show fB w2.heap.size fZ w7 from TB) g)
         have XU := Lib.hid (x7.far (k := w2.heap.size) (by omega) g)
         clear TB HB KK HA x7
         generalize w2.heap.size = gt at *
         generalize (World.setCell (World.setCell (World.setCell (World.setCell w7 ⟨gt, 0, none⟩ (uV g.1.1)) ⟨gt, 1, none⟩ (uV g.1.2)) ⟨gt, 2, none⟩ (.int .u64 g.2.1)) ⟨gt, 3, none⟩ (.int .u64 g.2.2)) = u at TU XU ⊢)
      | (have TU := Lib.hid (fB.new w7 g rfl)
         have XU := Lib.hid (x7.alloc (.cells (fCells g) 28))
         clear HB KK HA x7
         generalize w7.heap.size = gt at *
         generalize World.alloc w7 (.cells (fCells g) 28) = u at TU XU ⊢)
    all_goals
      clear X2
      obtain ⟨u0, u1, u2, u3⟩ := TU.out.cells
      obtain ⟨e0, e1, e2, e3⟩ := XU.out.2.cells
      obtain ⟨g0, g1, g2, g3⟩ := XU.out.2.free
      have XE := Lib.hid (XU.out.set g)
      clear XU TU
      go_wp2_with fail
      exact bodyPost_ret (v := fV g) (by simp [results, Try.results94, go_sem, e0, e1, e2, e3]) rfl ⟨rfl, XE.out.1.1⟩

set_option maxRecDepth 100000 in
set_option maxHeartbeats 4000000 in
theorem fp_parts_no (op : Int) (x y : Fc) (t0 t : Tn) (s : Sp) (g : Fc) (k : Bool) (w : World)
    (D1 : Hid (∀ w, Calls Try.prog 107 #[.int .u8 op, tV x.1, tV y.1] w (Gives (tBV t0 false) w)))
    (U : Hid (∀ w, Calls Try.prog 43 #[] w (Gives (tV t) w)))
    (D2 : Hid (∀ w, Calls Try.prog 108 #[.int .u8 op, sV x.2, sV y.2] w (Gives (sV s) w)))
    (S : Hid (∀ w, Calls Try.prog 12 #[fV (t, s)] w (Gives (fBV g k) w))) :
    Calls Try.prog 94 #[.int .u8 op, fV x, fV y] w (Gives (fV g) w) := by
  have hx := Lib.hid (FTri.new x y fZ w)
  go_enter Try.func94, Try.ntmps94
  go_wp2_with fail
  refine (D1.out _).mono ?_; rintro e w1 ⟨rfl, b1⟩
  have x1 := hx.out.after b1
  have TT0 := Lib.hid (Box.new w1 t0 rfl)
  have X0 := Lib.hid (x1.alloc (.cells #[uV t0.1, uV t0.2] 24))
  have kgs := x1.2.lt
  clear hx b1 x1
  go_wp2_with fail
  generalize w1.heap.size = gs at *
  generalize w1.alloc (.cells #[uV t0.1, uV t0.2] 24) = w3 at *
  refine (U.out _).mono ?_; rintro e w4 ⟨rfl, b4⟩
  have x4 := X0.out.after b4
  have tt4 := TT0.out.after b4
  obtain ⟨c0, c1⟩ := tt4.cells
  obtain ⟨h0, h1⟩ := tt4.free
  have TT := Lib.hid (tt4.set t)
  have X2 := Lib.hid (x4.far2 (k := gs) (by omega) (uV t.1) (uV t.2))
  clear X0 TT0 b4 x4 tt4
  go_wp2_with fail
  clear c0 c1 h0 h1
  generalize (World.setCell (World.setCell w4 ⟨gs, 0, none⟩ (uV t.1)) ⟨gs, 1, none⟩ (uV t.2)) = w2 at *
  generalize HW : w2.heap.size = n2 at *
  subst HW
  have HB : Below w2.heap.size w2 w2.drew := Below.drew (Below.refl _ _)
  have KK := Lib.hid (fun (wx : World) (hx : Below w2.heap.size w2 wx) => And.intro (TT.out.after hx).cells (And.intro (And.intro (X2.out.after hx).1.2.1.cells.2.2.1 (X2.out.after hx).1.2.1.cells.2.2.2) (And.intro (X2.out.after hx).1.2.2.cells.2.2.1 (X2.out.after hx).1.2.2.cells.2.2.2)))
  have HA : Below w2.heap.size w2 ((w2.alloc (.cells #[.int .u64 0, .int .u64 0, .int .u64 0, .int .u64 0] 28)).drew) := Below.drew (below_alloc (Below.refl _ _) _)
  have z1 := X2.out.2.lt
  go_region_held3 (fun w' => (w'.cell? ⟨gs, 0, none⟩ = some (uV t.1) ∧ w'.cell? ⟨gs, 1, none⟩ = some (uV t.2)) ∧ (w'.cell? ⟨w.heap.size, 2, none⟩ = some (.int .u64 x.2.1) ∧ w'.cell? ⟨w.heap.size, 3, none⟩ = some (.int .u64 x.2.2)) ∧
      w'.cell? ⟨w.heap.size + 1, 2, none⟩ = some (.int .u64 y.2.1) ∧ w'.cell? ⟨w.heap.size + 1, 3, none⟩ = some (.int .u64 y.2.2))
    (first
      | exact KK.out _ HB
      | exact KK.out _ (Below.drew HB)
      | exact KK.out _ (below_alloc HB _)
      | exact KK.out _ (Below.drew (below_alloc HB _))
      | exact KK.out _ (below_alloc (Below.drew HB) _)
      | exact KK.out _ (below_four HB (by omega) g)
      | exact KK.out _ HA)
    (first
      | (go_at_call 108; refine (D2.out _).mono ?_; rintro e w6 ⟨rfl, hb6⟩;
         (first | have TB := nB.made hb6 | have TB := (show nB w2.heap.size w6 from nB.made (w := w2.drew) hb6) | skip);
         (first | replace HB := below_next' HB hb6 | replace HB := below_next' (below_alloc HB _) hb6); clear hb6; have n6 := HB.size)
      | (go_at_call 12; refine (S.out _).mono ?_; rintro e w7 ⟨rfl, hb7⟩;
         (first | replace TB := nB.after TB hb7 | have TB := nB.made hb7 | skip);
         (first | replace HB := below_next' HB hb7 | replace HB := below_next' (below_alloc HB _) hb7); clear hb7; have n7 := HB.size; (try obtain ⟨t0, t1, t2, t3⟩ := TB.cells); (try obtain ⟨f0, f1, f2, f3⟩ := TB.free)))
  all_goals
    rename_i hh
    clear hh
    have x7 := X2.out.after HB
    first
      | (have TU := Lib.hid (fB.set (show fB w6.heap.size fZ w7 from TB) g)
         have XU := Lib.hid (x7.far (k := w6.heap.size) (by omega) g)
         clear TB HB KK HA x7
         generalize w6.heap.size = gt at *
         generalize (World.setCell (World.setCell (World.setCell (World.setCell w7 ⟨gt, 0, none⟩ (uV g.1.1)) ⟨gt, 1, none⟩ (uV g.1.2)) ⟨gt, 2, none⟩ (.int .u64 g.2.1)) ⟨gt, 3, none⟩ (.int .u64 g.2.2)) = u at TU XU ⊢)
      | (have TU := Lib.hid (fB.set (show fB w2.heap.size fZ w7 from TB) g)
         have XU := Lib.hid (x7.far (k := w2.heap.size) (by omega) g)
         clear TB HB KK HA x7
         generalize w2.heap.size = gt at *
         generalize (World.setCell (World.setCell (World.setCell (World.setCell w7 ⟨gt, 0, none⟩ (uV g.1.1)) ⟨gt, 1, none⟩ (uV g.1.2)) ⟨gt, 2, none⟩ (.int .u64 g.2.1)) ⟨gt, 3, none⟩ (.int .u64 g.2.2)) = u at TU XU ⊢)
      | (have TU := Lib.hid (fB.new w7 g rfl)
         have XU := Lib.hid (x7.alloc (.cells (fCells g) 28))
         clear HB KK HA x7
         generalize w7.heap.size = gt at *
         generalize World.alloc w7 (.cells (fCells g) 28) = u at TU XU ⊢)
    all_goals
      clear X2
      obtain ⟨u0, u1, u2, u3⟩ := TU.out.cells
      obtain ⟨e0, e1, e2, e3⟩ := XU.out.2.cells
      obtain ⟨g0, g1, g2, g3⟩ := XU.out.2.free
      have XE := Lib.hid (XU.out.set g)
      clear XU TU
      go_wp2_with fail
      exact bodyPost_ret (v := fV g) (by simp [results, Try.results94, go_sem, e0, e1, e2, e3]) rfl ⟨rfl, XE.out.1.1⟩

theorem fp_parts (op : Int) (x y : Fc) (w : World) (hx : fIn x) (hy : fIn y) : Calls Try.prog 94 #[.int .u8 op, fV x, fV y] w (Gives (fV (fA op x y)) w) := by
  have D1 := Lib.hid (do_says op x.1 y.1)
  have D2 := Lib.hid fun w => sdo_says op x.2 y.2 w hx hy
  have S := Lib.hid fun w => fp_settle (fT op x.1 y.1, sDo op x.2 y.2) w (sDo_in hx hy)
  have e : fA op x y = (fS (fT op x.1 y.1, sDo op x.2 y.2)).getD fZ := rfl
  rw [e]
  clear e
  cases h : tDok op x.1 y.1
  · have e2 : fT op x.1 y.1 = (0#64, BitVec.allOnes 64) := by unfold fT; rw [h]; rfl
    rw [h] at D1
    exact fp_parts_no op x y _ (fT op x.1 y.1) _ _ _ w D1 (Lib.hid fun w => by
      have h3 := fp_unknown w
      rw [e2]
      exact h3) D2 S
  · have e2 : fT op x.1 y.1 = tDo op x.1 y.1 := by unfold fT; rw [h]; rfl
    rw [h] at D1
    rw [← e2] at D1
    exact fp_parts_yes op x y _ _ _ _ w D1 D2 S

end Go.Proofs.Ytfepokiibdkoeaa


/-
  What contracts of layer 2's arithmetic answer, named; which ops there are.
  Conditions: none.
-/
namespace Go.Proofs.Ytfepokiibdkoeaa
open Go.RowKit
set_option linter.unusedVariables false

theorem ret_int {k : IntKind} {a b : Int} (h : a = b) : Ending.returned (.int k a) = .returned (.int k b) := by rw [h]
theorem ret_two {k l : IntKind} {a b c d : Int} (h : a = b) (h' : c = d) : Ending.returned (.tuple #[.int k a, .int l c]) = .returned (.tuple #[.int k b, .int l d]) := by rw [h, h']

theorem ret_bool {a b : Bool} (h : a = b) : Ending.returned (.bool a) = .returned (.bool b) := by rw [h]

def Parted (q r : Int) (w : World) (e : Ending) (w' : World) : Prop := e = .returned (.tuple #[.int .u64 q, .int .u64 r]) ∧ ∃ n, w' = w.drewN n

/-- Op is none of those that there are. -/
def NoOp (op : Int) : Prop := (op ≠ 0 ∧ op ≠ 16 ∧ op ≠ 32 ∧ op ≠ 64 ∧ op ≠ 80 ∧ op ≠ 160 ∧ op ≠ 96) ∧ (op ≠ 112 ∧ op ≠ 192 ∧ op ≠ 128 ∧ op ≠ 48 ∧ op ≠ 144 ∧ op ≠ 176)
theorem noOp_fits {op off : Int} {wide : Bool} (h : NoOp op) : aluFits op wide off = false := by
  obtain ⟨⟨a1, a2, a3, a4, a5, a6, a7⟩, a8, a9, a10, a11, a12, a13⟩ := h
  unfold aluFits
  rw [if_neg (by omega), if_neg (by omega), if_neg (by omega)]

theorem op_cases (op : Int) : (op = 48 ∨ op = 144) ∨ op = 176 ∨ (op = 0 ∨ op = 16 ∨ op = 32 ∨ op = 64 ∨ op = 80 ∨ op = 160 ∨ op = 96 ∨ op = 112 ∨ op = 192 ∨ op = 128) ∨ NoOp op := by
  unfold NoOp
  by_cases h1 : op = 48 ∨ op = 144
  · exact .inl h1
  · by_cases h2 : op = 176
    · exact .inr (.inl h2)
    · by_cases h3 : op = 0 ∨ op = 16 ∨ op = 32 ∨ op = 64 ∨ op = 80 ∨ op = 160 ∨ op = 96 ∨ op = 112 ∨ op = 192 ∨ op = 128
      · exact .inr (.inr (.inl h3))
      · refine .inr (.inr (.inr ?_))
        simp only [not_or] at h1 h3
        simp [h1, h2, h3]

/-- A number and an error's number, and draws. -/
def Did (v k : Int) (w : World) (e : Ending) (w' : World) : Prop := e = .returned (.tuple #[.int .u64 v, .int .i64 k]) ∧ ∃ n, w' = w.drewN n

end Go.Proofs.Ytfepokiibdkoeaa


/-
  What package alu does, as contracts over its translated bodies.
  Conditions: the numbers fit their kinds.
-/
namespace Go.Proofs.Ytfepokiibdkoeaa
open Go.RowKit
set_option linter.unusedVariables false

theorem cut_any (n k : Int) (w : World) (h : 0 ≤ n) (h1 : 1 ≤ k) (h2 : k ≤ 64) :
    Calls Try.prog 92 #[.int .u64 n, .int .i64 k] w fun e w' => e = .returned (.int .u64 (n % 2 ^ k.toNat)) ∧ w = w' := by
  go_enter Try.func92, Try.ntmps92
  go_wp2
  go_ret
  exact ⟨ret_int (by rw [IntKind.wrap_u64, up_down n k (by omega) h2]), rfl⟩
theorem cut_16 (n : Int) (w : World) (h : 0 ≤ n) :
    Calls Try.prog 92 #[.int .u64 n, .int .i64 16] w fun e w' => e = .returned (.int .u64 (n % 65536)) ∧ w = w' := cut_any n 16 w h (by decide) (by decide)
theorem cut_32 (n : Int) (w : World) (h : 0 ≤ n) :
    Calls Try.prog 92 #[.int .u64 n, .int .i64 32] w fun e w' => e = .returned (.int .u64 (n % 4294967296)) ∧ w = w' := cut_any n 32 w h (by decide) (by decide)
theorem cut_64 (n : Int) (w : World) (h : 0 ≤ n) :
    Calls Try.prog 92 #[.int .u64 n, .int .i64 64] w fun e w' => e = .returned (.int .u64 (n % 18446744073709551616)) ∧ w = w' := cut_any n 64 w h (by decide) (by decide)

theorem sign_any (n k : Int) (w : World) (h : 0 ≤ n) (h' : n ≤ 18446744073709551615) :
    Calls Try.prog 97 #[.int .u64 n, .int .i64 k] w fun e w' => e = .returned (.int .u64 (signW n k)) ∧ w = w' := by
  by_cases h1 : 1 ≤ k
  · by_cases h2 : k ≤ 64
    · go_enter Try.func97, Try.ntmps97
      go_wp2
      go_ret
      exact ⟨ret_int (by unfold signW; rw [if_pos ⟨h1, h2⟩, IntKind.wrap_u64, IntKind.wrap_u64, up_down_signed n k h1 h2]), rfl⟩
    · go_enter Try.func97, Try.ntmps97
      go_wp2
      go_ret
      exact ⟨ret_int (by unfold signW; rw [if_neg (by omega)]), rfl⟩
  · go_enter Try.func97, Try.ntmps97
    go_wp2
    go_ret
    exact ⟨ret_int (by unfold signW; rw [if_neg (by omega)]), rfl⟩

/-! Division of four kinds of numbers. -/
theorem div_u64 (a b : Int) (w : World) (h : 0 ≤ a) (h' : a ≤ 18446744073709551615) (h1 : 0 ≤ b) (h1' : b ≤ 18446744073709551615) :
    Calls Try.prog 118 #[.int .u64 a, .int .u64 b] w (Parted (a / b % 18446744073709551616) (a % b % 18446744073709551616) w) := by
  by_cases hb : b = 0
  · subst hb
    go_enter Try.func118, Try.ntmps118
    go_wp2
    go_ret2
    exact ⟨ret_two (by simp) (by simp; omega), 0, rfl⟩
  · have h2 : 1 ≤ b := by omega
    have hq := Int.ediv_le_self b h
    have hq0 := Int.ediv_nonneg h h1
    have hr := Int.emod_nonneg a hb
    have hr' := Int.emod_lt_of_pos a (b := b) (by omega)
    have e1 := Lib.hid (Int.emod_eq_of_lt hq0 (b := 18446744073709551616) (by omega)).symm
    have e2 := Lib.hid (Int.emod_eq_of_lt hr (b := 18446744073709551616) (by omega)).symm
    clear hq hq0 hr hr' hb
    go_enter Try.func118, Try.ntmps118
    go_wp2
    go_quiet (fail)
    go_wp2
    go_ret2
    exact ⟨ret_two e1.out e2.out, _, rfl⟩

theorem div_u32 (a b : Int) (w : World) (h : 0 ≤ a) (h' : a ≤ 4294967295) (h1 : 0 ≤ b) (h1' : b ≤ 4294967295) :
    Calls Try.prog 120 #[.int .u64 a, .int .u64 b] w (Parted (a / b % 18446744073709551616) (a % b % 18446744073709551616) w) := by
  have ha : a % 4294967296 = a := by omega
  have hbb : b % 4294967296 = b := by omega
  by_cases hb : b = 0
  · subst hb
    go_enter Try.func120, Try.ntmps120
    go_wp2
    go_ret2
    exact ⟨ret_two (by simp) (by simp; omega), 0, rfl⟩
  · have h2 : 1 ≤ b := by omega
    have hq := Int.ediv_le_self b h
    have hq0 := Int.ediv_nonneg h h1
    have hr := Int.emod_nonneg a hb
    have hr' := Int.emod_lt_of_pos a (b := b) (by omega)
    have e1 := Lib.hid (Int.emod_eq_of_lt hq0 (b := 18446744073709551616) (by omega)).symm
    have e2 := Lib.hid (Int.emod_eq_of_lt hr (b := 18446744073709551616) (by omega)).symm
    clear hq hq0 hr hr' hb
    go_enter Try.func120, Try.ntmps120
    go_wp2
    go_quiet (fail)
    go_wp2
    go_ret2
    exact ⟨ret_two (by rw [IntKind.wrap_u64]) (by rw [IntKind.wrap_u64]), _, rfl⟩

theorem div_i64 (a b : Int) (w : World) :
    Calls Try.prog 117 #[.int .u64 a, .int .u64 b] w (Parted ((wrap64 a).tdiv (wrap64 b) % 18446744073709551616) ((wrap64 a).tmod (wrap64 b) % 18446744073709551616) w) := by
  generalize e1 : wrap64 a = x
  generalize e2 : wrap64 b = y
  by_cases hy : y = 0
  · subst hy
    go_enter Try.func117, Try.ntmps117
    go_wp2
    go_ret2
    exact ⟨ret_two (by simp) (by rw [Int.tmod_zero, IntKind.wrap_u64]), 0, rfl⟩
  · have h4 : (y == 0) = false := by simpa using hy
    go_enter Try.func117, Try.ntmps117
    go_wp2
    go_quiet (fail)
    go_wp2
    go_ret2
    exact ⟨ret_two (by rw [IntKind.wrap_u64]; unfold wrap64; omega) (by rw [IntKind.wrap_u64]), _, rfl⟩

theorem div_i32 (a b : Int) (w : World) :
    Calls Try.prog 119 #[.int .u64 a, .int .u64 b] w
      (Parted (wrap32 ((wrap32 a).tdiv (wrap32 b)) % 18446744073709551616) ((wrap32 a).tmod (wrap32 b) % 18446744073709551616) w) := by
  have e1' : IntKind.i32.wrap a = wrap32 a := by simp [IntKind.wrap, IntKind.bits, IntKind.signed, wrap32]; split <;> omega
  have e2' : IntKind.i32.wrap b = wrap32 b := by simp [IntKind.wrap, IntKind.bits, IntKind.signed, wrap32]; split <;> omega
  generalize e1 : wrap32 a = x
  generalize e2 : wrap32 b = y
  rw [e1] at e1'
  rw [e2] at e2'
  clear e1 e2
  by_cases hy : y = 0
  · subst hy
    go_enter Try.func119, Try.ntmps119
    go_wp2
    go_ret2
    exact ⟨ret_two (by simp [wrap32]) (by rw [Int.tmod_zero, IntKind.wrap_u64]), 0, rfl⟩
  · have h4 : (y == 0) = false := by simpa using hy
    go_enter Try.func119, Try.ntmps119
    go_wp2
    go_quiet (fail)
    go_wp2
    go_ret2
    exact ⟨ret_two (by rw [IntKind.wrap_u64]) (by rw [IntKind.wrap_u64]), _, rfl⟩

theorem divided_0_64 (x y : Int) (hx : 0 ≤ x) (hy : 0 ≤ y) (hx' : x ≤ 18446744073709551615) (hy' : y ≤ 18446744073709551615) (w : World) :
    Calls Try.prog 105 #[.int .i64 64, .bool false, .int .u64 x, .int .u64 y] w (Parted (aluZ true 48 0 x y % 18446744073709551616) (aluZ true 144 0 x y % 18446744073709551616) w) := by
  go_enter Try.func105, Try.ntmps105
  go_wp2_with (go_at_call 118; refine (div_u64 _ _ _ (by omega) (by omega) (by omega) (by omega)).mono ?_; rintro e w' ⟨rfl, n, rfl⟩)
  go_ret2
  exact ⟨rfl, n, rfl⟩
theorem divided_1_64 (x y : Int) (hx : 0 ≤ x) (hy : 0 ≤ y) (hx' : x ≤ 18446744073709551615) (hy' : y ≤ 18446744073709551615) (w : World) :
    Calls Try.prog 105 #[.int .i64 64, .bool true, .int .u64 x, .int .u64 y] w (Parted (aluZ true 48 1 x y % 18446744073709551616) (aluZ true 144 1 x y % 18446744073709551616) w) := by
  go_enter Try.func105, Try.ntmps105
  go_wp2_with (go_at_call 117; refine (div_i64 _ _ _).mono ?_; rintro e w' ⟨rfl, n, rfl⟩)
  go_ret2
  exact ⟨ret_two (by show _ = wrap64 ((wrap64 x).tdiv (wrap64 y)) % 18446744073709551616; generalize (wrap64 x).tdiv (wrap64 y) = q; unfold wrap64; omega) rfl, n, rfl⟩
theorem divided_0_32 (x y : Int) (hx : 0 ≤ x) (hy : 0 ≤ y) (hx' : x ≤ 4294967295) (hy' : y ≤ 4294967295) (w : World) :
    Calls Try.prog 105 #[.int .i64 32, .bool false, .int .u64 x, .int .u64 y] w (Parted (aluZ false 48 0 x y % 18446744073709551616) (aluZ false 144 0 x y % 18446744073709551616) w) := by
  go_enter Try.func105, Try.ntmps105
  go_wp2_with (go_at_call 120; refine (div_u32 _ _ _ (by omega) (by omega) (by omega) (by omega)).mono ?_; rintro e w' ⟨rfl, n, rfl⟩)
  go_ret2
  exact ⟨rfl, n, rfl⟩
theorem divided_1_32 (x y : Int) (hx : 0 ≤ x) (hy : 0 ≤ y) (hx' : x ≤ 4294967295) (hy' : y ≤ 4294967295) (w : World) :
    Calls Try.prog 105 #[.int .i64 32, .bool true, .int .u64 x, .int .u64 y] w (Parted (aluZ false 48 1 x y % 18446744073709551616) (aluZ false 144 1 x y % 18446744073709551616) w) := by
  go_enter Try.func105, Try.ntmps105
  go_wp2_with (go_at_call 119; refine (div_i32 _ _ _).mono ?_; rintro e w' ⟨rfl, n, rfl⟩)
  go_ret2
  exact ⟨rfl, n, rfl⟩

end Go.Proofs.Ytfepokiibdkoeaa


/-
  What 'made' of package alu makes, op by op, at both widths.
  Conditions: the numbers are cut to the width.
-/
namespace Go.Proofs.Ytfepokiibdkoeaa
open Go.RowKit
set_option linter.unusedVariables false

set_option maxHeartbeats 1000000 in
theorem made_add_64 (x y : Int) (w : World) (hx : 0 ≤ x) (hx' : x ≤ 18446744073709551615) (hy : 0 ≤ y) (hy' : y ≤ 18446744073709551615) :
    Calls Try.prog 91 #[.int .u8 0, .int .i64 64, .int .i64 0, .int .u64 x, .int .u64 y] w fun e w' => e = .returned (.int .u64 (aluZ true 0 0 x y % 18446744073709551616)) ∧ w = w' := by
  go_enter Try.func91, Try.ntmps91
  go_wp2
  go_ret
  exact ⟨ret_int (by show _ = (x + y) % 18446744073709551616; first | (rw [IntKind.wrap_u64]) | omega), rfl⟩

set_option maxHeartbeats 1000000 in
theorem made_sub_64 (x y : Int) (w : World) (hx : 0 ≤ x) (hx' : x ≤ 18446744073709551615) (hy : 0 ≤ y) (hy' : y ≤ 18446744073709551615) :
    Calls Try.prog 91 #[.int .u8 16, .int .i64 64, .int .i64 0, .int .u64 x, .int .u64 y] w fun e w' => e = .returned (.int .u64 (aluZ true 16 0 x y % 18446744073709551616)) ∧ w = w' := by
  go_enter Try.func91, Try.ntmps91
  go_wp2
  go_ret
  exact ⟨ret_int (by show _ = (x - y) % 18446744073709551616; first | (rw [IntKind.wrap_u64]) | omega), rfl⟩

set_option maxHeartbeats 1000000 in
theorem made_mul_64 (x y : Int) (w : World) (hx : 0 ≤ x) (hx' : x ≤ 18446744073709551615) (hy : 0 ≤ y) (hy' : y ≤ 18446744073709551615) :
    Calls Try.prog 91 #[.int .u8 32, .int .i64 64, .int .i64 0, .int .u64 x, .int .u64 y] w fun e w' => e = .returned (.int .u64 (aluZ true 32 0 x y % 18446744073709551616)) ∧ w = w' := by
  go_enter Try.func91, Try.ntmps91
  go_wp2
  go_ret
  exact ⟨ret_int (by show _ = (x * y) % 18446744073709551616; rw [IntKind.wrap_u64]), rfl⟩

set_option maxHeartbeats 1000000 in
theorem made_or_64 (x y : Int) (w : World) (hx : 0 ≤ x) (hx' : x ≤ 18446744073709551615) (hy : 0 ≤ y) (hy' : y ≤ 18446744073709551615) :
    Calls Try.prog 91 #[.int .u8 64, .int .i64 64, .int .i64 0, .int .u64 x, .int .u64 y] w fun e w' => e = .returned (.int .u64 (aluZ true 64 0 x y % 18446744073709551616)) ∧ w = w' := by
  go_enter Try.func91, Try.ntmps91
  go_wp2
  go_ret
  exact ⟨ret_int (by show _ = ((x.toNat ||| y.toNat : Nat) : Int) % 18446744073709551616; rw [u64_or x y hx (by omega) hy (by omega)]; exact or_small x y (by omega) (by omega)), rfl⟩

set_option maxHeartbeats 1000000 in
theorem made_and_64 (x y : Int) (w : World) (hx : 0 ≤ x) (hx' : x ≤ 18446744073709551615) (hy : 0 ≤ y) (hy' : y ≤ 18446744073709551615) :
    Calls Try.prog 91 #[.int .u8 80, .int .i64 64, .int .i64 0, .int .u64 x, .int .u64 y] w fun e w' => e = .returned (.int .u64 (aluZ true 80 0 x y % 18446744073709551616)) ∧ w = w' := by
  go_enter Try.func91, Try.ntmps91
  go_wp2
  go_ret
  exact ⟨ret_int (by show _ = ((x.toNat &&& y.toNat : Nat) : Int) % 18446744073709551616; rw [u64_and x y hx (by omega) hy (by omega)]; exact and_small x y (by omega) (by omega)), rfl⟩

set_option maxHeartbeats 1000000 in
theorem made_xor_64 (x y : Int) (w : World) (hx : 0 ≤ x) (hx' : x ≤ 18446744073709551615) (hy : 0 ≤ y) (hy' : y ≤ 18446744073709551615) :
    Calls Try.prog 91 #[.int .u8 160, .int .i64 64, .int .i64 0, .int .u64 x, .int .u64 y] w fun e w' => e = .returned (.int .u64 (aluZ true 160 0 x y % 18446744073709551616)) ∧ w = w' := by
  go_enter Try.func91, Try.ntmps91
  go_wp2
  go_ret
  exact ⟨ret_int (by show _ = ((x.toNat ^^^ y.toNat : Nat) : Int) % 18446744073709551616; rw [u64_xor x y hx (by omega) hy (by omega)]; exact xor_small x y (by omega) (by omega)), rfl⟩

set_option maxHeartbeats 1000000 in
theorem made_lsh_64 (x y : Int) (w : World) (hx : 0 ≤ x) (hx' : x ≤ 18446744073709551615) (hy : 0 ≤ y) (hy' : y ≤ 18446744073709551615) :
    Calls Try.prog 91 #[.int .u8 96, .int .i64 64, .int .i64 0, .int .u64 x, .int .u64 y] w fun e w' => e = .returned (.int .u64 (aluZ true 96 0 x y % 18446744073709551616)) ∧ w = w' := by
  go_enter Try.func91, Try.ntmps91
  go_wp2
  go_ret
  exact ⟨ret_int (by show _ = (x * 2 ^ (y % 64).toNat) % 18446744073709551616; rw [IntKind.wrap_u64]), rfl⟩

set_option maxHeartbeats 1000000 in
theorem made_rsh_64 (x y : Int) (w : World) (hx : 0 ≤ x) (hx' : x ≤ 18446744073709551615) (hy : 0 ≤ y) (hy' : y ≤ 18446744073709551615) :
    Calls Try.prog 91 #[.int .u8 112, .int .i64 64, .int .i64 0, .int .u64 x, .int .u64 y] w fun e w' => e = .returned (.int .u64 (aluZ true 112 0 x y % 18446744073709551616)) ∧ w = w' := by
  go_enter Try.func91, Try.ntmps91
  go_wp2
  go_ret
  exact ⟨ret_int (by show _ = (x / 2 ^ (y % 64).toNat) % 18446744073709551616; exact shr_small x _ hx (by omega)), rfl⟩

set_option maxHeartbeats 1000000 in
theorem made_arsh_64 (x y : Int) (w : World) (hx : 0 ≤ x) (hx' : x ≤ 18446744073709551615) (hy : 0 ≤ y) (hy' : y ≤ 18446744073709551615) :
    Calls Try.prog 91 #[.int .u8 192, .int .i64 64, .int .i64 0, .int .u64 x, .int .u64 y] w fun e w' => e = .returned (.int .u64 (aluZ true 192 0 x y % 18446744073709551616)) ∧ w = w' := by
  go_enter Try.func91, Try.ntmps91
  go_wp2_with (go_at_call 97; refine (sign_any _ _ _ (by omega) (by omega)).mono ?_; rintro e w' ⟨rfl, rfl⟩)
  go_ret
  exact ⟨ret_int (by show _ = (sg true x / 2 ^ (y % 64).toNat) % 18446744073709551616; rw [IntKind.wrap_u64, signW_64, wrap64_low]; rfl), rfl⟩

set_option maxHeartbeats 1000000 in
theorem made_neg_64 (x y : Int) (w : World) (hx : 0 ≤ x) (hx' : x ≤ 18446744073709551615) (hy : 0 ≤ y) (hy' : y ≤ 18446744073709551615) :
    Calls Try.prog 91 #[.int .u8 128, .int .i64 64, .int .i64 0, .int .u64 x, .int .u64 y] w fun e w' => e = .returned (.int .u64 (aluZ true 128 0 x y % 18446744073709551616)) ∧ w = w' := by
  go_enter Try.func91, Try.ntmps91
  go_wp2
  go_ret
  exact ⟨ret_int (by show _ = (-x) % 18446744073709551616; rw [IntKind.wrap_u64]), rfl⟩

set_option maxHeartbeats 1000000 in
theorem made_mov_64 (x y : Int) (off : Int) (w : World) (hx : 0 ≤ x) (hx' : x ≤ 18446744073709551615) (hy : 0 ≤ y) (hy' : y ≤ 18446744073709551615) :
    Calls Try.prog 91 #[.int .u8 176, .int .i64 64, .int .i64 off, .int .u64 x, .int .u64 y] w fun e w' => e = .returned (.int .u64 (aluZ true 176 off x y % 18446744073709551616)) ∧ w = w' := by
  go_enter Try.func91, Try.ntmps91
  go_wp2_with (go_at_call 97; refine (sign_any _ _ _ (by omega) (by omega)).mono ?_; rintro e w' ⟨rfl, rfl⟩)
  go_ret
  exact ⟨ret_int (by show _ = signW y off % 18446744073709551616; have := signW_range y off hy (by omega); omega), rfl⟩

set_option maxHeartbeats 1000000 in
theorem made_div0_64 (x y : Int) (w : World) (hx : 0 ≤ x) (hx' : x ≤ 18446744073709551615) (hy : 0 ≤ y) (hy' : y ≤ 18446744073709551615) :
    Calls Try.prog 91 #[.int .u8 48, .int .i64 64, .int .i64 0, .int .u64 x, .int .u64 y] w fun e w' => e = .returned (.int .u64 (aluZ true 48 0 x y % 18446744073709551616)) ∧ ∃ n, w' = w.drewN n := by
  go_enter Try.func91, Try.ntmps91
  have hd := Lib.hid (divided_0_64 x y hx hy hx' hy')
  go_wp2_with (go_at_call 105; refine (hd.out _).mono ?_; rintro e w' ⟨rfl, n, rfl⟩)
  go_ret
  exact ⟨ret_int rfl, n, rfl⟩

set_option maxHeartbeats 1000000 in
theorem made_mod0_64 (x y : Int) (w : World) (hx : 0 ≤ x) (hx' : x ≤ 18446744073709551615) (hy : 0 ≤ y) (hy' : y ≤ 18446744073709551615) :
    Calls Try.prog 91 #[.int .u8 144, .int .i64 64, .int .i64 0, .int .u64 x, .int .u64 y] w fun e w' => e = .returned (.int .u64 (aluZ true 144 0 x y % 18446744073709551616)) ∧ ∃ n, w' = w.drewN n := by
  go_enter Try.func91, Try.ntmps91
  have hd := Lib.hid (divided_0_64 x y hx hy hx' hy')
  go_wp2_with (go_at_call 105; refine (hd.out _).mono ?_; rintro e w' ⟨rfl, n, rfl⟩)
  go_ret
  exact ⟨ret_int rfl, n, rfl⟩

set_option maxHeartbeats 1000000 in
theorem made_div1_64 (x y : Int) (w : World) (hx : 0 ≤ x) (hx' : x ≤ 18446744073709551615) (hy : 0 ≤ y) (hy' : y ≤ 18446744073709551615) :
    Calls Try.prog 91 #[.int .u8 48, .int .i64 64, .int .i64 1, .int .u64 x, .int .u64 y] w fun e w' => e = .returned (.int .u64 (aluZ true 48 1 x y % 18446744073709551616)) ∧ ∃ n, w' = w.drewN n := by
  go_enter Try.func91, Try.ntmps91
  have hd := Lib.hid (divided_1_64 x y hx hy hx' hy')
  go_wp2_with (go_at_call 105; refine (hd.out _).mono ?_; rintro e w' ⟨rfl, n, rfl⟩)
  go_ret
  exact ⟨ret_int rfl, n, rfl⟩

set_option maxHeartbeats 1000000 in
theorem made_mod1_64 (x y : Int) (w : World) (hx : 0 ≤ x) (hx' : x ≤ 18446744073709551615) (hy : 0 ≤ y) (hy' : y ≤ 18446744073709551615) :
    Calls Try.prog 91 #[.int .u8 144, .int .i64 64, .int .i64 1, .int .u64 x, .int .u64 y] w fun e w' => e = .returned (.int .u64 (aluZ true 144 1 x y % 18446744073709551616)) ∧ ∃ n, w' = w.drewN n := by
  go_enter Try.func91, Try.ntmps91
  have hd := Lib.hid (divided_1_64 x y hx hy hx' hy')
  go_wp2_with (go_at_call 105; refine (hd.out _).mono ?_; rintro e w' ⟨rfl, n, rfl⟩)
  go_ret
  exact ⟨ret_int rfl, n, rfl⟩

set_option maxHeartbeats 1000000 in
theorem made_add_32 (x y : Int) (w : World) (hx : 0 ≤ x) (hx' : x ≤ 4294967295) (hy : 0 ≤ y) (hy' : y ≤ 4294967295) :
    Calls Try.prog 91 #[.int .u8 0, .int .i64 32, .int .i64 0, .int .u64 x, .int .u64 y] w fun e w' => e = .returned (.int .u64 (aluZ false 0 0 x y % 18446744073709551616)) ∧ w = w' := by
  go_enter Try.func91, Try.ntmps91
  go_wp2
  go_ret
  exact ⟨ret_int (by show _ = (x + y) % 18446744073709551616; first | (rw [IntKind.wrap_u64]) | omega), rfl⟩

set_option maxHeartbeats 1000000 in
theorem made_sub_32 (x y : Int) (w : World) (hx : 0 ≤ x) (hx' : x ≤ 4294967295) (hy : 0 ≤ y) (hy' : y ≤ 4294967295) :
    Calls Try.prog 91 #[.int .u8 16, .int .i64 32, .int .i64 0, .int .u64 x, .int .u64 y] w fun e w' => e = .returned (.int .u64 (aluZ false 16 0 x y % 18446744073709551616)) ∧ w = w' := by
  go_enter Try.func91, Try.ntmps91
  go_wp2
  go_ret
  exact ⟨ret_int (by show _ = (x - y) % 18446744073709551616; first | (rw [IntKind.wrap_u64]) | omega), rfl⟩

set_option maxHeartbeats 1000000 in
theorem made_mul_32 (x y : Int) (w : World) (hx : 0 ≤ x) (hx' : x ≤ 4294967295) (hy : 0 ≤ y) (hy' : y ≤ 4294967295) :
    Calls Try.prog 91 #[.int .u8 32, .int .i64 32, .int .i64 0, .int .u64 x, .int .u64 y] w fun e w' => e = .returned (.int .u64 (aluZ false 32 0 x y % 18446744073709551616)) ∧ w = w' := by
  go_enter Try.func91, Try.ntmps91
  go_wp2
  go_ret
  exact ⟨ret_int (by show _ = (x * y) % 18446744073709551616; rw [IntKind.wrap_u64]), rfl⟩

set_option maxHeartbeats 1000000 in
theorem made_or_32 (x y : Int) (w : World) (hx : 0 ≤ x) (hx' : x ≤ 4294967295) (hy : 0 ≤ y) (hy' : y ≤ 4294967295) :
    Calls Try.prog 91 #[.int .u8 64, .int .i64 32, .int .i64 0, .int .u64 x, .int .u64 y] w fun e w' => e = .returned (.int .u64 (aluZ false 64 0 x y % 18446744073709551616)) ∧ w = w' := by
  go_enter Try.func91, Try.ntmps91
  go_wp2
  go_ret
  exact ⟨ret_int (by show _ = ((x.toNat ||| y.toNat : Nat) : Int) % 18446744073709551616; rw [u64_or x y hx (by omega) hy (by omega)]; exact or_small x y (by omega) (by omega)), rfl⟩

set_option maxHeartbeats 1000000 in
theorem made_and_32 (x y : Int) (w : World) (hx : 0 ≤ x) (hx' : x ≤ 4294967295) (hy : 0 ≤ y) (hy' : y ≤ 4294967295) :
    Calls Try.prog 91 #[.int .u8 80, .int .i64 32, .int .i64 0, .int .u64 x, .int .u64 y] w fun e w' => e = .returned (.int .u64 (aluZ false 80 0 x y % 18446744073709551616)) ∧ w = w' := by
  go_enter Try.func91, Try.ntmps91
  go_wp2
  go_ret
  exact ⟨ret_int (by show _ = ((x.toNat &&& y.toNat : Nat) : Int) % 18446744073709551616; rw [u64_and x y hx (by omega) hy (by omega)]; exact and_small x y (by omega) (by omega)), rfl⟩

set_option maxHeartbeats 1000000 in
theorem made_xor_32 (x y : Int) (w : World) (hx : 0 ≤ x) (hx' : x ≤ 4294967295) (hy : 0 ≤ y) (hy' : y ≤ 4294967295) :
    Calls Try.prog 91 #[.int .u8 160, .int .i64 32, .int .i64 0, .int .u64 x, .int .u64 y] w fun e w' => e = .returned (.int .u64 (aluZ false 160 0 x y % 18446744073709551616)) ∧ w = w' := by
  go_enter Try.func91, Try.ntmps91
  go_wp2
  go_ret
  exact ⟨ret_int (by show _ = ((x.toNat ^^^ y.toNat : Nat) : Int) % 18446744073709551616; rw [u64_xor x y hx (by omega) hy (by omega)]; exact xor_small x y (by omega) (by omega)), rfl⟩

set_option maxHeartbeats 1000000 in
theorem made_lsh_32 (x y : Int) (w : World) (hx : 0 ≤ x) (hx' : x ≤ 4294967295) (hy : 0 ≤ y) (hy' : y ≤ 4294967295) :
    Calls Try.prog 91 #[.int .u8 96, .int .i64 32, .int .i64 0, .int .u64 x, .int .u64 y] w fun e w' => e = .returned (.int .u64 (aluZ false 96 0 x y % 18446744073709551616)) ∧ w = w' := by
  go_enter Try.func91, Try.ntmps91
  go_wp2
  go_ret
  exact ⟨ret_int (by show _ = (x * 2 ^ (y % 32).toNat) % 18446744073709551616; rw [IntKind.wrap_u64]), rfl⟩

set_option maxHeartbeats 1000000 in
theorem made_rsh_32 (x y : Int) (w : World) (hx : 0 ≤ x) (hx' : x ≤ 4294967295) (hy : 0 ≤ y) (hy' : y ≤ 4294967295) :
    Calls Try.prog 91 #[.int .u8 112, .int .i64 32, .int .i64 0, .int .u64 x, .int .u64 y] w fun e w' => e = .returned (.int .u64 (aluZ false 112 0 x y % 18446744073709551616)) ∧ w = w' := by
  go_enter Try.func91, Try.ntmps91
  go_wp2
  go_ret
  exact ⟨ret_int (by show _ = (x / 2 ^ (y % 32).toNat) % 18446744073709551616; exact shr_small x _ hx (by omega)), rfl⟩

set_option maxHeartbeats 1000000 in
theorem made_arsh_32 (x y : Int) (w : World) (hx : 0 ≤ x) (hx' : x ≤ 4294967295) (hy : 0 ≤ y) (hy' : y ≤ 4294967295) :
    Calls Try.prog 91 #[.int .u8 192, .int .i64 32, .int .i64 0, .int .u64 x, .int .u64 y] w fun e w' => e = .returned (.int .u64 (aluZ false 192 0 x y % 18446744073709551616)) ∧ w = w' := by
  go_enter Try.func91, Try.ntmps91
  go_wp2_with (go_at_call 97; refine (sign_any _ _ _ (by omega) (by omega)).mono ?_; rintro e w' ⟨rfl, rfl⟩)
  go_ret
  exact ⟨ret_int (by show _ = (sg false x / 2 ^ (y % 32).toNat) % 18446744073709551616; rw [IntKind.wrap_u64, signW_32, wrap64_wrap32]; rfl), rfl⟩

set_option maxHeartbeats 1000000 in
theorem made_neg_32 (x y : Int) (w : World) (hx : 0 ≤ x) (hx' : x ≤ 4294967295) (hy : 0 ≤ y) (hy' : y ≤ 4294967295) :
    Calls Try.prog 91 #[.int .u8 128, .int .i64 32, .int .i64 0, .int .u64 x, .int .u64 y] w fun e w' => e = .returned (.int .u64 (aluZ false 128 0 x y % 18446744073709551616)) ∧ w = w' := by
  go_enter Try.func91, Try.ntmps91
  go_wp2
  go_ret
  exact ⟨ret_int (by show _ = (-x) % 18446744073709551616; rw [IntKind.wrap_u64]), rfl⟩

set_option maxHeartbeats 1000000 in
theorem made_mov_32 (x y : Int) (off : Int) (w : World) (hx : 0 ≤ x) (hx' : x ≤ 4294967295) (hy : 0 ≤ y) (hy' : y ≤ 4294967295) :
    Calls Try.prog 91 #[.int .u8 176, .int .i64 32, .int .i64 off, .int .u64 x, .int .u64 y] w fun e w' => e = .returned (.int .u64 (aluZ false 176 off x y % 18446744073709551616)) ∧ w = w' := by
  go_enter Try.func91, Try.ntmps91
  go_wp2_with (go_at_call 97; refine (sign_any _ _ _ (by omega) (by omega)).mono ?_; rintro e w' ⟨rfl, rfl⟩)
  go_ret
  exact ⟨ret_int (by show _ = signW y off % 18446744073709551616; have := signW_range y off hy (by omega); omega), rfl⟩

set_option maxHeartbeats 1000000 in
theorem made_div0_32 (x y : Int) (w : World) (hx : 0 ≤ x) (hx' : x ≤ 4294967295) (hy : 0 ≤ y) (hy' : y ≤ 4294967295) :
    Calls Try.prog 91 #[.int .u8 48, .int .i64 32, .int .i64 0, .int .u64 x, .int .u64 y] w fun e w' => e = .returned (.int .u64 (aluZ false 48 0 x y % 18446744073709551616)) ∧ ∃ n, w' = w.drewN n := by
  go_enter Try.func91, Try.ntmps91
  have hd := Lib.hid (divided_0_32 x y hx hy hx' hy')
  go_wp2_with (go_at_call 105; refine (hd.out _).mono ?_; rintro e w' ⟨rfl, n, rfl⟩)
  go_ret
  exact ⟨ret_int rfl, n, rfl⟩

set_option maxHeartbeats 1000000 in
theorem made_mod0_32 (x y : Int) (w : World) (hx : 0 ≤ x) (hx' : x ≤ 4294967295) (hy : 0 ≤ y) (hy' : y ≤ 4294967295) :
    Calls Try.prog 91 #[.int .u8 144, .int .i64 32, .int .i64 0, .int .u64 x, .int .u64 y] w fun e w' => e = .returned (.int .u64 (aluZ false 144 0 x y % 18446744073709551616)) ∧ ∃ n, w' = w.drewN n := by
  go_enter Try.func91, Try.ntmps91
  have hd := Lib.hid (divided_0_32 x y hx hy hx' hy')
  go_wp2_with (go_at_call 105; refine (hd.out _).mono ?_; rintro e w' ⟨rfl, n, rfl⟩)
  go_ret
  exact ⟨ret_int rfl, n, rfl⟩

set_option maxHeartbeats 1000000 in
theorem made_div1_32 (x y : Int) (w : World) (hx : 0 ≤ x) (hx' : x ≤ 4294967295) (hy : 0 ≤ y) (hy' : y ≤ 4294967295) :
    Calls Try.prog 91 #[.int .u8 48, .int .i64 32, .int .i64 1, .int .u64 x, .int .u64 y] w fun e w' => e = .returned (.int .u64 (aluZ false 48 1 x y % 18446744073709551616)) ∧ ∃ n, w' = w.drewN n := by
  go_enter Try.func91, Try.ntmps91
  have hd := Lib.hid (divided_1_32 x y hx hy hx' hy')
  go_wp2_with (go_at_call 105; refine (hd.out _).mono ?_; rintro e w' ⟨rfl, n, rfl⟩)
  go_ret
  exact ⟨ret_int rfl, n, rfl⟩

set_option maxHeartbeats 1000000 in
theorem made_mod1_32 (x y : Int) (w : World) (hx : 0 ≤ x) (hx' : x ≤ 4294967295) (hy : 0 ≤ y) (hy' : y ≤ 4294967295) :
    Calls Try.prog 91 #[.int .u8 144, .int .i64 32, .int .i64 1, .int .u64 x, .int .u64 y] w fun e w' => e = .returned (.int .u64 (aluZ false 144 1 x y % 18446744073709551616)) ∧ ∃ n, w' = w.drewN n := by
  go_enter Try.func91, Try.ntmps91
  have hd := Lib.hid (divided_1_32 x y hx hy hx' hy')
  go_wp2_with (go_at_call 105; refine (hd.out _).mono ?_; rintro e w' ⟨rfl, n, rfl⟩)
  go_ret
  exact ⟨ret_int rfl, n, rfl⟩

end Go.Proofs.Ytfepokiibdkoeaa


/-
  Which arithmetic there is: alu.fits answers aluFits.
  Conditions: none.
-/
namespace Go.Proofs.Ytfepokiibdkoeaa
open Go.RowKit
set_option linter.unusedVariables false

set_option maxHeartbeats 1000000 in
theorem fits_divs (op off : Int) (wide : Bool) (w : World) (h : op = 48 ∨ op = 144) :
    Calls Try.prog 90 #[.int .u8 op, .bool wide, .int .i16 off] w fun e w' => e = .returned (.bool (aluFits op wide off)) ∧ w = w' := by
  have e1 : aluFits op wide off = (off == 0 || off == 1) := by unfold aluFits; rw [if_pos h]
  rw [e1]
  by_cases h0 : off = 0
  · subst h0
    clear e1
    rcases h with rfl | rfl
    all_goals
      go_enter Try.func90, Try.ntmps90
      go_wp2
      go_ret
      exact ⟨rfl, rfl⟩
  · by_cases h1 : off = 1
    · subst h1
      clear e1
      rcases h with rfl | rfl
      all_goals
        go_enter Try.func90, Try.ntmps90
        go_wp2
        go_ret
        exact ⟨rfl, rfl⟩
    · have e2 : (off == 0) = false := by simpa using h0
      have e3 : (off == 1) = false := by simpa using h1
      have e4 : (off == 0 || off == 1) = false := by rw [e2, e3]; rfl
      rw [e4]
      clear e1 e4
      rcases h with rfl | rfl
      all_goals
        go_enter Try.func90, Try.ntmps90
        go_wp2
        go_ret
        exact ⟨rfl, rfl⟩

set_option maxHeartbeats 1000000 in
theorem fits_mov (off : Int) (wide : Bool) (w : World) :
    Calls Try.prog 90 #[.int .u8 176, .bool wide, .int .i16 off] w fun e w' => e = .returned (.bool (aluFits 176 wide off)) ∧ w = w' := by
  have e1 : aluFits 176 wide off = (off == 0 || off == 8 || off == 16 || (off == 32 && wide)) := rfl
  rw [e1]
  clear e1
  by_cases h0 : off = 0
  · subst h0
    go_enter Try.func90, Try.ntmps90
    go_wp2
    go_ret
    exact ⟨rfl, rfl⟩
  · by_cases h1 : off = 8
    · subst h1
      go_enter Try.func90, Try.ntmps90
      go_wp2
      go_ret
      exact ⟨rfl, rfl⟩
    · by_cases h2 : off = 16
      · subst h2
        go_enter Try.func90, Try.ntmps90
        go_wp2
        go_ret
        exact ⟨rfl, rfl⟩
      · by_cases h3 : off = 32
        · subst h3
          cases wide
          all_goals
            go_enter Try.func90, Try.ntmps90
            go_wp2
            go_ret
            exact ⟨rfl, rfl⟩
        · have e2 : (off == 0) = false := by simpa using h0
          have e3 : (off == 8) = false := by simpa using h1
          have e4 : (off == 16) = false := by simpa using h2
          have e5 : (off == 32) = false := by simpa using h3
          have e6 : (off == 0 || off == 8 || off == 16 || (off == 32 && wide)) = false := by rw [e2, e3, e4, e5]; rfl
          rw [e6]
          clear e6
          go_enter Try.func90, Try.ntmps90
          go_wp2
          go_ret
          exact ⟨rfl, rfl⟩

set_option maxHeartbeats 2000000 in
theorem fits_plain (op off : Int) (wide : Bool) (w : World) (h : op = 0 ∨ op = 16 ∨ op = 32 ∨ op = 64 ∨ op = 80 ∨ op = 160 ∨ op = 96 ∨ op = 112 ∨ op = 192 ∨ op = 128) :
    Calls Try.prog 90 #[.int .u8 op, .bool wide, .int .i16 off] w fun e w' => e = .returned (.bool (aluFits op wide off)) ∧ w = w' := by
  have e1 : aluFits op wide off = (off == 0) := by
    unfold aluFits; rw [if_neg (by omega), if_neg (by omega), if_pos h]
  rw [e1]
  clear e1
  rcases h with rfl | rfl | rfl | rfl | rfl | rfl | rfl | rfl | rfl | rfl
  all_goals
    go_enter Try.func90, Try.ntmps90
    go_wp2
    go_ret
    exact ⟨rfl, rfl⟩

set_option maxHeartbeats 1000000 in
theorem fits_none (op off : Int) (wide : Bool) (w : World) (h : NoOp op) :
    Calls Try.prog 90 #[.int .u8 op, .bool wide, .int .i16 off] w fun e w' => e = .returned (.bool (aluFits op wide off)) ∧ w = w' := by
  rw [noOp_fits h]
  obtain ⟨⟨a1, a2, a3, a4, a5, a6, a7⟩, a8, a9, a10, a11, a12, a13⟩ := h
  replace a1 := beq_eq_false_iff_ne.mpr a1
  replace a2 := beq_eq_false_iff_ne.mpr a2
  replace a3 := beq_eq_false_iff_ne.mpr a3
  replace a4 := beq_eq_false_iff_ne.mpr a4
  replace a5 := beq_eq_false_iff_ne.mpr a5
  replace a6 := beq_eq_false_iff_ne.mpr a6
  replace a7 := beq_eq_false_iff_ne.mpr a7
  replace a8 := beq_eq_false_iff_ne.mpr a8
  replace a9 := beq_eq_false_iff_ne.mpr a9
  replace a10 := beq_eq_false_iff_ne.mpr a10
  replace a11 := beq_eq_false_iff_ne.mpr a11
  replace a12 := beq_eq_false_iff_ne.mpr a12
  replace a13 := beq_eq_false_iff_ne.mpr a13
  go_enter Try.func90, Try.ntmps90
  go_wp2
  go_ret
  exact ⟨rfl, rfl⟩

theorem fits_any (op off : Int) (wide : Bool) (w : World) :
    Calls Try.prog 90 #[.int .u8 op, .bool wide, .int .i16 off] w fun e w' => e = .returned (.bool (aluFits op wide off)) ∧ w = w' := by
  rcases op_cases op with h | h | h | h
  · exact fits_divs op off wide w h
  · subst h; exact fits_mov off wide w
  · exact fits_plain op off wide w h
  · exact fits_none op off wide w h

end Go.Proofs.Ytfepokiibdkoeaa

