/-
  Texts, one behind the other: Ref05Meet, Ref06, TnumLeaf, TnumPair, TnumJoin, Fact2, Ref06s, Fact3.
  Conditions: those that each theorem states.
-/
import Derived.Test.YtdgckjkdimnpoaaMl2
import Derived.Deep.RegionWith
import Derived.Deep.RegionHeld3
import Derived.Test.YtdgckjkdimnpoaaMl1
import Derived.LoopTactic

namespace Go.Proofs.Ytdgckjkdimnpoaa
open Go.RowKit
set_option maxRecDepth 100000
set_option linter.unusedVariables false

/-- The boxes of two arguments, a result's, and a variable's. -/
def SQuad (a b t s : Sp) (w u : World) : Prop := STrio a b t w u ∧ sB (w.heap.size + 1 + 1 + 1) s u
theorem SQuad.new (a b s : Sp) (w : World) : SQuad a b (0, 0) s w ((((w.alloc (.cells #[.int .u64 a.1, .int .u64 a.2] 26)).alloc (.cells #[.int .u64 b.1, .int .u64 b.2] 26)).alloc (.cells #[.int .u64 0, .int .u64 0] 26)).alloc (.cells #[.int .u64 s.1, .int .u64 s.2] 26)) :=
  ⟨(STrio.new a b w).after (below_alloc (Below.refl _ _) _), sB.new _ s (by simp)⟩
theorem SQuad.after {a b t s : Sp} {w u u' : World} (h : SQuad a b t s w u) (k : Below u.heap.size u u') : SQuad a b t s w u' := ⟨h.1.after k, h.2.after k⟩

set_option maxHeartbeats 2000000 in
theorem rs_meet_0 (a b : Sp) (w : World) (k1 : a.1 < b.1) (k2 : b.2 < a.2) : Calls Try.prog 79 #[sV a, sV b] w (Gives (if sRR a b = true ∧ sR (b.1, b.2) = true then sBV (b.1, b.2) true else sBV (0, 0) false) w) := by
  have h1 := Lib.hid (rs_both a b)
  have h2 := Lib.hid (rs_right (b.1, b.2))
  have hx := Lib.hid (SQuad.new a b (b.1, b.2) w)
  cases e1 : sRR a b
  · rw [e1] at h1
    rw [if_neg (fun hq => by cases hq.1)]
    clear e1
    go_enter Try.func79, Try.ntmps79
    go_wp2_with fail
    refine (h1.out _).mono ?_; rintro e w1 ⟨rfl, b1⟩
    have x1 := hx.out.after b1
    obtain ⟨c0, c1⟩ := x1.1.2.cells
    obtain ⟨f0, f1⟩ := x1.1.2.free
    clear hx b1
    have X2 := Lib.hid (x1.1.set (0, 0))
    clear x1
    go_wp2_with fail
    exact bodyPost_ret (v := sBV (0, 0) false) (by simp [results, Try.results79, go_sem, c0, c1]) rfl ⟨rfl, X2.out.1.1⟩
  · rw [e1] at h1
    clear e1
    cases e2 : sR (b.1, b.2)
    all_goals
      rw [e2] at h2
      clear e2
    · rw [if_neg (fun hq => by cases hq.2)]
      go_enter Try.func79, Try.ntmps79
      go_wp2_with fail
      refine (h1.out _).mono ?_; rintro e w1 ⟨rfl, b1⟩
      have x1 := hx.out.after b1
      obtain ⟨p0, p1⟩ := x1.2.cells
      have X1 := Lib.hid x1
      clear x1 hx b1
      go_wp2_with fail
      refine (h2.out _).mono ?_; rintro e w2 ⟨rfl, b2⟩
      have x2 := X1.out.after b2
      clear p0 p1
      obtain ⟨p0, p1⟩ := x2.2.cells
      obtain ⟨c0, c1⟩ := x2.1.2.cells
      obtain ⟨f0, f1⟩ := x2.1.2.free
      have X2 := Lib.hid (x2.1.set (0, 0))
      clear x2
      go_wp2_with fail
      exact bodyPost_ret (v := sBV (0, 0) false) (by simp [results, Try.results79, go_sem, c0, c1]) rfl ⟨rfl, X2.out.1.1⟩
    · rw [if_pos ⟨rfl, rfl⟩]
      go_enter Try.func79, Try.ntmps79
      go_wp2_with fail
      refine (h1.out _).mono ?_; rintro e w1 ⟨rfl, b1⟩
      have x1 := hx.out.after b1
      obtain ⟨p0, p1⟩ := x1.2.cells
      have X1 := Lib.hid x1
      clear x1 hx b1
      go_wp2_with fail
      refine (h2.out _).mono ?_; rintro e w2 ⟨rfl, b2⟩
      have x2 := X1.out.after b2
      clear p0 p1
      obtain ⟨p0, p1⟩ := x2.2.cells
      obtain ⟨c0, c1⟩ := x2.1.2.cells
      obtain ⟨f0, f1⟩ := x2.1.2.free
      have X2 := Lib.hid (x2.1.set (b.1, b.2))
      clear x2
      go_wp2_with fail
      exact bodyPost_ret (v := sBV (b.1, b.2) true) (by simp [results, Try.results79, go_sem, c0, c1]) rfl ⟨rfl, X2.out.1.1⟩

set_option maxHeartbeats 2000000 in
theorem rs_meet_1 (a b : Sp) (w : World) (k1 : a.1 < b.1) (k2 : a.2 ≤ b.2) : Calls Try.prog 79 #[sV a, sV b] w (Gives (if sRR a b = true ∧ sR (b.1, a.2) = true then sBV (b.1, a.2) true else sBV (0, 0) false) w) := by
  have h1 := Lib.hid (rs_both a b)
  have h2 := Lib.hid (rs_right (b.1, a.2))
  have hx := Lib.hid (SQuad.new a b (b.1, a.2) w)
  cases e1 : sRR a b
  · rw [e1] at h1
    rw [if_neg (fun hq => by cases hq.1)]
    clear e1
    go_enter Try.func79, Try.ntmps79
    go_wp2_with fail
    refine (h1.out _).mono ?_; rintro e w1 ⟨rfl, b1⟩
    have x1 := hx.out.after b1
    obtain ⟨c0, c1⟩ := x1.1.2.cells
    obtain ⟨f0, f1⟩ := x1.1.2.free
    clear hx b1
    have X2 := Lib.hid (x1.1.set (0, 0))
    clear x1
    go_wp2_with fail
    exact bodyPost_ret (v := sBV (0, 0) false) (by simp [results, Try.results79, go_sem, c0, c1]) rfl ⟨rfl, X2.out.1.1⟩
  · rw [e1] at h1
    clear e1
    cases e2 : sR (b.1, a.2)
    all_goals
      rw [e2] at h2
      clear e2
    · rw [if_neg (fun hq => by cases hq.2)]
      go_enter Try.func79, Try.ntmps79
      go_wp2_with fail
      refine (h1.out _).mono ?_; rintro e w1 ⟨rfl, b1⟩
      have x1 := hx.out.after b1
      obtain ⟨p0, p1⟩ := x1.2.cells
      have X1 := Lib.hid x1
      clear x1 hx b1
      go_wp2_with fail
      refine (h2.out _).mono ?_; rintro e w2 ⟨rfl, b2⟩
      have x2 := X1.out.after b2
      clear p0 p1
      obtain ⟨p0, p1⟩ := x2.2.cells
      obtain ⟨c0, c1⟩ := x2.1.2.cells
      obtain ⟨f0, f1⟩ := x2.1.2.free
      have X2 := Lib.hid (x2.1.set (0, 0))
      clear x2
      go_wp2_with fail
      exact bodyPost_ret (v := sBV (0, 0) false) (by simp [results, Try.results79, go_sem, c0, c1]) rfl ⟨rfl, X2.out.1.1⟩
    · rw [if_pos ⟨rfl, rfl⟩]
      go_enter Try.func79, Try.ntmps79
      go_wp2_with fail
      refine (h1.out _).mono ?_; rintro e w1 ⟨rfl, b1⟩
      have x1 := hx.out.after b1
      obtain ⟨p0, p1⟩ := x1.2.cells
      have X1 := Lib.hid x1
      clear x1 hx b1
      go_wp2_with fail
      refine (h2.out _).mono ?_; rintro e w2 ⟨rfl, b2⟩
      have x2 := X1.out.after b2
      clear p0 p1
      obtain ⟨p0, p1⟩ := x2.2.cells
      obtain ⟨c0, c1⟩ := x2.1.2.cells
      obtain ⟨f0, f1⟩ := x2.1.2.free
      have X2 := Lib.hid (x2.1.set (b.1, a.2))
      clear x2
      go_wp2_with fail
      exact bodyPost_ret (v := sBV (b.1, a.2) true) (by simp [results, Try.results79, go_sem, c0, c1]) rfl ⟨rfl, X2.out.1.1⟩

set_option maxHeartbeats 2000000 in
theorem rs_meet_2 (a b : Sp) (w : World) (k1 : b.1 ≤ a.1) (k2 : b.2 < a.2) : Calls Try.prog 79 #[sV a, sV b] w (Gives (if sRR a b = true ∧ sR (a.1, b.2) = true then sBV (a.1, b.2) true else sBV (0, 0) false) w) := by
  have h1 := Lib.hid (rs_both a b)
  have h2 := Lib.hid (rs_right (a.1, b.2))
  have hx := Lib.hid (SQuad.new a b (a.1, b.2) w)
  cases e1 : sRR a b
  · rw [e1] at h1
    rw [if_neg (fun hq => by cases hq.1)]
    clear e1
    go_enter Try.func79, Try.ntmps79
    go_wp2_with fail
    refine (h1.out _).mono ?_; rintro e w1 ⟨rfl, b1⟩
    have x1 := hx.out.after b1
    obtain ⟨c0, c1⟩ := x1.1.2.cells
    obtain ⟨f0, f1⟩ := x1.1.2.free
    clear hx b1
    have X2 := Lib.hid (x1.1.set (0, 0))
    clear x1
    go_wp2_with fail
    exact bodyPost_ret (v := sBV (0, 0) false) (by simp [results, Try.results79, go_sem, c0, c1]) rfl ⟨rfl, X2.out.1.1⟩
  · rw [e1] at h1
    clear e1
    cases e2 : sR (a.1, b.2)
    all_goals
      rw [e2] at h2
      clear e2
    · rw [if_neg (fun hq => by cases hq.2)]
      go_enter Try.func79, Try.ntmps79
      go_wp2_with fail
      refine (h1.out _).mono ?_; rintro e w1 ⟨rfl, b1⟩
      have x1 := hx.out.after b1
      obtain ⟨p0, p1⟩ := x1.2.cells
      have X1 := Lib.hid x1
      clear x1 hx b1
      go_wp2_with fail
      refine (h2.out _).mono ?_; rintro e w2 ⟨rfl, b2⟩
      have x2 := X1.out.after b2
      clear p0 p1
      obtain ⟨p0, p1⟩ := x2.2.cells
      obtain ⟨c0, c1⟩ := x2.1.2.cells
      obtain ⟨f0, f1⟩ := x2.1.2.free
      have X2 := Lib.hid (x2.1.set (0, 0))
      clear x2
      go_wp2_with fail
      exact bodyPost_ret (v := sBV (0, 0) false) (by simp [results, Try.results79, go_sem, c0, c1]) rfl ⟨rfl, X2.out.1.1⟩
    · rw [if_pos ⟨rfl, rfl⟩]
      go_enter Try.func79, Try.ntmps79
      go_wp2_with fail
      refine (h1.out _).mono ?_; rintro e w1 ⟨rfl, b1⟩
      have x1 := hx.out.after b1
      obtain ⟨p0, p1⟩ := x1.2.cells
      have X1 := Lib.hid x1
      clear x1 hx b1
      go_wp2_with fail
      refine (h2.out _).mono ?_; rintro e w2 ⟨rfl, b2⟩
      have x2 := X1.out.after b2
      clear p0 p1
      obtain ⟨p0, p1⟩ := x2.2.cells
      obtain ⟨c0, c1⟩ := x2.1.2.cells
      obtain ⟨f0, f1⟩ := x2.1.2.free
      have X2 := Lib.hid (x2.1.set (a.1, b.2))
      clear x2
      go_wp2_with fail
      exact bodyPost_ret (v := sBV (a.1, b.2) true) (by simp [results, Try.results79, go_sem, c0, c1]) rfl ⟨rfl, X2.out.1.1⟩

set_option maxHeartbeats 2000000 in
theorem rs_meet_3 (a b : Sp) (w : World) (k1 : b.1 ≤ a.1) (k2 : a.2 ≤ b.2) : Calls Try.prog 79 #[sV a, sV b] w (Gives (if sRR a b = true ∧ sR (a.1, a.2) = true then sBV (a.1, a.2) true else sBV (0, 0) false) w) := by
  have h1 := Lib.hid (rs_both a b)
  have h2 := Lib.hid (rs_right (a.1, a.2))
  have hx := Lib.hid (SQuad.new a b (a.1, a.2) w)
  cases e1 : sRR a b
  · rw [e1] at h1
    rw [if_neg (fun hq => by cases hq.1)]
    clear e1
    go_enter Try.func79, Try.ntmps79
    go_wp2_with fail
    refine (h1.out _).mono ?_; rintro e w1 ⟨rfl, b1⟩
    have x1 := hx.out.after b1
    obtain ⟨c0, c1⟩ := x1.1.2.cells
    obtain ⟨f0, f1⟩ := x1.1.2.free
    clear hx b1
    have X2 := Lib.hid (x1.1.set (0, 0))
    clear x1
    go_wp2_with fail
    exact bodyPost_ret (v := sBV (0, 0) false) (by simp [results, Try.results79, go_sem, c0, c1]) rfl ⟨rfl, X2.out.1.1⟩
  · rw [e1] at h1
    clear e1
    cases e2 : sR (a.1, a.2)
    all_goals
      rw [e2] at h2
      clear e2
    · rw [if_neg (fun hq => by cases hq.2)]
      go_enter Try.func79, Try.ntmps79
      go_wp2_with fail
      refine (h1.out _).mono ?_; rintro e w1 ⟨rfl, b1⟩
      have x1 := hx.out.after b1
      obtain ⟨p0, p1⟩ := x1.2.cells
      have X1 := Lib.hid x1
      clear x1 hx b1
      go_wp2_with fail
      refine (h2.out _).mono ?_; rintro e w2 ⟨rfl, b2⟩
      have x2 := X1.out.after b2
      clear p0 p1
      obtain ⟨p0, p1⟩ := x2.2.cells
      obtain ⟨c0, c1⟩ := x2.1.2.cells
      obtain ⟨f0, f1⟩ := x2.1.2.free
      have X2 := Lib.hid (x2.1.set (0, 0))
      clear x2
      go_wp2_with fail
      exact bodyPost_ret (v := sBV (0, 0) false) (by simp [results, Try.results79, go_sem, c0, c1]) rfl ⟨rfl, X2.out.1.1⟩
    · rw [if_pos ⟨rfl, rfl⟩]
      go_enter Try.func79, Try.ntmps79
      go_wp2_with fail
      refine (h1.out _).mono ?_; rintro e w1 ⟨rfl, b1⟩
      have x1 := hx.out.after b1
      obtain ⟨p0, p1⟩ := x1.2.cells
      have X1 := Lib.hid x1
      clear x1 hx b1
      go_wp2_with fail
      refine (h2.out _).mono ?_; rintro e w2 ⟨rfl, b2⟩
      have x2 := X1.out.after b2
      clear p0 p1
      obtain ⟨p0, p1⟩ := x2.2.cells
      obtain ⟨c0, c1⟩ := x2.1.2.cells
      obtain ⟨f0, f1⟩ := x2.1.2.free
      have X2 := Lib.hid (x2.1.set (a.1, a.2))
      clear x2
      go_wp2_with fail
      exact bodyPost_ret (v := sBV (a.1, a.2) true) (by simp [results, Try.results79, go_sem, c0, c1]) rfl ⟨rfl, X2.out.1.1⟩

theorem rs_meet_math (a b : Sp) (l h : Int) (hl : max a.1 b.1 = l) (hh : min a.2 b.2 = h) :
    (if sRR a b = true ∧ sR (l, h) = true then sBV (l, h) true else sBV (0, 0) false) = sBV (sM a b) (sMok a b) := by
  unfold sM sMok sT sTok
  rw [hl, hh]
  by_cases k : l ≤ h
  · have e1 : sRR a b = true := Bool.and_eq_true_iff.mpr ⟨decide_eq_true (by omega), decide_eq_true (by omega)⟩
    rw [if_pos ⟨e1, decide_eq_true k⟩, if_neg (by omega), decide_eq_true k]
  · rw [if_neg (fun x => k (of_decide_eq_true x.2)), if_pos (by omega), decide_eq_false k]
theorem rs_meet (a b : Sp) (w : World) : Calls Try.prog 79 #[sV a, sV b] w (Gives (sBV (sM a b) (sMok a b)) w) := by
  rcases int_lt_or a.1 b.1 with k1 | k1
  · rcases int_lt_or b.2 a.2 with k2 | k2
    · rw [← rs_meet_math a b b.1 b.2 (by omega) (by omega)]; exact rs_meet_0 a b w k1 k2
    · rw [← rs_meet_math a b b.1 a.2 (by omega) (by omega)]; exact rs_meet_1 a b w k1 k2
  · rcases int_lt_or b.2 a.2 with k2 | k2
    · rw [← rs_meet_math a b a.1 b.2 (by omega) (by omega)]; exact rs_meet_2 a b w k1 k2
    · rw [← rs_meet_math a b a.1 a.2 (by omega) (by omega)]; exact rs_meet_3 a b w k1 k2

end Go.Proofs.Ytdgckjkdimnpoaa

namespace Go.Proofs.Ytdgckjkdimnpoaa
open Go.RowKit
set_option maxRecDepth 100000
set_option linter.unusedVariables false

theorem rf_of (n : BitVec 64) (w : World) : Calls Try.prog 27 #[uV n] w (Gives (fV (fOf n)) w) := by
  go_enter Try.func27, Try.ntmps27
  go_wp2
  exact bodyPost_ret (v := fV (fOf n)) (by simp [results, Try.results27, go_sem, fOf]) rfl ⟨rfl, below_alloc (Below.refl _ _) _⟩
/-- A new block of known bits. -/
def zB (g : Nat) (w : World) : Prop := Blk g #[.int .u64 0, .int .u64 0] 24 w
theorem zB.new (w : World) : zB w.heap.size (w.alloc (.cells #[.int .u64 0, .int .u64 0] 24)) := Blk.new w _ _ rfl
theorem zB.after {g : Nat} {w w' : World} (h : zB g w) (b : Below w.heap.size w w') : zB g w' := Blk.after h b
theorem zB.made {w w' : World} (b : Below (w.alloc (.cells #[.int .u64 0, .int .u64 0] 24)).heap.size (w.alloc (.cells #[.int .u64 0, .int .u64 0] 24)) w') : zB w.heap.size w' := (zB.new w).after b
theorem zB.cells {g : Nat} {w : World} (h : zB g w) : w.cell? ⟨g, 0, none⟩ = some (.int .u64 0) ∧ w.cell? ⟨g, 1, none⟩ = some (.int .u64 0) := ⟨Blk.cell h 0, Blk.cell h 1⟩
theorem zB.free {g : Nat} {w : World} (h : zB g w) : w.frozen? ⟨g, 0, none⟩ = false ∧ w.frozen? ⟨g, 1, none⟩ = false := ⟨Blk.free h 0, Blk.free h 1⟩

set_option maxHeartbeats 4000000 in
theorem rf_round_t (f : Fc) (s : Sp) (r t : Tn) (w : World) (hs : sIn s)
    (S1 : Hid (∀ w, Calls Try.prog 79 #[sV f.2, sV (bSp f.1)] w (Gives (sBV s true) w)))
    (R : Hid (∀ w, Calls Try.prog 81 #[sV s] w (Gives (tV r) w)))
    (M : Hid (∀ w, Calls Try.prog 80 #[tV f.1, tV r] w (Gives (tBV t true) w))) :
    Calls Try.prog 69 #[fV f] w (Gives (fBV (t, s) true) w) := by
  have hx := Lib.hid (FDuo.new f fZ w)
  go_enter Try.func69, Try.ntmps69
  go_wp2_with fail
  simp only [bv_or]
  refine (S1.out _).mono ?_; rintro e w1 ⟨rfl, b1⟩
  have x1 := hx.out.after b1
  obtain ⟨c0, c1, c2, c3⟩ := x1.2.1.cells
  have X1 := Lib.hid x1
  have SB := Lib.hid (sB.new w1 s (g := w1.heap.size) rfl)
  clear x1 hx b1
  go_wp2_with fail
  have X2 := Lib.hid (X1.out.alloc (.cells #[.int .u64 s.1, .int .u64 s.2] 26))
  generalize w1.heap.size = gs at *
  generalize w1.alloc (.cells #[.int .u64 s.1, .int .u64 s.2] 26) = w2 at *
  have HB : Below w2.heap.size w2 w2.drew := Below.drew (Below.refl _ _)
  have H := Lib.hid (fun (wx : World) (hx : Below w2.heap.size w2 wx) => And.intro (X2.out.after hx).2.1.cells (SB.out.after hx).cells)
  have K := Lib.hid (fun (wx : World) (hx : Below w2.heap.size w2 wx) => And.intro (And.intro (X2.out.after hx).2.1.cells.1 (X2.out.after hx).2.1.cells.2.1) (SB.out.after hx).cells)
  clear c0 c1 c2 c3 X1 H
  have HA : Below w2.heap.size w2 ((w2.alloc (.cells #[.int .u64 0, .int .u64 0] 24)).drew) := Below.drew (below_alloc (Below.refl _ _) _)
  have z1 := SB.out.lt
  have z2 := X2.out.2.1.lt
  go_region_held3 (fun w' => (w'.cell? ⟨w.heap.size, 0, none⟩ = some (uV f.1.1) ∧ w'.cell? ⟨w.heap.size, 1, none⟩ = some (uV f.1.2)) ∧ w'.cell? ⟨gs, 0, none⟩ = some (.int .u64 s.1) ∧ w'.cell? ⟨gs, 1, none⟩ = some (.int .u64 s.2))
    (first
      | exact K.out _ HB
      | exact K.out _ (Below.drew HB)
      | exact K.out _ (below_alloc HB _)
      | exact K.out _ (Below.drew (below_alloc HB _))
      | exact K.out _ (below_alloc (Below.drew HB) _)
      | exact K.out _ ((HB.setCell (by dsimp only; omega) _).setCell (by dsimp only; omega) _)
      | exact K.out _ (((below_alloc HB _).setCell (by dsimp only; omega) _).setCell (by dsimp only; omega) _)
      | exact K.out _ HA)
    (first
      | (go_at_call 81; refine (R.out _).mono ?_; rintro e w6 ⟨rfl, hb6⟩;
         (first | have TB := zB.made hb6 | have TB := (show zB w2.heap.size w6 from zB.made (w := w2.drew) hb6) | skip);
         (first | replace HB := below_next' HB hb6 | replace HB := below_next' (below_alloc HB _) hb6); clear hb6; have n6 := HB.size)
      | (go_at_call 80; refine (M.out _).mono ?_; rintro e w7 ⟨rfl, hb7⟩;
         (first | replace TB := zB.after TB hb7 | have TB := zB.made hb7 | skip);
         (first | replace HB := below_next' HB hb7 | replace HB := below_next' (below_alloc HB _) hb7); clear hb7; have n7 := HB.size; (try obtain ⟨t0, t1⟩ := TB.cells); (try obtain ⟨f0, f1⟩ := TB.free)))
  all_goals
    rename_i hh
    clear hh
    have x7 := X2.out.after HB
    have s7 := SB.out.after HB
    have n2 := X2.out.2.2.lt
    have k9 : gs < w6.heap.size := by omega
    have k10 : w.heap.size + 1 < w6.heap.size := by omega
    first
      | (have TU := Lib.hid (Box.set (show Box w6.heap.size (0#64, 0#64) w7 from TB) t)
         have XU := Lib.hid (x7.far (k := w6.heap.size) (by omega) (uV t.1) (uV t.2))
         have SU := Lib.hid (sB.other (sB.other s7 (o := 0) (k := w6.heap.size) (uV t.1) (by omega)) (o := 1) (k := w6.heap.size) (uV t.2) (by omega))
         clear TB HB K HA
         generalize w6.heap.size = gt at *
         generalize (World.setCell (World.setCell w7 ⟨gt, 0, none⟩ (uV t.1)) ⟨gt, 1, none⟩ (uV t.2)) = u at TU XU SU ⊢)
      | (have TU := Lib.hid (Box.set (show Box w2.heap.size (0#64, 0#64) w7 from TB) t)
         have XU := Lib.hid (x7.far (k := w2.heap.size) (by omega) (uV t.1) (uV t.2))
         have SU := Lib.hid (sB.other (sB.other s7 (o := 0) (k := w2.heap.size) (uV t.1) (by omega)) (o := 1) (k := w2.heap.size) (uV t.2) (by omega))
         clear TB HB K HA
         generalize w2.heap.size = gt at *
         generalize (World.setCell (World.setCell w7 ⟨gt, 0, none⟩ (uV t.1)) ⟨gt, 1, none⟩ (uV t.2)) = u at TU XU SU ⊢)
      | (have TU := Lib.hid (Box.new w7 t rfl)
         have XU := Lib.hid (x7.alloc (.cells #[uV t.1, uV t.2] 24))
         have SU := Lib.hid (sB.alloc s7 (.cells #[uV t.1, uV t.2] 24))
         clear HB K HA
         generalize w7.heap.size = gt at *
         generalize World.alloc w7 (.cells #[uV t.1, uV t.2] 24) = u at TU XU SU ⊢)
    all_goals
      obtain ⟨e0, e1, e2, e3⟩ := XU.out.2.2.cells
      obtain ⟨g0, g1, g2, g3⟩ := XU.out.2.2.free
      obtain ⟨q0, q1⟩ := SU.out.cells
      obtain ⟨u0, u1⟩ := TU.out.cells
      have XE := Lib.hid (XU.out.set (t, s))
      clear XU SU TU x7 s7
      go_wp2_with fail
      exact bodyPost_ret (v := fBV (t, s) true) (by simp [results, Try.results69, go_sem, e0, e1, e2, e3]) rfl ⟨rfl, XE.out.1⟩

set_option maxHeartbeats 4000000 in
theorem rf_round_f (f : Fc) (s : Sp) (r t : Tn) (w : World) (hs : sIn s)
    (S1 : Hid (∀ w, Calls Try.prog 79 #[sV f.2, sV (bSp f.1)] w (Gives (sBV s true) w)))
    (R : Hid (∀ w, Calls Try.prog 81 #[sV s] w (Gives (tV r) w)))
    (M : Hid (∀ w, Calls Try.prog 80 #[tV f.1, tV r] w (Gives (tBV t false) w))) :
    Calls Try.prog 69 #[fV f] w (Gives (fBV fZ false) w) := by
  have hx := Lib.hid (FDuo.new f fZ w)
  go_enter Try.func69, Try.ntmps69
  go_wp2_with fail
  simp only [bv_or]
  refine (S1.out _).mono ?_; rintro e w1 ⟨rfl, b1⟩
  have x1 := hx.out.after b1
  obtain ⟨c0, c1, c2, c3⟩ := x1.2.1.cells
  have X1 := Lib.hid x1
  have SB := Lib.hid (sB.new w1 s (g := w1.heap.size) rfl)
  clear x1 hx b1
  go_wp2_with fail
  have X2 := Lib.hid (X1.out.alloc (.cells #[.int .u64 s.1, .int .u64 s.2] 26))
  generalize w1.heap.size = gs at *
  generalize w1.alloc (.cells #[.int .u64 s.1, .int .u64 s.2] 26) = w2 at *
  have HB : Below w2.heap.size w2 w2.drew := Below.drew (Below.refl _ _)
  have H := Lib.hid (fun (wx : World) (hx : Below w2.heap.size w2 wx) => And.intro (X2.out.after hx).2.1.cells (SB.out.after hx).cells)
  have K := Lib.hid (fun (wx : World) (hx : Below w2.heap.size w2 wx) => And.intro (And.intro (X2.out.after hx).2.1.cells.1 (X2.out.after hx).2.1.cells.2.1) (SB.out.after hx).cells)
  clear c0 c1 c2 c3 X1 H
  have HA : Below w2.heap.size w2 ((w2.alloc (.cells #[.int .u64 0, .int .u64 0] 24)).drew) := Below.drew (below_alloc (Below.refl _ _) _)
  have z1 := SB.out.lt
  have z2 := X2.out.2.1.lt
  go_region_held3 (fun w' => (w'.cell? ⟨w.heap.size, 0, none⟩ = some (uV f.1.1) ∧ w'.cell? ⟨w.heap.size, 1, none⟩ = some (uV f.1.2)) ∧ w'.cell? ⟨gs, 0, none⟩ = some (.int .u64 s.1) ∧ w'.cell? ⟨gs, 1, none⟩ = some (.int .u64 s.2))
    (first
      | exact K.out _ HB
      | exact K.out _ (Below.drew HB)
      | exact K.out _ (below_alloc HB _)
      | exact K.out _ (Below.drew (below_alloc HB _))
      | exact K.out _ (below_alloc (Below.drew HB) _)
      | exact K.out _ ((HB.setCell (by dsimp only; omega) _).setCell (by dsimp only; omega) _)
      | exact K.out _ (((below_alloc HB _).setCell (by dsimp only; omega) _).setCell (by dsimp only; omega) _)
      | exact K.out _ HA)
    (first
      | (go_at_call 81; refine (R.out _).mono ?_; rintro e w6 ⟨rfl, hb6⟩;
         (first | have TB := zB.made hb6 | have TB := (show zB w2.heap.size w6 from zB.made (w := w2.drew) hb6) | skip);
         (first | replace HB := below_next' HB hb6 | replace HB := below_next' (below_alloc HB _) hb6); clear hb6; have n6 := HB.size)
      | (go_at_call 80; refine (M.out _).mono ?_; rintro e w7 ⟨rfl, hb7⟩;
         (first | replace TB := zB.after TB hb7 | have TB := zB.made hb7 | skip);
         (first | replace HB := below_next' HB hb7 | replace HB := below_next' (below_alloc HB _) hb7); clear hb7; have n7 := HB.size; (try obtain ⟨t0, t1⟩ := TB.cells); (try obtain ⟨f0, f1⟩ := TB.free)))
  all_goals
    rename_i hh
    clear hh
    have x7 := X2.out.after HB
    have s7 := SB.out.after HB
    have n2 := X2.out.2.2.lt
    have k9 : gs < w6.heap.size := by omega
    have k10 : w.heap.size + 1 < w6.heap.size := by omega
    first
      | (have TU := Lib.hid (Box.set (show Box w6.heap.size (0#64, 0#64) w7 from TB) t)
         have XU := Lib.hid (x7.far (k := w6.heap.size) (by omega) (uV t.1) (uV t.2))
         have SU := Lib.hid (sB.other (sB.other s7 (o := 0) (k := w6.heap.size) (uV t.1) (by omega)) (o := 1) (k := w6.heap.size) (uV t.2) (by omega))
         clear TB HB K HA
         generalize w6.heap.size = gt at *
         generalize (World.setCell (World.setCell w7 ⟨gt, 0, none⟩ (uV t.1)) ⟨gt, 1, none⟩ (uV t.2)) = u at TU XU SU ⊢)
      | (have TU := Lib.hid (Box.set (show Box w2.heap.size (0#64, 0#64) w7 from TB) t)
         have XU := Lib.hid (x7.far (k := w2.heap.size) (by omega) (uV t.1) (uV t.2))
         have SU := Lib.hid (sB.other (sB.other s7 (o := 0) (k := w2.heap.size) (uV t.1) (by omega)) (o := 1) (k := w2.heap.size) (uV t.2) (by omega))
         clear TB HB K HA
         generalize w2.heap.size = gt at *
         generalize (World.setCell (World.setCell w7 ⟨gt, 0, none⟩ (uV t.1)) ⟨gt, 1, none⟩ (uV t.2)) = u at TU XU SU ⊢)
      | (have TU := Lib.hid (Box.new w7 t rfl)
         have XU := Lib.hid (x7.alloc (.cells #[uV t.1, uV t.2] 24))
         have SU := Lib.hid (sB.alloc s7 (.cells #[uV t.1, uV t.2] 24))
         clear HB K HA
         generalize w7.heap.size = gt at *
         generalize World.alloc w7 (.cells #[uV t.1, uV t.2] 24) = u at TU XU SU ⊢)
    all_goals
      obtain ⟨e0, e1, e2, e3⟩ := XU.out.2.2.cells
      obtain ⟨g0, g1, g2, g3⟩ := XU.out.2.2.free
      obtain ⟨q0, q1⟩ := SU.out.cells
      obtain ⟨u0, u1⟩ := TU.out.cells
      have XE := Lib.hid (XU.out.set fZ)
      clear XU SU TU x7 s7
      go_wp2_with fail
      exact bodyPost_ret (v := fBV fZ false) (by simp [results, Try.results69, go_sem, e0, e1, e2, e3, fZ]) rfl ⟨rfl, XE.out.1⟩

set_option maxHeartbeats 1000000 in
theorem rf_round_n (f : Fc) (s : Sp) (w : World)
    (S1 : Hid (∀ w, Calls Try.prog 79 #[sV f.2, sV (bSp f.1)] w (Gives (sBV s false) w))) :
    Calls Try.prog 69 #[fV f] w (Gives (fBV fZ false) w) := by
  have hx := Lib.hid (FDuo.new f fZ w)
  go_enter Try.func69, Try.ntmps69
  go_wp2_with fail
  simp only [bv_or]
  refine (S1.out _).mono ?_; rintro e w1 ⟨rfl, b1⟩
  have x1 := hx.out.after b1
  obtain ⟨e0, e1, e2, e3⟩ := x1.2.2.cells
  obtain ⟨g0, g1, g2, g3⟩ := x1.2.2.free
  have k1 := x1.2.2.lt
  have XE := Lib.hid ((x1.set fZ).alloc (.cells #[.int .u64 s.1, .int .u64 s.2] 26))
  clear x1 hx b1
  go_wp2_with fail
  exact bodyPost_ret (v := fBV fZ false) (by simp [results, Try.results69, go_sem, e0, e1, e2, e3, fZ, k1]) rfl ⟨rfl, XE.out.1⟩

/-- One round: what comes of it, or nothing. -/
theorem rf_round (f : Fc) (w : World) (hf : fIn f) : Calls Try.prog 69 #[fV f] w (Gives (if rdok f then fBV (rd f) true else fBV fZ false) w) := by
  have S1 := Lib.hid (rs_meet f.2 (bSp f.1))
  have M := Lib.hid (rmeet_says f.1 (rS (rdS f)))
  have R := Lib.hid fun w => rf_ranged (rdS f) w (rdS_in hf)
  unfold rdok rd
  cases h1 : sMok f.2 (bSp f.1)
  · rw [h1] at S1
    exact rf_round_n f _ w S1
  · rw [h1] at S1
    cases h2 : tMok f.1 (rS (rdS f))
    · rw [h2] at M
      exact rf_round_f f _ _ _ w (rdS_in hf) S1 R M
    · rw [h2] at M
      exact rf_round_t f _ _ _ w (rdS_in hf) S1 R M

end Go.Proofs.Ytdgckjkdimnpoaa

namespace Go.Proofs.Ytdgckjkdimnpoaa
open Go.RowKit
set_option maxRecDepth 100000
set_option linter.unusedVariables false

theorem right_says (t : Tn) (w : World) : Calls Try.prog 70 #[tV t] w (Gives (.bool (tR t)) w) := by
  go_enter Try.func70, Try.ntmps70
  go_wp2
  go_ret
  exact ⟨end_bool (by rw [bv_and, bv_eq0]; rfl), below_alloc (Below.refl _ _) _⟩
theorem has_says (t : Tn) (n : BitVec 64) (w : World) : Calls Try.prog 71 #[tV t, uV n] w (Gives (.bool (tH t n)) w) := by
  go_enter Try.func71, Try.ntmps71
  go_wp2
  go_ret
  exact ⟨end_bool (by rw [bv_andNot, bv_beq]; rfl), below_alloc (Below.refl _ _) _⟩
theorem both_says (a b : Tn) (w : World) : Calls Try.prog 84 #[tV a, tV b] w (Gives (.bool (tRR a b)) w) := by
  have h1 := Lib.hid (right_says a)
  have h2 := Lib.hid (right_says b)
  have hb := Lib.hid (Box.new (w.alloc (.cells #[uV a.1, uV a.2] 24)) b (g := w.heap.size + 1) (by simp))
  have hw := Lib.hid (below_alloc (below_alloc (Below.refl w.heap.size w) (.cells #[uV a.1, uV a.2] 24)) (.cells #[uV b.1, uV b.2] 24))
  unfold tRR
  cases ha : tR a
  · rw [ha] at h1
    clear ha
    generalize tR b = y at *
    go_enter Try.func84, Try.ntmps84
    go_wp2_with fail
    refine (h1.out _).mono ?_; rintro e w1 ⟨rfl, b1⟩
    go_wp2_with fail
    go_ret
    exact ⟨rfl, below_next' hw.out b1⟩
  · rw [ha] at h1
    clear ha
    generalize tR b = y at *
    go_enter Try.func84, Try.ntmps84
    go_wp2_with fail
    refine (h1.out _).mono ?_; rintro e w1 ⟨rfl, b1⟩
    obtain ⟨p0, p1⟩ := (hb.out.after b1).cells
    go_wp2_with fail
    refine (h2.out _).mono ?_; rintro e w2 ⟨rfl, b2⟩
    go_wp2_with fail
    go_ret
    exact ⟨rfl, below_next' (below_next' hw.out b1) b2⟩
theorem made_says (v m : BitVec 64) (w : World) : Calls Try.prog 85 #[uV v, uV m] w (Gives (tV (tMade v m)) w) := by
  go_enter Try.func85, Try.ntmps85
  go_wp2
  rw [bv_andNot]
  refine bodyPost_ret (v := tV (tMade v m)) (by simp [results, Try.results85, go_sem, tMade]) rfl ⟨rfl, ?_⟩
  exact below_alloc (Below.refl _ _) _
end Go.Proofs.Ytdgckjkdimnpoaa

namespace Go.Proofs.Ytdgckjkdimnpoaa
open Go.RowKit
set_option maxRecDepth 100000
set_option linter.unusedVariables false

set_option maxRecDepth 100000 in
set_option maxHeartbeats 1000000 in
theorem within_says (a b : Tn) (w : World) : Calls Try.prog 60 #[tV a, tV b] w (Gives (.bool (tW a b)) w) := by
  have hx := Lib.hid (Pair.new a b w)
  have h1 := Lib.hid (right_says a)
  have h2 := Lib.hid (has_says b a.1)
  have e1 := Lib.hid (show (bits .andNot .u64 (a.2.toNat : Int) (b.2.toNat : Int) == 0) = (a.2 &&& ~~~b.2 == 0#64) by rw [bv_andNot, bv_eq0])
  unfold tW
  generalize tR a = r1 at *
  generalize tH b a.1 = r2 at *
  generalize (a.2 &&& ~~~b.2 == 0#64) = r3 at *
  go_enter Try.func60, Try.ntmps60
  go_wp2_with fail
  refine (h1.out _).mono ?_; rintro e w1 ⟨rfl, b1⟩
  have x1 := hx.out.after b1
  obtain ⟨p0, p1, p2, p3⟩ := x1.cells
  have X1 := Lib.hid x1
  clear x1 b1
  cases r1
  · go_wp2_with fail
    go_ret
    exact ⟨rfl, X1.out.1⟩
  · cases r3
    · have e2 := e1.out
      clear e1
      go_wp2_with fail
      go_ret
      exact ⟨rfl, X1.out.1⟩
    · have e2 := e1.out
      clear e1
      go_wp2_with fail
      refine (h2.out _).mono ?_; rintro e w2 ⟨rfl, b2⟩
      go_wp2_with fail
      go_ret
      exact ⟨rfl, below_next' X1.out.1 b2⟩
end Go.Proofs.Ytdgckjkdimnpoaa

namespace Go.Proofs.Ytdgckjkdimnpoaa
open Go.RowKit
set_option maxRecDepth 100000
set_option linter.unusedVariables false

set_option maxRecDepth 100000 in
set_option maxHeartbeats 1000000 in
theorem meet_says (a b : Tn) (w : World) : Calls Try.prog 77 #[tV a, tV b] w (Gives (tBV (tM a b) (tMok a b)) w) := by
  have hx := Lib.hid (Trio.new a b w)
  have h1 := Lib.hid (both_says a b)
  have e1 := Lib.hid (show (bits .andNot .u64 (bits .xor .u64 (a.1.toNat : Int) (b.1.toNat : Int)) (bits .or .u64 (a.2.toNat : Int) (b.2.toNat : Int)) != 0) = !((a.1 ^^^ b.1) &&& ~~~(a.2 ||| b.2) == 0#64) by rw [bv_xor, bv_or, bv_andNot, bv_ne0])
  unfold tM
  unfold tMok
  generalize ((a.1 ^^^ b.1) &&& ~~~(a.2 ||| b.2) == 0#64) = r2 at *
  generalize tRR a b = r1 at *
  generalize ht : tMade (a.1 ||| b.1) (a.2 &&& b.2) = t at *
  have ht := Lib.hid ht
  cases r1
  · show Calls _ _ _ _ (Gives (tBV (0#64, 0#64) false) w)
    clear e1
    go_enter Try.func77, Try.ntmps77
    go_wp2_with fail
    refine (h1.out _).mono ?_; rintro e w1 ⟨rfl, b1⟩
    have x1 := hx.out.after b1
    obtain ⟨c0, c1⟩ := x1.2.cells
    obtain ⟨f0, f1⟩ := x1.2.free
    have X1 := Lib.hid (x1.set (0#64, 0#64))
    clear x1 hx b1
    go_wp2_with fail
    exact bodyPost_ret (v := tBV (0#64, 0#64) false) (by simp [results, Try.results77, go_sem, c0, c1]) rfl ⟨rfl, X1.out.1.1⟩
  · cases r2
    · show Calls _ _ _ _ (Gives (tBV (0#64, 0#64) false) w)
      go_enter Try.func77, Try.ntmps77
      go_wp2_with fail
      refine (h1.out _).mono ?_; rintro e w1 ⟨rfl, b1⟩
      have x1 := hx.out.after b1
      obtain ⟨p0, p1, p2, p3⟩ := x1.1.cells
      obtain ⟨c0, c1⟩ := x1.2.cells
      obtain ⟨f0, f1⟩ := x1.2.free
      have X1 := Lib.hid (x1.set (0#64, 0#64))
      have e2 := e1.out
      clear x1 hx b1 e1
      go_wp2_with fail
      exact bodyPost_ret (v := tBV (0#64, 0#64) false) (by simp [results, Try.results77, go_sem, c0, c1]) rfl ⟨rfl, X1.out.1.1⟩
    · show Calls _ _ _ _ (Gives (tBV t true) w)
      go_enter Try.func77, Try.ntmps77
      go_wp2_with fail
      refine (h1.out _).mono ?_; rintro e w1 ⟨rfl, b1⟩
      have x1 := hx.out.after b1
      obtain ⟨p0, p1, p2, p3⟩ := x1.1.cells
      obtain ⟨c0, c1⟩ := x1.2.cells
      obtain ⟨f0, f1⟩ := x1.2.free
      have X1 := Lib.hid x1
      have e2 := e1.out
      clear x1 hx b1 e1
      go_wp2_with fail
      simp only [bv_and, bv_or]
      refine (made_says _ _ _).mono ?_; rintro e w2 ⟨rfl, b2⟩
      rw [ht.out]
      have x2 := X1.out.after b2
      clear p0 p1 p2 p3 c0 c1 f0 f1 X1 b2 ht
      obtain ⟨c0, c1⟩ := x2.2.cells
      obtain ⟨f0, f1⟩ := x2.2.free
      have X2 := Lib.hid (x2.set t)
      clear x2
      go_wp2_with fail
      exact bodyPost_ret (v := tBV t true) (by simp [results, Try.results77, go_sem, c0, c1]) rfl ⟨rfl, X2.out.1.1⟩

end Go.Proofs.Ytdgckjkdimnpoaa

namespace Go.Proofs.Ytdgckjkdimnpoaa
open Go.RowKit
set_option maxRecDepth 100000
set_option linter.unusedVariables false

set_option maxHeartbeats 4000000 in
theorem fp_round_t (f : Fc) (s : Sp) (r t : Tn) (w : World) (hs : sIn s)
    (S1 : Hid (∀ w, Calls Try.prog 76 #[sV f.2, sV (bSp f.1)] w (Gives (sBV s true) w)))
    (R : Hid (∀ w, Calls Try.prog 78 #[sV s] w (Gives (tV r) w)))
    (M : Hid (∀ w, Calls Try.prog 77 #[tV f.1, tV r] w (Gives (tBV t true) w))) :
    Calls Try.prog 66 #[fV f] w (Gives (fBV (t, s) true) w) := by
  have hx := Lib.hid (FDuo.new f fZ w)
  go_enter Try.func66, Try.ntmps66
  go_wp2_with fail
  simp only [bv_or]
  refine (S1.out _).mono ?_; rintro e w1 ⟨rfl, b1⟩
  have x1 := hx.out.after b1
  obtain ⟨c0, c1, c2, c3⟩ := x1.2.1.cells
  have X1 := Lib.hid x1
  have SB := Lib.hid (sB.new w1 s (g := w1.heap.size) rfl)
  clear x1 hx b1
  go_wp2_with fail
  have X2 := Lib.hid (X1.out.alloc (.cells #[.int .u64 s.1, .int .u64 s.2] 26))
  generalize w1.heap.size = gs at *
  generalize w1.alloc (.cells #[.int .u64 s.1, .int .u64 s.2] 26) = w2 at *
  have HB : Below w2.heap.size w2 w2.drew := Below.drew (Below.refl _ _)
  have H := Lib.hid (fun (wx : World) (hx : Below w2.heap.size w2 wx) => And.intro (X2.out.after hx).2.1.cells (SB.out.after hx).cells)
  have K := Lib.hid (fun (wx : World) (hx : Below w2.heap.size w2 wx) => And.intro (And.intro (X2.out.after hx).2.1.cells.1 (X2.out.after hx).2.1.cells.2.1) (SB.out.after hx).cells)
  clear c0 c1 c2 c3 X1 H
  have HA : Below w2.heap.size w2 ((w2.alloc (.cells #[.int .u64 0, .int .u64 0] 24)).drew) := Below.drew (below_alloc (Below.refl _ _) _)
  have z1 := SB.out.lt
  have z2 := X2.out.2.1.lt
  go_region_held3 (fun w' => (w'.cell? ⟨w.heap.size, 0, none⟩ = some (uV f.1.1) ∧ w'.cell? ⟨w.heap.size, 1, none⟩ = some (uV f.1.2)) ∧ w'.cell? ⟨gs, 0, none⟩ = some (.int .u64 s.1) ∧ w'.cell? ⟨gs, 1, none⟩ = some (.int .u64 s.2))
    (first
      | exact K.out _ HB
      | exact K.out _ (Below.drew HB)
      | exact K.out _ (below_alloc HB _)
      | exact K.out _ (Below.drew (below_alloc HB _))
      | exact K.out _ (below_alloc (Below.drew HB) _)
      | exact K.out _ ((HB.setCell (by dsimp only; omega) _).setCell (by dsimp only; omega) _)
      | exact K.out _ (((below_alloc HB _).setCell (by dsimp only; omega) _).setCell (by dsimp only; omega) _)
      | exact K.out _ HA)
    (first
      | (go_at_call 78; refine (R.out _).mono ?_; rintro e w6 ⟨rfl, hb6⟩;
         (first | have TB := zB.made hb6 | have TB := (show zB w2.heap.size w6 from zB.made (w := w2.drew) hb6) | skip);
         (first | replace HB := below_next' HB hb6 | replace HB := below_next' (below_alloc HB _) hb6); clear hb6; have n6 := HB.size)
      | (go_at_call 77; refine (M.out _).mono ?_; rintro e w7 ⟨rfl, hb7⟩;
         (first | replace TB := zB.after TB hb7 | have TB := zB.made hb7 | skip);
         (first | replace HB := below_next' HB hb7 | replace HB := below_next' (below_alloc HB _) hb7); clear hb7; have n7 := HB.size; (try obtain ⟨t0, t1⟩ := TB.cells); (try obtain ⟨f0, f1⟩ := TB.free)))
  all_goals
    rename_i hh
    clear hh
    have x7 := X2.out.after HB
    have s7 := SB.out.after HB
    have n2 := X2.out.2.2.lt
    have k9 : gs < w6.heap.size := by omega
    have k10 : w.heap.size + 1 < w6.heap.size := by omega
    first
      | (have TU := Lib.hid (Box.set (show Box w6.heap.size (0#64, 0#64) w7 from TB) t)
         have XU := Lib.hid (x7.far (k := w6.heap.size) (by omega) (uV t.1) (uV t.2))
         have SU := Lib.hid (sB.other (sB.other s7 (o := 0) (k := w6.heap.size) (uV t.1) (by omega)) (o := 1) (k := w6.heap.size) (uV t.2) (by omega))
         clear TB HB K HA
         generalize w6.heap.size = gt at *
         generalize (World.setCell (World.setCell w7 ⟨gt, 0, none⟩ (uV t.1)) ⟨gt, 1, none⟩ (uV t.2)) = u at TU XU SU ⊢)
      | (have TU := Lib.hid (Box.set (show Box w2.heap.size (0#64, 0#64) w7 from TB) t)
         have XU := Lib.hid (x7.far (k := w2.heap.size) (by omega) (uV t.1) (uV t.2))
         have SU := Lib.hid (sB.other (sB.other s7 (o := 0) (k := w2.heap.size) (uV t.1) (by omega)) (o := 1) (k := w2.heap.size) (uV t.2) (by omega))
         clear TB HB K HA
         generalize w2.heap.size = gt at *
         generalize (World.setCell (World.setCell w7 ⟨gt, 0, none⟩ (uV t.1)) ⟨gt, 1, none⟩ (uV t.2)) = u at TU XU SU ⊢)
      | (have TU := Lib.hid (Box.new w7 t rfl)
         have XU := Lib.hid (x7.alloc (.cells #[uV t.1, uV t.2] 24))
         have SU := Lib.hid (sB.alloc s7 (.cells #[uV t.1, uV t.2] 24))
         clear HB K HA
         generalize w7.heap.size = gt at *
         generalize World.alloc w7 (.cells #[uV t.1, uV t.2] 24) = u at TU XU SU ⊢)
    all_goals
      obtain ⟨e0, e1, e2, e3⟩ := XU.out.2.2.cells
      obtain ⟨g0, g1, g2, g3⟩ := XU.out.2.2.free
      obtain ⟨q0, q1⟩ := SU.out.cells
      obtain ⟨u0, u1⟩ := TU.out.cells
      have XE := Lib.hid (XU.out.set (t, s))
      clear XU SU TU x7 s7
      go_wp2_with fail
      exact bodyPost_ret (v := fBV (t, s) true) (by simp [results, Try.results66, go_sem, e0, e1, e2, e3]) rfl ⟨rfl, XE.out.1⟩

set_option maxHeartbeats 4000000 in
theorem fp_round_f (f : Fc) (s : Sp) (r t : Tn) (w : World) (hs : sIn s)
    (S1 : Hid (∀ w, Calls Try.prog 76 #[sV f.2, sV (bSp f.1)] w (Gives (sBV s true) w)))
    (R : Hid (∀ w, Calls Try.prog 78 #[sV s] w (Gives (tV r) w)))
    (M : Hid (∀ w, Calls Try.prog 77 #[tV f.1, tV r] w (Gives (tBV t false) w))) :
    Calls Try.prog 66 #[fV f] w (Gives (fBV fZ false) w) := by
  have hx := Lib.hid (FDuo.new f fZ w)
  go_enter Try.func66, Try.ntmps66
  go_wp2_with fail
  simp only [bv_or]
  refine (S1.out _).mono ?_; rintro e w1 ⟨rfl, b1⟩
  have x1 := hx.out.after b1
  obtain ⟨c0, c1, c2, c3⟩ := x1.2.1.cells
  have X1 := Lib.hid x1
  have SB := Lib.hid (sB.new w1 s (g := w1.heap.size) rfl)
  clear x1 hx b1
  go_wp2_with fail
  have X2 := Lib.hid (X1.out.alloc (.cells #[.int .u64 s.1, .int .u64 s.2] 26))
  generalize w1.heap.size = gs at *
  generalize w1.alloc (.cells #[.int .u64 s.1, .int .u64 s.2] 26) = w2 at *
  have HB : Below w2.heap.size w2 w2.drew := Below.drew (Below.refl _ _)
  have H := Lib.hid (fun (wx : World) (hx : Below w2.heap.size w2 wx) => And.intro (X2.out.after hx).2.1.cells (SB.out.after hx).cells)
  have K := Lib.hid (fun (wx : World) (hx : Below w2.heap.size w2 wx) => And.intro (And.intro (X2.out.after hx).2.1.cells.1 (X2.out.after hx).2.1.cells.2.1) (SB.out.after hx).cells)
  clear c0 c1 c2 c3 X1 H
  have HA : Below w2.heap.size w2 ((w2.alloc (.cells #[.int .u64 0, .int .u64 0] 24)).drew) := Below.drew (below_alloc (Below.refl _ _) _)
  have z1 := SB.out.lt
  have z2 := X2.out.2.1.lt
  go_region_held3 (fun w' => (w'.cell? ⟨w.heap.size, 0, none⟩ = some (uV f.1.1) ∧ w'.cell? ⟨w.heap.size, 1, none⟩ = some (uV f.1.2)) ∧ w'.cell? ⟨gs, 0, none⟩ = some (.int .u64 s.1) ∧ w'.cell? ⟨gs, 1, none⟩ = some (.int .u64 s.2))
    (first
      | exact K.out _ HB
      | exact K.out _ (Below.drew HB)
      | exact K.out _ (below_alloc HB _)
      | exact K.out _ (Below.drew (below_alloc HB _))
      | exact K.out _ (below_alloc (Below.drew HB) _)
      | exact K.out _ ((HB.setCell (by dsimp only; omega) _).setCell (by dsimp only; omega) _)
      | exact K.out _ (((below_alloc HB _).setCell (by dsimp only; omega) _).setCell (by dsimp only; omega) _)
      | exact K.out _ HA)
    (first
      | (go_at_call 78; refine (R.out _).mono ?_; rintro e w6 ⟨rfl, hb6⟩;
         (first | have TB := zB.made hb6 | have TB := (show zB w2.heap.size w6 from zB.made (w := w2.drew) hb6) | skip);
         (first | replace HB := below_next' HB hb6 | replace HB := below_next' (below_alloc HB _) hb6); clear hb6; have n6 := HB.size)
      | (go_at_call 77; refine (M.out _).mono ?_; rintro e w7 ⟨rfl, hb7⟩;
         (first | replace TB := zB.after TB hb7 | have TB := zB.made hb7 | skip);
         (first | replace HB := below_next' HB hb7 | replace HB := below_next' (below_alloc HB _) hb7); clear hb7; have n7 := HB.size; (try obtain ⟨t0, t1⟩ := TB.cells); (try obtain ⟨f0, f1⟩ := TB.free)))
  all_goals
    rename_i hh
    clear hh
    have x7 := X2.out.after HB
    have s7 := SB.out.after HB
    have n2 := X2.out.2.2.lt
    have k9 : gs < w6.heap.size := by omega
    have k10 : w.heap.size + 1 < w6.heap.size := by omega
    first
      | (have TU := Lib.hid (Box.set (show Box w6.heap.size (0#64, 0#64) w7 from TB) t)
         have XU := Lib.hid (x7.far (k := w6.heap.size) (by omega) (uV t.1) (uV t.2))
         have SU := Lib.hid (sB.other (sB.other s7 (o := 0) (k := w6.heap.size) (uV t.1) (by omega)) (o := 1) (k := w6.heap.size) (uV t.2) (by omega))
         clear TB HB K HA
         generalize w6.heap.size = gt at *
         generalize (World.setCell (World.setCell w7 ⟨gt, 0, none⟩ (uV t.1)) ⟨gt, 1, none⟩ (uV t.2)) = u at TU XU SU ⊢)
      | (have TU := Lib.hid (Box.set (show Box w2.heap.size (0#64, 0#64) w7 from TB) t)
         have XU := Lib.hid (x7.far (k := w2.heap.size) (by omega) (uV t.1) (uV t.2))
         have SU := Lib.hid (sB.other (sB.other s7 (o := 0) (k := w2.heap.size) (uV t.1) (by omega)) (o := 1) (k := w2.heap.size) (uV t.2) (by omega))
         clear TB HB K HA
         generalize w2.heap.size = gt at *
         generalize (World.setCell (World.setCell w7 ⟨gt, 0, none⟩ (uV t.1)) ⟨gt, 1, none⟩ (uV t.2)) = u at TU XU SU ⊢)
      | (have TU := Lib.hid (Box.new w7 t rfl)
         have XU := Lib.hid (x7.alloc (.cells #[uV t.1, uV t.2] 24))
         have SU := Lib.hid (sB.alloc s7 (.cells #[uV t.1, uV t.2] 24))
         clear HB K HA
         generalize w7.heap.size = gt at *
         generalize World.alloc w7 (.cells #[uV t.1, uV t.2] 24) = u at TU XU SU ⊢)
    all_goals
      obtain ⟨e0, e1, e2, e3⟩ := XU.out.2.2.cells
      obtain ⟨g0, g1, g2, g3⟩ := XU.out.2.2.free
      obtain ⟨q0, q1⟩ := SU.out.cells
      obtain ⟨u0, u1⟩ := TU.out.cells
      have XE := Lib.hid (XU.out.set fZ)
      clear XU SU TU x7 s7
      go_wp2_with fail
      exact bodyPost_ret (v := fBV fZ false) (by simp [results, Try.results66, go_sem, e0, e1, e2, e3, fZ]) rfl ⟨rfl, XE.out.1⟩

set_option maxHeartbeats 1000000 in
theorem fp_round_n (f : Fc) (s : Sp) (w : World)
    (S1 : Hid (∀ w, Calls Try.prog 76 #[sV f.2, sV (bSp f.1)] w (Gives (sBV s false) w))) :
    Calls Try.prog 66 #[fV f] w (Gives (fBV fZ false) w) := by
  have hx := Lib.hid (FDuo.new f fZ w)
  go_enter Try.func66, Try.ntmps66
  go_wp2_with fail
  simp only [bv_or]
  refine (S1.out _).mono ?_; rintro e w1 ⟨rfl, b1⟩
  have x1 := hx.out.after b1
  obtain ⟨e0, e1, e2, e3⟩ := x1.2.2.cells
  obtain ⟨g0, g1, g2, g3⟩ := x1.2.2.free
  have k1 := x1.2.2.lt
  have XE := Lib.hid ((x1.set fZ).alloc (.cells #[.int .u64 s.1, .int .u64 s.2] 26))
  clear x1 hx b1
  go_wp2_with fail
  exact bodyPost_ret (v := fBV fZ false) (by simp [results, Try.results66, go_sem, e0, e1, e2, e3, fZ, k1]) rfl ⟨rfl, XE.out.1⟩

/-- One round: what comes of it, or nothing. -/
theorem fp_round (f : Fc) (w : World) (hf : fIn f) : Calls Try.prog 66 #[fV f] w (Gives (if rdok f then fBV (rd f) true else fBV fZ false) w) := by
  have S1 := Lib.hid (smeet_says f.2 (bSp f.1))
  have M := Lib.hid (meet_says f.1 (rS (rdS f)))
  have R := Lib.hid fun w => fp_told (rdS f) w (rdS_in hf)
  unfold rdok rd
  cases h1 : sMok f.2 (bSp f.1)
  · rw [h1] at S1
    exact fp_round_n f _ w S1
  · rw [h1] at S1
    cases h2 : tMok f.1 (rS (rdS f))
    · rw [h2] at M
      exact fp_round_f f _ _ _ w (rdS_in hf) S1 R M
    · rw [h2] at M
      exact fp_round_t f _ _ _ w (rdS_in hf) S1 R M

end Go.Proofs.Ytdgckjkdimnpoaa

namespace Go.Proofs.Ytdgckjkdimnpoaa
open Go.RowKit
set_option maxRecDepth 100000
set_option linter.unusedVariables false

set_option maxHeartbeats 4000000 in
theorem rf_settle_run (f : Fc) (w : World) (hf : fIn f) (hr : fRR f = true) : Calls Try.prog 57 #[fV f] w (Gives (fBV ((fS f).getD fZ) (fS f).isSome) w) := by
  have R1 : Hid (∀ w, Calls Try.prog 67 #[tV f.1] w (Gives (.bool true) w)) := Lib.hid fun w => by
    have h := rright_says f.1 w
    rw [(fRR_iff.mp hr).1] at h
    exact h
  have R2 : Hid (∀ w, Calls Try.prog 68 #[sV f.2] w (Gives (.bool true) w)) := Lib.hid fun w => by
    have h := rs_right f.2 w
    rw [(fRR_iff.mp hr).2] at h
    exact h
  have hx := Lib.hid (FDuo.new f fZ w)
  have HR := Lib.hid fun (g : Fc) (hg : fIn g) => fun w => rf_round g w hg
  have h80 : fS f = fIt 80 f := by unfold fS; rw [if_pos hr]
  rw [h80]
  generalize hF : fIt 80 f = F
  have HF := Lib.hid hF
  clear hF h80
  generalize hV : fBV (F.getD fZ) F.isSome = V
  have HV := Lib.hid hV
  clear hV
  go_enter Try.func57, Try.ntmps57
  go_wp2_with fail
  refine (R1.out _).mono ?_; rintro e w1 ⟨rfl, b1⟩
  have x1 := hx.out.after b1
  obtain ⟨c0, c1, c2, c3⟩ := x1.2.1.cells
  have X1 := Lib.hid x1
  clear x1 hx b1
  go_wp2_with fail
  refine (R2.out _).mono ?_; rintro e w2 ⟨rfl, b2⟩
  have X2 := Lib.hid (X1.out.after b2)
  clear X1 b2 c0 c1 c2 c3
  go_wp2_with fail
  clear R1 R2
  go_loopw [4] (fun i wr => ∃ (j : Nat) (g : Fc), j ≤ 80 ∧ i = .int .i64 j ∧ fIn g ∧ fRR g = true ∧ fIt (80 - j) g = F ∧ Hid (FDuo g fZ w wr)) (fun i _ => 80 - (intOf i).toNat)
  case atStart => exact ⟨0, f, by omega, rfl, hf, hr, HF.out, X2⟩
  case round =>
    obtain ⟨j, g, hj, rfl, ig, rg, hg, X⟩ := hrel
    have R := Lib.hid (HR.out g ig)
    obtain ⟨c0, c1, c2, c3⟩ := X.out.2.1.cells
    by_cases hlt : (j : Int) < 80
    · obtain ⟨n, hn⟩ : ∃ n, 80 - j = n + 1 := ⟨79 - j, by omega⟩
      rw [hn] at hg
      cases h : rdok g
      · have hV : V = fBV fZ false := by rw [← HV.out, ← hg, fIt_no h]; rfl
        subst hV
        rw [h, if_neg (by decide)] at R
        clear HR HV HF hg
        go_wp2_with fail
        refine (R.out _).mono ?_; rintro e w3 ⟨rfl, b3⟩
        have x3 := X.out.after b3
        obtain ⟨e0, e1, e2, e3⟩ := x3.2.2.cells
        obtain ⟨g0, g1, g2, g3⟩ := x3.2.2.free
        have k1 := x3.2.2.lt
        have XE := Lib.hid ((x3.set fZ).alloc (.cells (fCells fZ) 28))
        clear x3 X b3 c0 c1 c2 c3 R
        go_wp2_with fail
        exact bodyPost_ret (v := fBV fZ false) (by simp [results, Try.results57, go_sem, e0, e1, e2, e3, fZ, k1]) rfl ⟨rfl, XE.out.1⟩
      · rw [h, if_pos rfl] at R
        by_cases he : rd g = g
        · have hV : V = fBV g true := by rw [← HV.out, ← hg, fIt_end h he]; rfl
          subst hV
          rw [he] at R
          clear HR HV HF hg
          go_wp2_with fail
          refine (R.out _).mono ?_; rintro e w3 ⟨rfl, b3⟩
          have x3 := X.out.after b3
          obtain ⟨e0, e1, e2, e3⟩ := x3.2.2.cells
          obtain ⟨g0, g1, g2, g3⟩ := x3.2.2.free
          have k1 := x3.2.2.lt
          have XE := Lib.hid ((x3.set g).alloc (.cells (fCells g) 28))
          clear c0 c1 c2 c3
          obtain ⟨c0, c1, c2, c3⟩ := x3.2.1.cells
          have k2 := x3.2.1.lt
          clear x3 X b3 R
          go_wp2_with fail
          exact bodyPost_ret (v := fBV g true) (by simp [results, Try.results57, go_sem, e0, e1, e2, e3, k1]) rfl ⟨rfl, XE.out.1⟩
        · rw [fIt_on h he] at hg
          have ig2 := rd_in ig
          have rg2 := rd_right h
          have hne : (¬ ((rd g).1.1.toNat : Int) = (g.1.1.toNat : Int)) ∨ (((rd g).1.1.toNat : Int) = (g.1.1.toNat : Int) ∧ ¬ ((rd g).1.2.toNat : Int) = (g.1.2.toNat : Int)) ∨
              (((rd g).1.1.toNat : Int) = (g.1.1.toNat : Int) ∧ ((rd g).1.2.toNat : Int) = (g.1.2.toNat : Int) ∧ ¬ (rd g).2.1 = g.2.1) ∨
              (((rd g).1.1.toNat : Int) = (g.1.1.toNat : Int) ∧ ((rd g).1.2.toNat : Int) = (g.1.2.toNat : Int) ∧ (rd g).2.1 = g.2.1 ∧ ¬ (rd g).2.2 = g.2.2) := by
            have hb : ∀ x y : BitVec 64, (x.toNat : Int) = (y.toNat : Int) → x = y := fun x y h => BitVec.eq_of_toNat_eq (by omega)
            by_cases a1 : ((rd g).1.1.toNat : Int) = (g.1.1.toNat : Int)
            · by_cases a2 : ((rd g).1.2.toNat : Int) = (g.1.2.toNat : Int)
              · by_cases a3 : (rd g).2.1 = g.2.1
                · by_cases a4 : (rd g).2.2 = g.2.2
                  · exact absurd (Prod.ext (Prod.ext (hb _ _ a1) (hb _ _ a2)) (Prod.ext a3 a4)) he
                  · exact .inr (.inr (.inr ⟨a1, a2, a3, a4⟩))
                · exact .inr (.inr (.inl ⟨a1, a2, a3⟩))
              · exact .inr (.inl ⟨a1, a2⟩)
            · exact .inl a1
          have hg2 : fIt (80 - (j + 1)) (rd g) = F := by rw [show 80 - (j + 1) = n by omega]; exact hg
          have HG := Lib.hid hg2
          clear hg hg2 he
          generalize rd g = g' at *
          clear HR
          rcases hne with a1 | ⟨a1, a2⟩ | ⟨a1, a2, a3⟩ | ⟨a1, a2, a3, a4⟩
          all_goals
            go_wp2_with fail
            refine (R.out _).mono ?_; rintro e w3 ⟨rfl, b3⟩
            have x3 := X.out.after b3
            clear c0 c1 c2 c3
            obtain ⟨c0, c1, c2, c3⟩ := x3.2.1.cells
            obtain ⟨f0, f1, f2, f3⟩ := x3.2.1.free
            have k2 := x3.2.1.lt
            have XN := Lib.hid ((x3.setA g').alloc (.cells (fCells g') 28))
            clear X b3 R x3
            go_wp2_with fail
            go_round
            case rel =>
              have XM := XN.out
              simp only [fCells, uV] at XM
              try rw [a1] at XM
              try rw [a2] at XM
              try rw [a3] at XM
              exact ⟨j + 1, g', by omega, by go_num, ig2, rg2, HG.out, Lib.hid XM⟩
            case measure => first | (simp [intOf]; done) | (simp [intOf]; omega)
    · have hj2 : j = 80 := by omega
      subst hj2
      have hV : V = fBV g true := by rw [← HV.out, ← hg]; rfl
      subst hV
      clear HR HV HF hg R
      obtain ⟨e0, e1, e2, e3⟩ := X.out.2.2.cells
      obtain ⟨g0, g1, g2, g3⟩ := X.out.2.2.free
      have XE := Lib.hid (X.out.set g)
      clear X
      go_wp2_with fail
      exact bodyPost_ret (v := fBV g true) (by simp [results, Try.results57, go_sem, e0, e1, e2, e3]) rfl ⟨rfl, XE.out.1⟩

/-- Two facts that are not one part somewhere first. -/
theorem fc_ne {a b : Fc} (h : ¬ a = b) : (¬ (a.1.1.toNat : Int) = (b.1.1.toNat : Int)) ∨ ((a.1.1.toNat : Int) = (b.1.1.toNat : Int) ∧ ¬ (a.1.2.toNat : Int) = (b.1.2.toNat : Int)) ∨
    ((a.1.1.toNat : Int) = (b.1.1.toNat : Int) ∧ (a.1.2.toNat : Int) = (b.1.2.toNat : Int) ∧ ¬ a.2.1 = b.2.1) ∨
    ((a.1.1.toNat : Int) = (b.1.1.toNat : Int) ∧ (a.1.2.toNat : Int) = (b.1.2.toNat : Int) ∧ a.2.1 = b.2.1 ∧ ¬ a.2.2 = b.2.2) := by
  have hb : ∀ x y : BitVec 64, (x.toNat : Int) = (y.toNat : Int) → x = y := fun x y h => BitVec.eq_of_toNat_eq (by omega)
  by_cases a1 : (a.1.1.toNat : Int) = (b.1.1.toNat : Int)
  · by_cases a2 : (a.1.2.toNat : Int) = (b.1.2.toNat : Int)
    · by_cases a3 : a.2.1 = b.2.1
      · by_cases a4 : a.2.2 = b.2.2
        · exact absurd (Prod.ext (Prod.ext (hb _ _ a1) (hb _ _ a2)) (Prod.ext a3 a4)) h
        · exact .inr (.inr (.inr ⟨a1, a2, a3, a4⟩))
      · exact .inr (.inr (.inl ⟨a1, a2, a3⟩))
    · exact .inr (.inl ⟨a1, a2⟩)
  · exact .inl a1

set_option maxHeartbeats 1000000 in
theorem rf_settle (f : Fc) (w : World) (hf : fIn f) : Calls Try.prog 57 #[fV f] w (Gives (fBV ((fS f).getD fZ) (fS f).isSome) w) := by
  cases hr : fRR f
  · have hz : fS f = none := by unfold fS; rw [hr]; rfl
    rw [hz]
    show Calls _ _ _ _ (Gives (fBV fZ false) w)
    have R1 := Lib.hid fun w => rright_says f.1 w
    have R2 := Lib.hid fun w => rs_right f.2 w
    have hx := Lib.hid (FDuo.new f fZ w)
    cases h1 : tR f.1
    · rw [h1] at R1
      clear hr hz
      go_enter Try.func57, Try.ntmps57
      go_wp2_with fail
      refine (R1.out _).mono ?_; rintro e w1 ⟨rfl, b1⟩
      have x1 := hx.out.after b1
      obtain ⟨e0, e1, e2, e3⟩ := x1.2.2.cells
      obtain ⟨g0, g1, g2, g3⟩ := x1.2.2.free
      have XE := Lib.hid (x1.set fZ)
      clear x1 hx b1
      go_wp2_with fail
      exact bodyPost_ret (v := fBV fZ false) (by simp [results, Try.results57, go_sem, e0, e1, e2, e3, fZ]) rfl ⟨rfl, XE.out.1⟩
    · have h2 : sR f.2 = false := by
        unfold fRR at hr
        rw [h1] at hr
        simpa using hr
      rw [h1] at R1
      rw [h2] at R2
      clear hr hz
      go_enter Try.func57, Try.ntmps57
      go_wp2_with fail
      refine (R1.out _).mono ?_; rintro e w1 ⟨rfl, b1⟩
      have x1 := hx.out.after b1
      obtain ⟨c0, c1, c2, c3⟩ := x1.2.1.cells
      have X1 := Lib.hid x1
      clear x1 hx b1
      go_wp2_with fail
      refine (R2.out _).mono ?_; rintro e w2 ⟨rfl, b2⟩
      have x2 := X1.out.after b2
      obtain ⟨e0, e1, e2, e3⟩ := x2.2.2.cells
      obtain ⟨g0, g1, g2, g3⟩ := x2.2.2.free
      have XE := Lib.hid (x2.set fZ)
      clear x2 X1 b2 c0 c1 c2 c3
      go_wp2_with fail
      exact bodyPost_ret (v := fBV fZ false) (by simp [results, Try.results57, go_sem, e0, e1, e2, e3, fZ]) rfl ⟨rfl, XE.out.1⟩
  · exact rf_settle_run f w hf hr

set_option maxHeartbeats 1000000 in
theorem rf_right (f : Fc) (w : World) (hf : fIn f) : Calls Try.prog 46 #[fV f] w (Gives (.bool (fR f)) w) := by
  have S := Lib.hid fun w => rf_settle f w hf
  have hx := Lib.hid (show Blks w [(w.heap.size, fCells f, 28)] (w.alloc (.cells (fCells f) 28)) from (Blks.start w).new (fCells f) 28)
  cases hs : fS f with
  | none =>
    have e : fR f = false := by unfold fR; rw [hs]; exact decide_eq_false (fun h => by cases h)
    rw [hs] at S
    rw [e]
    replace S : Hid (∀ w, Calls Try.prog 57 #[fV f] w (Gives (fBV fZ false) w)) := S
    go_enter Try.func46, Try.ntmps46
    go_wp2_with fail
    refine (S.out _).mono ?_; rintro e w1 ⟨rfl, b1⟩
    have x1 := hx.out.after b1
    clear hx b1
    go_wp2_with fail
    go_ret
    exact ⟨rfl, below_alloc x1.1 _⟩
  | some g =>
    rw [hs] at S
    replace S : Hid (∀ w, Calls Try.prog 57 #[fV f] w (Gives (fBV g true) w)) := S
    by_cases hg : g = f
    · subst hg
      have e : fR g = true := decide_eq_true hs
      rw [e]
      go_enter Try.func46, Try.ntmps46
      go_wp2_with fail
      refine (S.out _).mono ?_; rintro e w1 ⟨rfl, b1⟩
      have x1 := hx.out.after b1
      have y1 : fB w.heap.size g w1 := x1.get (by simp)
      obtain ⟨c0, c1, c2, c3⟩ := y1.cells
      have k1 := y1.lt
      clear hx b1 y1
      go_wp2_with fail
      go_ret
      exact ⟨rfl, below_alloc x1.1 _⟩
    · have e : fR f = false := by unfold fR; rw [hs]; exact decide_eq_false (fun h => hg (Option.some.inj h))
      rw [e]
      rcases fc_ne hg with a1 | ⟨a1, a2⟩ | ⟨a1, a2, a3⟩ | ⟨a1, a2, a3, a4⟩
      all_goals
        go_enter Try.func46, Try.ntmps46
        go_wp2_with fail
        refine (S.out _).mono ?_; rintro e w1 ⟨rfl, b1⟩
        have x1 := hx.out.after b1
        have y1 : fB w.heap.size f w1 := x1.get (by simp)
        obtain ⟨c0, c1, c2, c3⟩ := y1.cells
        have k1 := y1.lt
        clear hx b1 y1
        go_wp2_with fail
        go_ret
        exact ⟨rfl, below_alloc x1.1 _⟩

end Go.Proofs.Ytdgckjkdimnpoaa

namespace Go.Proofs.Ytdgckjkdimnpoaa
open Go.RowKit
set_option maxRecDepth 100000
set_option linter.unusedVariables false

theorem rdok_RR {f : Fc} (h : rdok f = true) : fRR f = true := by
  obtain ⟨h1, h2⟩ := rdok_iff.mp h
  have k := sTok_le (show sTok (max f.2.1 (bSp f.1).1) (min f.2.2 (bSp f.1).2) = true from h1)
  have k2 : tRR f.1 (rS (rdS f)) = true := by
    unfold tMok at h2
    exact (Bool.and_eq_true_iff.mp h2).1
  unfold tRR at k2
  exact fRR_iff.mpr ⟨(Bool.and_eq_true_iff.mp k2).1, decide_eq_true (by omega)⟩
theorem fS_no {f : Fc} (h : rdok f = false) : fS f = none := by
  rw [fS_eq]
  split
  · exact fE_no h
  · rfl
theorem fS_end {f : Fc} (h : rdok f = true) (e : rd f = f) : fS f = some f := by
  rw [fS_eq, if_pos (rdok_RR h)]
  exact fE_end h e
theorem fS_on {f : Fc} (h : rdok f = true) (e : ¬ rd f = f) : fS f = fS (rd f) := by
  rw [fS_eq, fS_eq, if_pos (rdok_RR h), if_pos (rd_right h)]
  exact fE_on (rdok_RR h) h e

/-- The fact that lies in a block. -/
def cellN (w : World) (g k : Nat) : Int := match w.cell? ⟨g, k, none⟩ with | some (.int _ n) => n | _ => 0
def rdF (g : Nat) (w : World) : Fc := ((BitVec.ofInt 64 (cellN w g 0), BitVec.ofInt 64 (cellN w g 1)), (cellN w g 2, cellN w g 3))
theorem rdF_of {g : Nat} {f : Fc} {w : World} (h : fB g f w) : rdF g w = f := by
  obtain ⟨c0, c1, c2, c3⟩ := h.cells
  unfold rdF cellN
  rw [c0, c1, c2, c3]
  dsimp only
  rw [ofInt_eq rfl, ofInt_eq rfl]

set_option maxRecDepth 100000 in
set_option maxHeartbeats 4000000 in
theorem fp_settle (f : Fc) (w : World) (hf : fIn f) : Calls Try.prog 55 #[fV f] w (Gives (fBV ((fS f).getD fZ) (fS f).isSome) w) := by
  have hx := Lib.hid (FDuo.new f fZ w)
  have HR := Lib.hid fun (g : Fc) (hg : fIn g) => fun w => fp_round g w hg
  generalize hF : fS f = F
  have HF := Lib.hid hF
  clear hF
  generalize hV : fBV (F.getD fZ) F.isSome = V
  have HV := Lib.hid hV
  clear hV
  go_enter Try.func55, Try.ntmps55
  go_wp2_with fail
  go_loopw [] (fun wr => ∃ g : Fc, fIn g ∧ fS g = F ∧ Hid (FDuo g fZ w wr)) (fun wr => fM (rdF w.heap.size wr))
  case atStart => exact ⟨f, hf, HF.out, hx⟩
  case round =>
    obtain ⟨g, ig, hg, X⟩ := hrel
    have R := Lib.hid (HR.out g ig)
    obtain ⟨c0, c1, c2, c3⟩ := X.out.2.1.cells
    cases h : rdok g
    · have hV : V = fBV fZ false := by rw [← HV.out, ← hg, fS_no h]; rfl
      subst hV
      rw [h, if_neg (by decide)] at R
      clear HR HV HF hg
      go_wp2_with fail
      refine (R.out _).mono ?_; rintro e w3 ⟨rfl, b3⟩
      have x3 := X.out.after b3
      obtain ⟨e0, e1, e2, e3⟩ := x3.2.2.cells
      obtain ⟨g0, g1, g2, g3⟩ := x3.2.2.free
      have k1 := x3.2.2.lt
      have XE := Lib.hid ((x3.set fZ).alloc (.cells (fCells fZ) 28))
      clear x3 X b3 c0 c1 c2 c3 R
      go_wp2_with fail
      exact bodyPost_ret (v := fBV fZ false) (by simp [results, Try.results55, go_sem, e0, e1, e2, e3, fZ, k1]) rfl ⟨rfl, XE.out.1⟩
    · rw [h, if_pos rfl] at R
      by_cases he : rd g = g
      · have hV : V = fBV g true := by rw [← HV.out, ← hg, fS_end h he]; rfl
        subst hV
        rw [he] at R
        clear HR HV HF hg
        go_wp2_with fail
        refine (R.out _).mono ?_; rintro e w3 ⟨rfl, b3⟩
        have x3 := X.out.after b3
        obtain ⟨e0, e1, e2, e3⟩ := x3.2.2.cells
        obtain ⟨g0, g1, g2, g3⟩ := x3.2.2.free
        have k1 := x3.2.2.lt
        have XE := Lib.hid ((x3.set g).alloc (.cells (fCells g) 28))
        clear c0 c1 c2 c3
        obtain ⟨c0, c1, c2, c3⟩ := x3.2.1.cells
        have k2 := x3.2.1.lt
        clear x3 X b3 R
        go_wp2_with fail
        exact bodyPost_ret (v := fBV g true) (by simp [results, Try.results55, go_sem, e0, e1, e2, e3, k1]) rfl ⟨rfl, XE.out.1⟩
      · rw [fS_on h he] at hg
        have ig2 := rd_in ig
        have hne := fc_ne he
        have HM := Lib.hid (fM_less (rdok_RR h) h he)
        have HG := Lib.hid hg
        clear hg he
        generalize rd g = g' at *
        clear HR
        have HD := Lib.hid (rdF_of X.out.2.1)
        rcases hne with a1 | ⟨a1, a2⟩ | ⟨a1, a2, a3⟩ | ⟨a1, a2, a3, a4⟩
        all_goals
          go_wp2_with fail
          refine (R.out _).mono ?_; rintro e w3 ⟨rfl, b3⟩
          have x3 := X.out.after b3
          clear c0 c1 c2 c3
          obtain ⟨c0, c1, c2, c3⟩ := x3.2.1.cells
          obtain ⟨f0, f1, f2, f3⟩ := x3.2.1.free
          have k2 := x3.2.1.lt
          have XN := Lib.hid ((x3.setA g').alloc (.cells (fCells g') 28))
          clear X b3 R x3
          go_wp2_with fail
          have XM := XN.out
          simp only [fCells, uV] at XM
          try rw [a1] at XM
          try rw [a2] at XM
          try rw [a3] at XM
          refine ⟨⟨g', ig2, HG.out, Lib.hid XM⟩, ?_⟩
          rw [HD.out, rdF_of XM.2.1]
          exact HM.out

end Go.Proofs.Ytdgckjkdimnpoaa
