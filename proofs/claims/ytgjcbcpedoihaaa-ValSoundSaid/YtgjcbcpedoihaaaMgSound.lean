/-
  The statement ValSound: for every two Vals, number, set or not, the law returns true, and its arguments read as they did.
  Conditions: none beyond the row's own.
-/
import Derived.Test.YtgjcbcpedoihaaaMg8
import Derived.Test.YtgjcbcpedoihaaaMg11
import Derived.Deep.RegionHeld
import Derived.Deep.RegionHeld3
import Derived.Deep.DeepCutAuto

namespace Go.Proofs.Ytgjcbcpedoihaaa
open Go Go.RowKit
set_option maxRecDepth 100000
set_option linter.unusedVariables false

theorem join_eq {a b : Tn} (ra : tR a = true) (rb : tR b = true) : tJ a b = tMade a.1 (a.2 ||| b.2 ||| (a.1 ^^^ b.1)) := by unfold tJ; rw [rr_of ra rb, if_pos rfl]
theorem join_right {a b : Tn} (ra : tR a = true) (rb : tR b = true) : tR (tJ a b) = true := by rw [join_eq ra rb]; exact made_right _ _
theorem join_bit {a b : Tn} (ra : tR a = true) (rb : tR b = true) {i : Nat} (hi : i < 64) :
    (tJ a b).2.getLsbD i = (a.2.getLsbD i || b.2.getLsbD i || (a.1.getLsbD i ^^ b.1.getLsbD i)) ∧ (tJ a b).1.getLsbD i = (a.1.getLsbD i && !(a.2.getLsbD i || b.2.getLsbD i || (a.1.getLsbD i ^^ b.1.getLsbD i))) := by
  rw [join_eq ra rb]
  obtain ⟨e1, e2⟩ := made_bit a.1 (a.2 ||| b.2 ||| (a.1 ^^^ b.1)) hi
  rw [e1, e2, BitVec.getLsbD_or, BitVec.getLsbD_or, BitVec.getLsbD_xor]
  exact ⟨rfl, rfl⟩

theorem join_left {a b : Tn} (ra : tR a = true) (rb : tR b = true) : tW a (tJ a b) = true := by
  rw [tW_iff]
  refine ⟨ra, fun i hi => ?_⟩
  obtain ⟨e1, e2⟩ := join_bit ra rb hi
  rw [e1, e2]
  have h1 := (tR_iff a).mp ra i hi
  have h2 := (tR_iff b).mp rb i hi
  revert h1 h2
  generalize a.1.getLsbD i = u1
  generalize a.2.getLsbD i = u2
  generalize b.1.getLsbD i = u3
  generalize b.2.getLsbD i = u4
  cases u1 <;> cases u2 <;> cases u3 <;> cases u4 <;> simp
theorem join_comm {a b : Tn} (ra : tR a = true) (rb : tR b = true) : tJ b a = tJ a b := by
  refine pair_ext fun i hi => ?_
  obtain ⟨e1, e2⟩ := join_bit ra rb hi
  obtain ⟨e3, e4⟩ := join_bit rb ra hi
  rw [e1, e2, e3, e4]
  have h1 := (tR_iff a).mp ra i hi
  have h2 := (tR_iff b).mp rb i hi
  revert h1 h2
  generalize a.1.getLsbD i = u1
  generalize a.2.getLsbD i = u2
  generalize b.1.getLsbD i = u3
  generalize b.2.getLsbD i = u4
  cases u1 <;> cases u2 <;> cases u3 <;> cases u4 <;> simp
theorem join_right_of {a b : Tn} (ra : tR a = true) (rb : tR b = true) : tW b (tJ a b) = true := by rw [← join_comm ra rb]; exact join_left rb ra
theorem sJ_within {a b : Sp} (ra : sR a = true) (rb : sR b = true) : sW a (sJ a b) = true ∧ sW b (sJ a b) = true := by
  have h1 := right_le ra
  have h2 := right_le rb
  unfold sJ
  rw [if_pos (by unfold sRR; rw [ra, rb]; rfl), sW_iff, sW_iff]
  dsimp only
  omega
theorem rng_mono {l h a b : BitVec 64} (h1 : l.toNat ≤ a.toNat) (h2 : a.toNat ≤ b.toNat) (h3 : b.toNat ≤ h.toNat) : tW (rng a b) (rng l h) = true := by
  have ea := hi_of h1 (Nat.le_trans h2 h3)
  have eb := hi_of (Nat.le_trans h1 h2) h3
  have hk : bl (a ^^^ b) ≤ bl (l ^^^ h) := by
    rw [bl_iff, hi_iff, ea, eb]
  rw [tW_iff]
  refine ⟨rng_right _ _, fun i hi => ?_⟩
  obtain ⟨e1, e2⟩ := rng_bit l h hi
  obtain ⟨e3, e4⟩ := rng_bit a b hi
  rw [e1, e2, e3, e4]
  by_cases k : i < bl (l ^^^ h)
  · simp [k]
  · have k' : ¬ i < bl (a ^^^ b) := by omega
    rw [hi_bit ea (by omega)]
    simp [k, k']

theorem rS_mono {s a : Sp} (hs : sIn s) (ha : sIn a) (h : sW a s = true) : tW (rS a) (rS s) = true := by
  have h1 := sW_iff.mp h
  have e1 := ofInt_nat hs.1
  have e2 := ofInt_nat hs.2
  have e3 := ofInt_nat ha.1
  have e4 := ofInt_nat ha.2
  exact rng_mono (by omega) (by omega) (by omega)
theorem bSp_mono {a b : Tn} (h : tW a b = true) (rb : tR b = true) : sW (bSp a) (bSp b) = true := by
  have ra := ((tW_iff a b).mp h).1
  have h1 : tH a a.1 = true := by
    rw [tH_iff]
    rw [tR_iff] at ra
    intro i hi
    have h := ra i hi
    revert h
    cases a.1.getLsbD i <;> cases a.2.getLsbD i <;> simp
  have h2 : tH a (most a) = true := by
    rw [tH_iff]
    rw [tR_iff] at ra
    intro i hi
    have h := ra i hi
    unfold most
    rw [BitVec.getLsbD_or]
    revert h
    cases a.1.getLsbD i <;> cases a.2.getLsbD i <;> simp
  have k1 := sH_iff.mp (bSp_has rb (within_has h h1))
  have k2 := sH_iff.mp (bSp_has rb (within_has h h2))
  have k3 := right_le (bSp_right ra)
  have k4 := right_le (bSp_right rb)
  have e1 : (bSp a).1 = (a.1.toNat : Int) := rfl
  have e2 : (bSp a).2 = ((most a).toNat : Int) := rfl
  exact sW_mk (by omega) (by omega) (by omega) (by omega)

theorem sM_mono {a b c : Sp} (h1 : sW a b = true) (h2 : sW a c = true) : sMok b c = true ∧ sW a (sM b c) = true := by
  have k1 := sW_iff.mp h1
  have k2 := sW_iff.mp h2
  have k : max b.1 c.1 ≤ min b.2 c.2 := by omega
  obtain ⟨e1, e2⟩ := sT_ok k
  refine ⟨e2, ?_⟩
  unfold sM
  rw [e1]
  exact sW_mk (by omega) k (by dsimp only; omega) (by dsimp only; omega)
theorem tM_mono {a b c : Tn} (rb : tR b = true) (rc : tR c = true) (h1 : tW a b = true) (h2 : tW a c = true) : tMok b c = true ∧ tW a (tM b c) = true := by
  obtain ⟨ra, k1⟩ := (tW_iff a b).mp h1
  obtain ⟨_, k2⟩ := (tW_iff a c).mp h2
  have hok : tMok b c = true := by
    rw [mok_iff rb rc]
    intro i hi
    have e1 := (k1 i hi).2
    have e2 := (k2 i hi).2
    revert e1 e2
    cases a.1.getLsbD i <;> cases b.1.getLsbD i <;> cases b.2.getLsbD i <;> cases c.1.getLsbD i <;> cases c.2.getLsbD i <;> simp
  refine ⟨hok, ?_⟩
  rw [tW_iff]
  refine ⟨ra, fun i hi => ?_⟩
  have e1 := k1 i hi
  have e2 := k2 i hi
  obtain ⟨m1, m2⟩ := meet_bit hok hi
  rw [m1, m2]
  rw [tR_iff] at rb rc
  have r1 := rb i hi
  have r2 := rc i hi
  revert e1 e2 r1 r2
  cases a.1.getLsbD i <;> cases a.2.getLsbD i <;> cases b.1.getLsbD i <;> cases b.2.getLsbD i <;> cases c.1.getLsbD i <;> cases c.2.getLsbD i <;> simp
theorem rd_mono {a f : Fc} (ha : fFix a) (ia : fIn a) (hf : fIn f) (hr : fRR f = true) (h : fLe a f = true) : rdok f = true ∧ fLe a (rd f) = true := by
  obtain ⟨p1, p2⟩ := fix_parts ha
  obtain ⟨h1, h2⟩ := fLe_iff.mp h
  obtain ⟨rt, rs⟩ := fRR_iff.mp hr
  obtain ⟨k1, k2⟩ := sM_mono h2 (sW_on p1 (bSp_mono h1 rt))
  obtain ⟨k3, k4⟩ := tM_mono rt (rS_right (rdS f)) h1 (within_on p2 (rS_mono (rdS_in hf) ia k2))
  exact ⟨rdok_iff.mpr ⟨k1, k3⟩, fLe_iff.mpr ⟨k4, k2⟩⟩
/-- What is settled and within a fact is within what that is settled to. -/
theorem fS_mono {a f : Fc} (ha : fFix a) (ia : fIn a) (hf : fIn f) (hr : fRR f = true) (h : fLe a f = true) : ∃ g, fS f = some g ∧ fLe a g = true := by
  obtain ⟨g, hg⟩ := fE_some (P := fun x => fIn x ∧ fLe a x = true) (fun x hx hp => ⟨(rd_mono ha ia hp.1 hx hp.2).1, rd_in hp.1, (rd_mono ha ia hp.1 hx hp.2).2⟩) _ f (Nat.le_refl _) hr ⟨hf, h⟩
  have := (fE_ind (P := fun x => fIn x ∧ fLe a x = true) (fun x hx hk hp => ⟨rd_in hp.1, (rd_mono ha ia hp.1 hx hp.2).2⟩) _ f g (Nat.le_refl _) hr ⟨hf, h⟩ hg).1
  exact ⟨g, by rw [fS_eq, if_pos hr, hg], this.2⟩

theorem fSd_some {f g : Fc} (h : fS f = some g) : fSd f = g := by unfold fSd; rw [h]; rfl
theorem sJ_right {a b : Sp} (ra : sR a = true) (rb : sR b = true) : sR (sJ a b) = true := by
  have h := sW_iff.mp (sJ_within ra rb).1
  exact decide_eq_true (by omega)
theorem fJ_eq {a b : Fc} (ha : fFix a) (hb : fFix b) : fJ a b = fSd (tJ a.1 b.1, sJ a.2 b.2) := by
  unfold fJ
  rw [fR_iff.mpr ha, fR_iff.mpr hb]
  rfl
theorem fJ_parts {a b : Fc} (ha : fFix a) (hb : fFix b) (ia : fIn a) (ib : fIn b) : fIn (tJ a.1 b.1, sJ a.2 b.2) ∧ fRR (tJ a.1 b.1, sJ a.2 b.2) = true ∧ fLe a (tJ a.1 b.1, sJ a.2 b.2) = true ∧ fLe b (tJ a.1 b.1, sJ a.2 b.2) = true := by
  obtain ⟨r1, r2⟩ := fRR_iff.mp ha.1
  obtain ⟨r3, r4⟩ := fRR_iff.mp hb.1
  exact ⟨sJ_in ia ib, fRR_iff.mpr ⟨join_right r1 r3, sJ_right r2 r4⟩, fLe_iff.mpr ⟨join_left r1 r3, (sJ_within r2 r4).1⟩, fLe_iff.mpr ⟨join_right_of r1 r3, (sJ_within r2 r4).2⟩⟩
/-- Join: both are within it. -/
theorem fJ_has {a b : Fc} (ha : fFix a) (hb : fFix b) (ia : fIn a) (ib : fIn b) : fFix (fJ a b) ∧ fIn (fJ a b) ∧ fLe a (fJ a b) = true ∧ fLe b (fJ a b) = true := by
  obtain ⟨p1, p2, p3, p4⟩ := fJ_parts ha hb ia ib
  rw [fJ_eq ha hb]
  obtain ⟨g, hg, h1⟩ := fS_mono ha ia p1 p2 p3
  obtain ⟨g', hg', h2⟩ := fS_mono hb ib p1 p2 p4
  rw [hg] at hg'
  cases hg'
  rw [fSd_some hg]
  exact ⟨fS_fix hg, fS_in p1 hg, h1, h2⟩

end Go.Proofs.Ytgjcbcpedoihaaa

namespace Go.Proofs.Ytgjcbcpedoihaaa
open Go Go.RowKit
set_option maxRecDepth 100000
set_option linter.unusedVariables false
set_option linter.unusedSimpArgs false

theorem vR_Z : vR vZ = true := by decide +kernel
theorem vW_self (a : Vl) : vW a a = vR a := by
  unfold vW
  rw [vEq_refl]
  simp
theorem vW_zero (a : Vl) : vW a vZ = vR a := by
  unfold vW
  rw [vR_Z]
  simp [vZ]
theorem vW_parts {a b : Vl} (h : vW a b = true) : vR a = true ∧ vR b = true ∧ (b.k = 0 ∨ a = b ∨ (a.k = 1 ∧ b.k = 1 ∧ fWi a.n b.n = true)) := by
  unfold vW at h
  simp only [Bool.and_eq_true, Bool.or_eq_true, beq_iff_eq] at h
  obtain ⟨⟨h1, h2⟩, h3⟩ := h
  refine ⟨h1, h2, ?_⟩
  rcases h3 with h | h | ⟨⟨h, h'⟩, h''⟩
  · exact Or.inl h
  · exact Or.inr (Or.inl (vEq_iff.mp h))
  · exact Or.inr (Or.inr ⟨h, h', h''⟩)
theorem vW_mk {a b : Vl} (h1 : vR a = true) (h2 : vR b = true) (h : b.k = 0 ∨ a = b ∨ (a.k = 1 ∧ b.k = 1 ∧ fWi a.n b.n = true)) : vW a b = true := by
  unfold vW
  simp only [Bool.and_eq_true, Bool.or_eq_true, beq_iff_eq]
  refine ⟨⟨h1, h2⟩, ?_⟩
  rcases h with h | h | ⟨h, h', h''⟩
  · exact Or.inl h
  · exact Or.inr (Or.inl (vEq_iff.mpr h))
  · exact Or.inr (Or.inr ⟨⟨h, h'⟩, h''⟩)
theorem fWi_on {a b c : Fc} (h1 : fWi a b = true) (h2 : fWi b c = true) : fWi a c = true := by
  unfold fWi at *
  simp only [Bool.and_eq_true] at *
  exact ⟨⟨h1.1.1, h2.1.2⟩, fLe_on h1.2 h2.2⟩
theorem vW_on {a b c : Vl} (h1 : vW a b = true) (h2 : vW b c = true) : vW a c = true := by
  obtain ⟨ra, rb, k1⟩ := vW_parts h1
  obtain ⟨_, rc, k2⟩ := vW_parts h2
  refine vW_mk ra rc ?_
  rcases k2 with h | h | ⟨h, h', h''⟩
  · exact Or.inl h
  · subst h; exact k1
  · rcases k1 with g | g | ⟨g, g', g''⟩
    · rw [g] at h; exact absurd h (by decide)
    · subst g; exact Or.inr (Or.inr ⟨h, h', h''⟩)
    · exact Or.inr (Or.inr ⟨g, h', fWi_on g'' h''⟩)
set_option maxRecDepth 100000 in
set_option maxHeartbeats 8000000 in
theorem vorder_walk (a b c : Vl) (w : World) (ha : vIn a) (hb : vIn b) (hc : vIn c) : Calls Try.prog 7 #[vV a, vV b, vV c] w (Gives (.bool true) w) := by
  have SH := Lib.hid l12_shown
  have W1 := Lib.hid fun w => vp_within a b w ha hb
  have W2 := Lib.hid fun w => vp_within b c w hb hc
  have W3 := Lib.hid fun w => vp_within a c w ha hc
  have W4 := Lib.hid fun w => vp_within a a w ha ha
  have W5 : Hid (∀ w, Calls Try.prog 20 #[vV a, .agg #[.int .u8 0, .int .u64 0, .int .u64 0, .int .u64 0, .int .u64 0, .int .i64 0, .int .i64 0]] w (Gives (.bool (vW a vZ)) w)) := Lib.hid fun w => vp_within a vZ w ha vZ_in
  have R := Lib.hid fun w => vp_right a w ha
  have HX : Hid (vW a b = true → vW b c = true → vW a c = true) := Lib.hid vW_on
  rw [vW_self] at W4
  rw [vW_zero] at W5
  have X0 := Lib.hid ((((Blks.start w).new (vCells a) 30).new (vCells b) 30).new (vCells c) 30)
  generalize vW a b = x at *
  generalize vW b c = y at *
  generalize vW a c = z at *
  generalize vR a = r at *
  go_enter Try.func7, Try.ntmps7
  go_wp2_with fail
  generalize (((w.alloc (.cells (vCells a) 30)).alloc (.cells (vCells b) 30)).alloc (.cells (vCells c) 30)) = w1 at *
  refine (SH.out _).mono ?_; rintro e w2 ⟨rfl, b2⟩
  have X2 := Lib.hid (X0.out.after b2)
  clear X0 b2 SH
  go_upto_region 2 with fail
  have SD : Hid (∀ u, Below w2.heap.size w2 u → ((u.cell? ⟨w.heap.size, 0, none⟩ = some (.int .u8 a.k) ∧ u.cell? ⟨w.heap.size, 1, none⟩ = some (uV a.n.1.1) ∧ u.cell? ⟨w.heap.size, 2, none⟩ = some (uV a.n.1.2) ∧ u.cell? ⟨w.heap.size, 3, none⟩ = some (.int .u64 a.n.2.1) ∧ u.cell? ⟨w.heap.size, 4, none⟩ = some (.int .u64 a.n.2.2) ∧ u.cell? ⟨w.heap.size, 5, none⟩ = some (.int .i64 a.i) ∧ u.cell? ⟨w.heap.size, 6, none⟩ = some (.int .i64 a.o)) ∧ (u.cell? ⟨(w.heap.size + 1), 0, none⟩ = some (.int .u8 b.k) ∧ u.cell? ⟨(w.heap.size + 1), 1, none⟩ = some (uV b.n.1.1) ∧ u.cell? ⟨(w.heap.size + 1), 2, none⟩ = some (uV b.n.1.2) ∧ u.cell? ⟨(w.heap.size + 1), 3, none⟩ = some (.int .u64 b.n.2.1) ∧ u.cell? ⟨(w.heap.size + 1), 4, none⟩ = some (.int .u64 b.n.2.2) ∧ u.cell? ⟨(w.heap.size + 1), 5, none⟩ = some (.int .i64 b.i) ∧ u.cell? ⟨(w.heap.size + 1), 6, none⟩ = some (.int .i64 b.o)) ∧ (u.cell? ⟨(w.heap.size + 2), 0, none⟩ = some (.int .u8 c.k) ∧ u.cell? ⟨(w.heap.size + 2), 1, none⟩ = some (uV c.n.1.1) ∧ u.cell? ⟨(w.heap.size + 2), 2, none⟩ = some (uV c.n.1.2) ∧ u.cell? ⟨(w.heap.size + 2), 3, none⟩ = some (.int .u64 c.n.2.1) ∧ u.cell? ⟨(w.heap.size + 2), 4, none⟩ = some (.int .u64 c.n.2.2) ∧ u.cell? ⟨(w.heap.size + 2), 5, none⟩ = some (.int .i64 c.i) ∧ u.cell? ⟨(w.heap.size + 2), 6, none⟩ = some (.int .i64 c.o)))) := Lib.hid fun u bb => ⟨vB.cells ((X2.out.after bb).get (g := w.heap.size) (cs := vCells a) (t := 30) (by simp)), vB.cells ((X2.out.after bb).get (g := (w.heap.size + 1)) (cs := vCells b) (t := 30) (by simp)), vB.cells ((X2.out.after bb).get (g := (w.heap.size + 2)) (cs := vCells c) (t := 30) (by simp))⟩
  have QB : Hid (Below w2.heap.size w2 w2.drew) := Lib.hid (Below.drew (Below.refl _ _))
  refine wp_region_held_drew (S := fun w' => (w'.cell? ⟨w.heap.size, 0, none⟩ = some (.int .u8 a.k) ∧ w'.cell? ⟨w.heap.size, 1, none⟩ = some (uV a.n.1.1) ∧ w'.cell? ⟨w.heap.size, 2, none⟩ = some (uV a.n.1.2) ∧ w'.cell? ⟨w.heap.size, 3, none⟩ = some (.int .u64 a.n.2.1) ∧ w'.cell? ⟨w.heap.size, 4, none⟩ = some (.int .u64 a.n.2.2) ∧ w'.cell? ⟨w.heap.size, 5, none⟩ = some (.int .i64 a.i) ∧ w'.cell? ⟨w.heap.size, 6, none⟩ = some (.int .i64 a.o)) ∧ (w'.cell? ⟨(w.heap.size + 1), 0, none⟩ = some (.int .u8 b.k) ∧ w'.cell? ⟨(w.heap.size + 1), 1, none⟩ = some (uV b.n.1.1) ∧ w'.cell? ⟨(w.heap.size + 1), 2, none⟩ = some (uV b.n.1.2) ∧ w'.cell? ⟨(w.heap.size + 1), 3, none⟩ = some (.int .u64 b.n.2.1) ∧ w'.cell? ⟨(w.heap.size + 1), 4, none⟩ = some (.int .u64 b.n.2.2) ∧ w'.cell? ⟨(w.heap.size + 1), 5, none⟩ = some (.int .i64 b.i) ∧ w'.cell? ⟨(w.heap.size + 1), 6, none⟩ = some (.int .i64 b.o)) ∧ (w'.cell? ⟨(w.heap.size + 2), 0, none⟩ = some (.int .u8 c.k) ∧ w'.cell? ⟨(w.heap.size + 2), 1, none⟩ = some (uV c.n.1.1) ∧ w'.cell? ⟨(w.heap.size + 2), 2, none⟩ = some (uV c.n.1.2) ∧ w'.cell? ⟨(w.heap.size + 2), 3, none⟩ = some (.int .u64 c.n.2.1) ∧ w'.cell? ⟨(w.heap.size + 2), 4, none⟩ = some (.int .u64 c.n.2.2) ∧ w'.cell? ⟨(w.heap.size + 2), 5, none⟩ = some (.int .i64 c.i) ∧ w'.cell? ⟨(w.heap.size + 2), 6, none⟩ = some (.int .i64 c.o))) (by kernel_rfl) (SD.out _ QB.out) (fun hHeld => ?_)
  generalize w2.drew = wd at *
  refine wpAnyH_take (i := 0) (oi := { dst := some 12, op := Op.load 30 (Operand.tmp 3), type := 30, pos := "law.go:59", after := #[], guard := none }) (v := ?_) rfl (by kernel_rfl) (by kernel_rfl) (by kernel_rfl) (fun _ _ _ h => h) (Or.inl ⟨by rfl, ?_⟩) (by first | exact hHeld | assumption) ?_
  rotate_left 1
  · intro w hSw; (try dsimp only at hSw); go_simp; try (with_reducible rfl)
  try simp only [Act.put, List.setIfInBounds_toArray, List.set_cons_zero, List.set_cons_succ]
  refine wpAnyH_take (i := 1) (oi := { dst := some 13, op := Op.load 30 (Operand.tmp 4), type := 30, pos := "law.go:59", after := #[], guard := none }) (v := ?_) rfl (by kernel_rfl) (by kernel_rfl) (by kernel_rfl) (fun _ _ _ h => h) (Or.inl ⟨by rfl, ?_⟩) (by first | exact hHeld | assumption) ?_
  rotate_left 1
  · intro w hSw; (try dsimp only at hSw); go_simp; try (with_reducible rfl)
  try simp only [Act.put, List.setIfInBounds_toArray, List.set_cons_zero, List.set_cons_succ]
  refine wpAnyH_take (i := 3) (oi := { dst := some 15, op := Op.load 30 (Operand.tmp 4), type := 30, pos := "law.go:59", after := #[], guard := none }) (v := ?_) rfl (by kernel_rfl) (by kernel_rfl) (by kernel_rfl) (fun _ _ _ h => h) (Or.inl ⟨by rfl, ?_⟩) (by first | exact hHeld | assumption) ?_
  rotate_left 1
  · intro w hSw; (try dsimp only at hSw); go_simp; try (with_reducible rfl)
  try simp only [Act.put, List.setIfInBounds_toArray, List.set_cons_zero, List.set_cons_succ]
  refine wpAnyH_take (i := 4) (oi := { dst := some 16, op := Op.load 30 (Operand.tmp 5), type := 30, pos := "law.go:59", after := #[], guard := none }) (v := ?_) rfl (by kernel_rfl) (by kernel_rfl) (by kernel_rfl) (fun _ _ _ h => h) (Or.inl ⟨by rfl, ?_⟩) (by first | exact hHeld | assumption) ?_
  rotate_left 1
  · intro w hSw; (try dsimp only at hSw); go_simp; try (with_reducible rfl)
  try simp only [Act.put, List.setIfInBounds_toArray, List.set_cons_zero, List.set_cons_succ]
  refine wpAnyH_take (i := 6) (oi := { dst := some 18, op := Op.load 30 (Operand.tmp 3), type := 30, pos := "law.go:59", after := #[], guard := none }) (v := ?_) rfl (by kernel_rfl) (by kernel_rfl) (by kernel_rfl) (fun _ _ _ h => h) (Or.inl ⟨by rfl, ?_⟩) (by first | exact hHeld | assumption) ?_
  rotate_left 1
  · intro w hSw; (try dsimp only at hSw); go_simp; try (with_reducible rfl)
  try simp only [Act.put, List.setIfInBounds_toArray, List.set_cons_zero, List.set_cons_succ]
  refine wpAnyH_take (i := 7) (oi := { dst := some 19, op := Op.load 30 (Operand.tmp 5), type := 30, pos := "law.go:59", after := #[], guard := none }) (v := ?_) rfl (by kernel_rfl) (by kernel_rfl) (by kernel_rfl) (fun _ _ _ h => h) (Or.inl ⟨by rfl, ?_⟩) (by first | exact hHeld | assumption) ?_
  rotate_left 1
  · intro w hSw; (try dsimp only at hSw); go_simp; try (with_reducible rfl)
  try simp only [Act.put, List.setIfInBounds_toArray, List.set_cons_zero, List.set_cons_succ]
  refine wpAnyH_ready (rs := [2]) (by kernel_rfl) (by simp) ?_
  refine AllReadyH.cons (o := { dst := some 14, op := Op.call { callee := Callee.value (Operand.func 20), args := #[Operand.tmp 12, Operand.tmp 13], argTypes := #[30, 30] }, type := 4, pos := "law.go:59", after := #[{ on := 0, ground := Ground.data }, { on := 1, ground := Ground.data }], guard := none }) rfl (fun K hK => ?_) AllReadyH.nil
  go_simp
  refine (W1.out _).mono ?_; rintro e u1 ⟨rfl, b⟩
  replace QB := Lib.hid (below_next' QB.out b)
  clear b
  go_wp2_with fail
  refine hK.out _ _ (SD.out _ QB.out) (fun hHeld => ?_)
  clear hK K
  try simp only [Act.put, List.setIfInBounds_toArray, List.set_cons_zero, List.set_cons_succ]
  refine wpAnyH_ready (rs := [5]) (by kernel_rfl) (by simp) ?_
  refine AllReadyH.cons (o := { dst := some 17, op := Op.call { callee := Callee.value (Operand.func 20), args := #[Operand.tmp 15, Operand.tmp 16], argTypes := #[30, 30] }, type := 4, pos := "law.go:59", after := #[{ on := 3, ground := Ground.data }, { on := 4, ground := Ground.data }, { on := 2, ground := Ground.chain }], guard := none }) rfl (fun K hK => ?_) AllReadyH.nil
  go_simp
  refine (W2.out _).mono ?_; rintro e u1 ⟨rfl, b⟩
  replace QB := Lib.hid (below_next' QB.out b)
  clear b
  go_wp2_with fail
  refine hK.out _ _ (SD.out _ QB.out) (fun hHeld => ?_)
  clear hK K
  try simp only [Act.put, List.setIfInBounds_toArray, List.set_cons_zero, List.set_cons_succ]
  refine wpAnyH_ready (rs := [8]) (by kernel_rfl) (by simp) ?_
  refine AllReadyH.cons (o := { dst := some 20, op := Op.call { callee := Callee.value (Operand.func 20), args := #[Operand.tmp 18, Operand.tmp 19], argTypes := #[30, 30] }, type := 4, pos := "law.go:59", after := #[{ on := 6, ground := Ground.data }, { on := 7, ground := Ground.data }, { on := 5, ground := Ground.chain }], guard := none }) rfl (fun K hK => ?_) AllReadyH.nil
  go_simp
  refine (W3.out _).mono ?_; rintro e u1 ⟨rfl, b⟩
  replace QB := Lib.hid (below_next' QB.out b)
  clear b
  go_wp2_with fail
  refine hK.out _ _ (SD.out _ QB.out) (fun hHeld => ?_)
  clear hK K
  try simp only [Act.put, List.setIfInBounds_toArray, List.set_cons_zero, List.set_cons_succ]
  refine wpAnyH_take (i := 9) (oi := { dst := some 8, op := Op.assign (Operand.tmp 14), type := 4, pos := "law.go:59", after := #[{ on := 2, ground := Ground.data }, { on := 8, ground := Ground.chain }, { on := 0, ground := Ground.phase }, { on := 1, ground := Ground.phase }, { on := 2, ground := Ground.phase }, { on := 3, ground := Ground.textOnly Departure.lateStores }, { on := 4, ground := Ground.textOnly Departure.lateStores }, { on := 5, ground := Ground.textOnly Departure.lateStoresUnsure }, { on := 6, ground := Ground.textOnly Departure.lateStores }, { on := 7, ground := Ground.textOnly Departure.lateStores }, { on := 8, ground := Ground.textOnly Departure.lateStoresUnsure }], guard := none }) (v := ?_) rfl (by kernel_rfl) (by kernel_rfl) (by kernel_rfl) (fun _ _ _ h => h) (Or.inl ⟨by rfl, ?_⟩) (by first | exact hHeld | assumption) ?_
  rotate_left 1
  · intro w hSw; (try dsimp only at hSw); go_simp; try (with_reducible rfl)
  try simp only [Act.put, List.setIfInBounds_toArray, List.set_cons_zero, List.set_cons_succ]
  refine wpAnyH_take (i := 10) (oi := { dst := some 9, op := Op.assign (Operand.tmp 17), type := 4, pos := "law.go:59", after := #[{ on := 5, ground := Ground.data }, { on := 9, ground := Ground.chain }, { on := 0, ground := Ground.phase }, { on := 1, ground := Ground.phase }, { on := 2, ground := Ground.phase }, { on := 3, ground := Ground.phase }, { on := 4, ground := Ground.phase }, { on := 5, ground := Ground.phase }, { on := 6, ground := Ground.textOnly Departure.lateStores }, { on := 7, ground := Ground.textOnly Departure.lateStores }, { on := 8, ground := Ground.textOnly Departure.lateStoresUnsure }, { on := 9, ground := Ground.phase }], guard := none }) (v := ?_) rfl (by kernel_rfl) (by kernel_rfl) (by kernel_rfl) (fun _ _ _ h => h) (Or.inl ⟨by rfl, ?_⟩) (by first | exact hHeld | assumption) ?_
  rotate_left 1
  · intro w hSw; (try dsimp only at hSw); go_simp; try (with_reducible rfl)
  try simp only [Act.put, List.setIfInBounds_toArray, List.set_cons_zero, List.set_cons_succ]
  refine wpAnyH_take (i := 11) (oi := { dst := some 10, op := Op.assign (Operand.tmp 20), type := 4, pos := "law.go:59", after := #[{ on := 8, ground := Ground.data }, { on := 10, ground := Ground.chain }, { on := 0, ground := Ground.phase }, { on := 1, ground := Ground.phase }, { on := 2, ground := Ground.phase }, { on := 3, ground := Ground.phase }, { on := 4, ground := Ground.phase }, { on := 5, ground := Ground.phase }, { on := 6, ground := Ground.phase }, { on := 7, ground := Ground.phase }, { on := 8, ground := Ground.phase }, { on := 9, ground := Ground.phase }, { on := 10, ground := Ground.phase }], guard := none }) (v := ?_) rfl (by kernel_rfl) (by kernel_rfl) (by kernel_rfl) (fun _ _ _ h => h) (Or.inl ⟨by rfl, ?_⟩) (by first | exact hHeld | assumption) ?_
  rotate_left 1
  · intro w hSw; (try dsimp only at hSw); go_simp; try (with_reducible rfl)
  try simp only [Act.put, List.setIfInBounds_toArray, List.set_cons_zero, List.set_cons_succ]
  refine wpAnyH_done (by kernel_rfl) ?_ _
  have X3 := Lib.hid (X2.out.after QB.out)
  clear X2 SD QB W1 W2 W3 hHeld
  skip
  cases x
  · clear HX
    go_upto_region 3 with fail
    have SD : Hid (∀ u, Below u1.heap.size u1 u → ((u.cell? ⟨w.heap.size, 0, none⟩ = some (.int .u8 a.k) ∧ u.cell? ⟨w.heap.size, 1, none⟩ = some (uV a.n.1.1) ∧ u.cell? ⟨w.heap.size, 2, none⟩ = some (uV a.n.1.2) ∧ u.cell? ⟨w.heap.size, 3, none⟩ = some (.int .u64 a.n.2.1) ∧ u.cell? ⟨w.heap.size, 4, none⟩ = some (.int .u64 a.n.2.2) ∧ u.cell? ⟨w.heap.size, 5, none⟩ = some (.int .i64 a.i) ∧ u.cell? ⟨w.heap.size, 6, none⟩ = some (.int .i64 a.o)) ∧ (u.cell? ⟨(w.heap.size + 1), 0, none⟩ = some (.int .u8 b.k) ∧ u.cell? ⟨(w.heap.size + 1), 1, none⟩ = some (uV b.n.1.1) ∧ u.cell? ⟨(w.heap.size + 1), 2, none⟩ = some (uV b.n.1.2) ∧ u.cell? ⟨(w.heap.size + 1), 3, none⟩ = some (.int .u64 b.n.2.1) ∧ u.cell? ⟨(w.heap.size + 1), 4, none⟩ = some (.int .u64 b.n.2.2) ∧ u.cell? ⟨(w.heap.size + 1), 5, none⟩ = some (.int .i64 b.i) ∧ u.cell? ⟨(w.heap.size + 1), 6, none⟩ = some (.int .i64 b.o)) ∧ (u.cell? ⟨(w.heap.size + 2), 0, none⟩ = some (.int .u8 c.k) ∧ u.cell? ⟨(w.heap.size + 2), 1, none⟩ = some (uV c.n.1.1) ∧ u.cell? ⟨(w.heap.size + 2), 2, none⟩ = some (uV c.n.1.2) ∧ u.cell? ⟨(w.heap.size + 2), 3, none⟩ = some (.int .u64 c.n.2.1) ∧ u.cell? ⟨(w.heap.size + 2), 4, none⟩ = some (.int .u64 c.n.2.2) ∧ u.cell? ⟨(w.heap.size + 2), 5, none⟩ = some (.int .i64 c.i) ∧ u.cell? ⟨(w.heap.size + 2), 6, none⟩ = some (.int .i64 c.o)))) := Lib.hid fun u bb => ⟨vB.cells ((X3.out.after bb).get (g := w.heap.size) (cs := vCells a) (t := 30) (by simp)), vB.cells ((X3.out.after bb).get (g := (w.heap.size + 1)) (cs := vCells b) (t := 30) (by simp)), vB.cells ((X3.out.after bb).get (g := (w.heap.size + 2)) (cs := vCells c) (t := 30) (by simp))⟩
    have QB : Hid (Below u1.heap.size u1 u1.drew) := Lib.hid (Below.drew (Below.refl _ _))
    refine wp_region_held_drew (S := fun w' => (w'.cell? ⟨w.heap.size, 0, none⟩ = some (.int .u8 a.k) ∧ w'.cell? ⟨w.heap.size, 1, none⟩ = some (uV a.n.1.1) ∧ w'.cell? ⟨w.heap.size, 2, none⟩ = some (uV a.n.1.2) ∧ w'.cell? ⟨w.heap.size, 3, none⟩ = some (.int .u64 a.n.2.1) ∧ w'.cell? ⟨w.heap.size, 4, none⟩ = some (.int .u64 a.n.2.2) ∧ w'.cell? ⟨w.heap.size, 5, none⟩ = some (.int .i64 a.i) ∧ w'.cell? ⟨w.heap.size, 6, none⟩ = some (.int .i64 a.o)) ∧ (w'.cell? ⟨(w.heap.size + 1), 0, none⟩ = some (.int .u8 b.k) ∧ w'.cell? ⟨(w.heap.size + 1), 1, none⟩ = some (uV b.n.1.1) ∧ w'.cell? ⟨(w.heap.size + 1), 2, none⟩ = some (uV b.n.1.2) ∧ w'.cell? ⟨(w.heap.size + 1), 3, none⟩ = some (.int .u64 b.n.2.1) ∧ w'.cell? ⟨(w.heap.size + 1), 4, none⟩ = some (.int .u64 b.n.2.2) ∧ w'.cell? ⟨(w.heap.size + 1), 5, none⟩ = some (.int .i64 b.i) ∧ w'.cell? ⟨(w.heap.size + 1), 6, none⟩ = some (.int .i64 b.o)) ∧ (w'.cell? ⟨(w.heap.size + 2), 0, none⟩ = some (.int .u8 c.k) ∧ w'.cell? ⟨(w.heap.size + 2), 1, none⟩ = some (uV c.n.1.1) ∧ w'.cell? ⟨(w.heap.size + 2), 2, none⟩ = some (uV c.n.1.2) ∧ w'.cell? ⟨(w.heap.size + 2), 3, none⟩ = some (.int .u64 c.n.2.1) ∧ w'.cell? ⟨(w.heap.size + 2), 4, none⟩ = some (.int .u64 c.n.2.2) ∧ w'.cell? ⟨(w.heap.size + 2), 5, none⟩ = some (.int .i64 c.i) ∧ w'.cell? ⟨(w.heap.size + 2), 6, none⟩ = some (.int .i64 c.o))) (by kernel_rfl) (SD.out _ QB.out) (fun hHeld => ?_)
    generalize u1.drew = wd at *
    refine wpAnyH_take (i := 0) (oi := { dst := some 21, op := Op.move (Operand.tmp 7), type := 4, pos := "law.go:60", after := #[], guard := none }) (v := ?_) rfl (by kernel_rfl) (by kernel_rfl) (by kernel_rfl) (fun _ _ _ h => h) (Or.inl ⟨by rfl, ?_⟩) (by first | exact hHeld | assumption) ?_
    rotate_left 1
    · intro w hSw; (try dsimp only at hSw); go_simp; try (with_reducible rfl)
    try simp only [Act.put, List.setIfInBounds_toArray, List.set_cons_zero, List.set_cons_succ]
    refine wpAnyH_take (i := 1) (oi := { dst := some 22, op := Op.move (Operand.tmp 21), type := 4, pos := "law.go:60", after := #[{ on := 0, ground := Ground.data }], guard := none }) (v := ?_) rfl (by kernel_rfl) (by kernel_rfl) (by kernel_rfl) (fun _ _ _ h => h) (Or.inl ⟨by rfl, ?_⟩) (by first | exact hHeld | assumption) ?_
    rotate_left 1
    · intro w hSw; (try dsimp only at hSw); go_simp; try (with_reducible rfl)
    try simp only [Act.put, List.setIfInBounds_toArray, List.set_cons_zero, List.set_cons_succ]
    refine wpAnyH_take (i := 2) (oi := { dst := some 23, op := Op.load 30 (Operand.tmp 3), type := 30, pos := "law.go:60", after := #[{ on := 1, ground := Ground.guard }], guard := some (1, true) }) (v := ?_) rfl (by kernel_rfl) (by kernel_rfl) (by kernel_rfl) (fun _ _ _ h => h) (Or.inl ⟨by rfl, ?_⟩) (by first | exact hHeld | assumption) ?_
    rotate_left 1
    · intro w hSw; (try dsimp only at hSw); go_simp; try (with_reducible rfl)
    try simp only [Act.put, List.setIfInBounds_toArray, List.set_cons_zero, List.set_cons_succ]
    refine wpAnyH_take (i := 3) (oi := { dst := some 24, op := Op.load 30 (Operand.tmp 3), type := 30, pos := "law.go:60", after := #[{ on := 1, ground := Ground.guard }], guard := some (1, true) }) (v := ?_) rfl (by kernel_rfl) (by kernel_rfl) (by kernel_rfl) (fun _ _ _ h => h) (Or.inl ⟨by rfl, ?_⟩) (by first | exact hHeld | assumption) ?_
    rotate_left 1
    · intro w hSw; (try dsimp only at hSw); go_simp; try (with_reducible rfl)
    try simp only [Act.put, List.setIfInBounds_toArray, List.set_cons_zero, List.set_cons_succ]
    refine wpAnyH_take (i := 5) (oi := { dst := some 26, op := Op.load 30 (Operand.tmp 3), type := 30, pos := "law.go:60", after := #[{ on := 1, ground := Ground.guard }], guard := some (1, true) }) (v := ?_) rfl (by kernel_rfl) (by kernel_rfl) (by kernel_rfl) (fun _ _ _ h => h) (Or.inl ⟨by rfl, ?_⟩) (by first | exact hHeld | assumption) ?_
    rotate_left 1
    · intro w hSw; (try dsimp only at hSw); go_simp; try (with_reducible rfl)
    try simp only [Act.put, List.setIfInBounds_toArray, List.set_cons_zero, List.set_cons_succ]
    refine wpAnyH_ready (rs := [4]) (by kernel_rfl) (by simp) ?_
    refine AllReadyH.cons (o := { dst := some 25, op := Op.call { callee := Callee.value (Operand.func 20), args := #[Operand.tmp 23, Operand.tmp 24], argTypes := #[30, 30] }, type := 4, pos := "law.go:60", after := #[{ on := 2, ground := Ground.data }, { on := 3, ground := Ground.data }, { on := 1, ground := Ground.chain }, { on := 1, ground := Ground.guard }], guard := some (1, true) }) rfl (fun K hK => ?_) AllReadyH.nil
    go_simp
    refine (W4.out _).mono ?_; rintro e u1 ⟨rfl, b⟩
    replace QB := Lib.hid (below_next' QB.out b)
    clear b
    go_wp2_with fail
    refine hK.out _ _ (SD.out _ QB.out) (fun hHeld => ?_)
    clear hK K
    try simp only [Act.put, List.setIfInBounds_toArray, List.set_cons_zero, List.set_cons_succ]
    refine wpAnyH_ready (rs := [6]) (by kernel_rfl) (by simp) ?_
    refine AllReadyH.cons (o := { dst := some 27, op := Op.call { callee := Callee.value (Operand.func 12), args := #[Operand.tmp 26], argTypes := #[30] }, type := 4, pos := "law.go:60", after := #[{ on := 5, ground := Ground.data }, { on := 4, ground := Ground.chain }, { on := 1, ground := Ground.guard }], guard := some (1, true) }) rfl (fun K hK => ?_) AllReadyH.nil
    go_simp
    refine (R.out _).mono ?_; rintro e u1 ⟨rfl, b⟩
    replace QB := Lib.hid (below_next' QB.out b)
    clear b
    go_wp2_with fail
    refine hK.out _ _ (SD.out _ QB.out) (fun hHeld => ?_)
    clear hK K
    try simp only [Act.put, List.setIfInBounds_toArray, List.set_cons_zero, List.set_cons_succ]
    refine wpAnyH_take (i := 7) (oi := { dst := some 28, op := Op.binOp BinOp.eql 4 (Operand.tmp 25) (Operand.tmp 27) 4, type := 4, pos := "law.go:60", after := #[{ on := 4, ground := Ground.data }, { on := 6, ground := Ground.data }, { on := 1, ground := Ground.guard }], guard := some (1, true) }) (v := ?_) rfl (by kernel_rfl) (by kernel_rfl) (by kernel_rfl) (fun _ _ _ h => h) (Or.inl ⟨by rfl, ?_⟩) (by first | exact hHeld | assumption) ?_
    rotate_left 1
    · intro w hSw; (try dsimp only at hSw); go_simp; first | with_reducible rfl | (simp; done)
    try simp only [Act.put, List.setIfInBounds_toArray, List.set_cons_zero, List.set_cons_succ]
    refine wpAnyH_take (i := 8) (oi := { dst := some 29, op := Op.pick (Operand.tmp 22) (Operand.tmp 28) (Operand.const (Value.bool false)), type := 4, pos := "law.go:60", after := #[{ on := 1, ground := Ground.data }, { on := 7, ground := Ground.data }], guard := none }) (v := ?_) rfl (by kernel_rfl) (by kernel_rfl) (by kernel_rfl) (fun _ _ _ h => h) (Or.inl ⟨by rfl, ?_⟩) (by first | exact hHeld | assumption) ?_
    rotate_left 1
    · intro w hSw; (try dsimp only at hSw); go_simp; try (with_reducible rfl)
    try simp only [Act.put, List.setIfInBounds_toArray, List.set_cons_zero, List.set_cons_succ]
    refine wpAnyH_take (i := 9) (oi := { dst := some 30, op := Op.move (Operand.tmp 29), type := 4, pos := "law.go:60", after := #[{ on := 8, ground := Ground.data }, { on := 6, ground := Ground.chain }], guard := none }) (v := ?_) rfl (by kernel_rfl) (by kernel_rfl) (by kernel_rfl) (fun _ _ _ h => h) (Or.inl ⟨by rfl, ?_⟩) (by first | exact hHeld | assumption) ?_
    rotate_left 1
    · intro w hSw; (try dsimp only at hSw); go_simp; try (with_reducible rfl)
    try simp only [Act.put, List.setIfInBounds_toArray, List.set_cons_zero, List.set_cons_succ]
    refine wpAnyH_take (i := 10) (oi := { dst := some 31, op := Op.load 30 (Operand.tmp 3), type := 30, pos := "law.go:60", after := #[{ on := 9, ground := Ground.guard }], guard := some (9, true) }) (v := ?_) rfl (by kernel_rfl) (by kernel_rfl) (by kernel_rfl) (fun _ _ _ h => h) (Or.inl ⟨by rfl, ?_⟩) (by first | exact hHeld | assumption) ?_
    rotate_left 1
    · intro w hSw; (try dsimp only at hSw); go_simp; try (with_reducible rfl)
    try simp only [Act.put, List.setIfInBounds_toArray, List.set_cons_zero, List.set_cons_succ]
    refine wpAnyH_take (i := 11) (oi := { dst := some 32, op := Op.build 30 #[], type := 30, pos := "law.go:60", after := #[{ on := 9, ground := Ground.guard }], guard := some (9, true) }) (v := ?_) rfl (by kernel_rfl) (by kernel_rfl) (by kernel_rfl) (fun _ _ _ h => h) (Or.inl ⟨by rfl, ?_⟩) (by first | exact hHeld | assumption) ?_
    rotate_left 1
    · intro w hSw; (try dsimp only at hSw); go_simp; try (with_reducible rfl)
    try simp only [Act.put, List.setIfInBounds_toArray, List.set_cons_zero, List.set_cons_succ]
    refine wpAnyH_take (i := 13) (oi := { dst := some 34, op := Op.load 30 (Operand.tmp 3), type := 30, pos := "law.go:60", after := #[{ on := 9, ground := Ground.guard }], guard := some (9, true) }) (v := ?_) rfl (by kernel_rfl) (by kernel_rfl) (by kernel_rfl) (fun _ _ _ h => h) (Or.inl ⟨by rfl, ?_⟩) (by first | exact hHeld | assumption) ?_
    rotate_left 1
    · intro w hSw; (try dsimp only at hSw); go_simp; try (with_reducible rfl)
    try simp only [Act.put, List.setIfInBounds_toArray, List.set_cons_zero, List.set_cons_succ]
    refine wpAnyH_ready (rs := [12]) (by kernel_rfl) (by simp) ?_
    refine AllReadyH.cons (o := { dst := some 33, op := Op.call { callee := Callee.value (Operand.func 20), args := #[Operand.tmp 31, Operand.tmp 32], argTypes := #[30, 30] }, type := 4, pos := "law.go:60", after := #[{ on := 10, ground := Ground.data }, { on := 11, ground := Ground.data }, { on := 9, ground := Ground.chain }, { on := 9, ground := Ground.guard }], guard := some (9, true) }) rfl (fun K hK => ?_) AllReadyH.nil
    go_simp
    refine (W5.out _).mono ?_; rintro e u1 ⟨rfl, b⟩
    replace QB := Lib.hid (below_next' QB.out b)
    clear b
    go_wp2_with fail
    refine hK.out _ _ (SD.out _ QB.out) (fun hHeld => ?_)
    clear hK K
    try simp only [Act.put, List.setIfInBounds_toArray, List.set_cons_zero, List.set_cons_succ]
    refine wpAnyH_ready (rs := [14]) (by kernel_rfl) (by simp) ?_
    refine AllReadyH.cons (o := { dst := some 35, op := Op.call { callee := Callee.value (Operand.func 12), args := #[Operand.tmp 34], argTypes := #[30] }, type := 4, pos := "law.go:60", after := #[{ on := 13, ground := Ground.data }, { on := 12, ground := Ground.chain }, { on := 9, ground := Ground.guard }], guard := some (9, true) }) rfl (fun K hK => ?_) AllReadyH.nil
    go_simp
    refine (R.out _).mono ?_; rintro e u1 ⟨rfl, b⟩
    replace QB := Lib.hid (below_next' QB.out b)
    clear b
    go_wp2_with fail
    refine hK.out _ _ (SD.out _ QB.out) (fun hHeld => ?_)
    clear hK K
    try simp only [Act.put, List.setIfInBounds_toArray, List.set_cons_zero, List.set_cons_succ]
    refine wpAnyH_take (i := 15) (oi := { dst := some 36, op := Op.binOp BinOp.eql 4 (Operand.tmp 33) (Operand.tmp 35) 4, type := 4, pos := "law.go:60", after := #[{ on := 12, ground := Ground.data }, { on := 14, ground := Ground.data }, { on := 9, ground := Ground.guard }], guard := some (9, true) }) (v := ?_) rfl (by kernel_rfl) (by kernel_rfl) (by kernel_rfl) (fun _ _ _ h => h) (Or.inl ⟨by rfl, ?_⟩) (by first | exact hHeld | assumption) ?_
    rotate_left 1
    · intro w hSw; (try dsimp only at hSw); go_simp; first | with_reducible rfl | (simp; done)
    try simp only [Act.put, List.setIfInBounds_toArray, List.set_cons_zero, List.set_cons_succ]
    refine wpAnyH_take (i := 16) (oi := { dst := some 37, op := Op.pick (Operand.tmp 30) (Operand.tmp 36) (Operand.const (Value.bool false)), type := 4, pos := "law.go:60", after := #[{ on := 9, ground := Ground.data }, { on := 15, ground := Ground.data }], guard := none }) (v := ?_) rfl (by kernel_rfl) (by kernel_rfl) (by kernel_rfl) (fun _ _ _ h => h) (Or.inl ⟨by rfl, ?_⟩) (by first | exact hHeld | assumption) ?_
    rotate_left 1
    · intro w hSw; (try dsimp only at hSw); go_simp; try (with_reducible rfl)
    try simp only [Act.put, List.setIfInBounds_toArray, List.set_cons_zero, List.set_cons_succ]
    refine wpAnyH_take (i := 17) (oi := { dst := some 38, op := Op.move (Operand.tmp 37), type := 4, pos := "law.go:60", after := #[{ on := 16, ground := Ground.data }, { on := 14, ground := Ground.chain }], guard := none }) (v := ?_) rfl (by kernel_rfl) (by kernel_rfl) (by kernel_rfl) (fun _ _ _ h => h) (Or.inl ⟨by rfl, ?_⟩) (by first | exact hHeld | assumption) ?_
    rotate_left 1
    · intro w hSw; (try dsimp only at hSw); go_simp; try (with_reducible rfl)
    try simp only [Act.put, List.setIfInBounds_toArray, List.set_cons_zero, List.set_cons_succ]
    refine wpAnyH_take (i := 18) (oi := { dst := some 39, op := Op.move (Operand.tmp 8), type := 4, pos := "law.go:60", after := #[{ on := 17, ground := Ground.guard }], guard := some (17, true) }) (v := ?_) rfl (by kernel_rfl) (by kernel_rfl) (by kernel_rfl) (fun _ _ _ h => h) (Or.inl ⟨by rfl, ?_⟩) (by first | exact hHeld | assumption) ?_
    rotate_left 1
    · intro w hSw; (try dsimp only at hSw); go_simp; try (with_reducible rfl)
    try simp only [Act.put, List.setIfInBounds_toArray, List.set_cons_zero, List.set_cons_succ]
    refine wpAnyH_take (i := 19) (oi := { dst := some 40, op := Op.unOp UnOp.not 4 (Operand.tmp 39), type := 4, pos := "law.go:60", after := #[{ on := 18, ground := Ground.data }, { on := 17, ground := Ground.guard }], guard := some (17, true) }) (v := ?_) rfl (by kernel_rfl) (by kernel_rfl) (by kernel_rfl) (fun _ _ _ h => h) (Or.inl ⟨by rfl, ?_⟩) (by first | exact hHeld | assumption) ?_
    rotate_left 1
    · intro w hSw; (try dsimp only at hSw); go_simp; try (with_reducible rfl)
    try simp only [Act.put, List.setIfInBounds_toArray, List.set_cons_zero, List.set_cons_succ]
    refine wpAnyH_take (i := 20) (oi := { dst := some 41, op := Op.move (Operand.tmp 40), type := 4, pos := "law.go:60", after := #[{ on := 19, ground := Ground.data }, { on := 17, ground := Ground.chain }, { on := 17, ground := Ground.guard }], guard := some (17, true) }) (v := ?_) rfl (by kernel_rfl) (by kernel_rfl) (by kernel_rfl) (fun _ _ _ h => h) (Or.inl ⟨by rfl, ?_⟩) (by first | exact hHeld | assumption) ?_
    rotate_left 1
    · intro w hSw; (try dsimp only at hSw); go_simp; try (with_reducible rfl)
    try simp only [Act.put, List.setIfInBounds_toArray, List.set_cons_zero, List.set_cons_succ]
    refine wpAnyH_take (i := 21) (oi := { dst := some 42, op := Op.move (Operand.tmp 9), type := 4, pos := "law.go:60", after := #[{ on := 20, ground := Ground.guard }], guard := some (20, false) }) (v := undef) rfl (by kernel_rfl) (by kernel_rfl) (by kernel_rfl) (fun _ _ _ h => h) (Or.inr ⟨by rfl, rfl⟩) (by first | exact hHeld | assumption) ?_
    try simp only [Act.put, List.setIfInBounds_toArray, List.set_cons_zero, List.set_cons_succ]
    refine wpAnyH_take (i := 22) (oi := { dst := some 43, op := Op.unOp UnOp.not 4 (Operand.tmp 42), type := 4, pos := "law.go:60", after := #[{ on := 21, ground := Ground.data }, { on := 20, ground := Ground.guard }], guard := some (20, false) }) (v := undef) rfl (by kernel_rfl) (by kernel_rfl) (by kernel_rfl) (fun _ _ _ h => h) (Or.inr ⟨by rfl, rfl⟩) (by first | exact hHeld | assumption) ?_
    try simp only [Act.put, List.setIfInBounds_toArray, List.set_cons_zero, List.set_cons_succ]
    refine wpAnyH_take (i := 23) (oi := { dst := some 44, op := Op.pick (Operand.tmp 41) (Operand.const (Value.bool true)) (Operand.tmp 43), type := 4, pos := "law.go:60", after := #[{ on := 20, ground := Ground.data }, { on := 22, ground := Ground.data }, { on := 17, ground := Ground.guard }], guard := some (17, true) }) (v := ?_) rfl (by kernel_rfl) (by kernel_rfl) (by kernel_rfl) (fun _ _ _ h => h) (Or.inl ⟨by rfl, ?_⟩) (by first | exact hHeld | assumption) ?_
    rotate_left 1
    · intro w hSw; (try dsimp only at hSw); go_simp; try (with_reducible rfl)
    try simp only [Act.put, List.setIfInBounds_toArray, List.set_cons_zero, List.set_cons_succ]
    refine wpAnyH_take (i := 24) (oi := { dst := some 45, op := Op.move (Operand.tmp 44), type := 4, pos := "law.go:60", after := #[{ on := 23, ground := Ground.data }, { on := 20, ground := Ground.chain }, { on := 17, ground := Ground.guard }], guard := some (17, true) }) (v := ?_) rfl (by kernel_rfl) (by kernel_rfl) (by kernel_rfl) (fun _ _ _ h => h) (Or.inl ⟨by rfl, ?_⟩) (by first | exact hHeld | assumption) ?_
    rotate_left 1
    · intro w hSw; (try dsimp only at hSw); go_simp; try (with_reducible rfl)
    try simp only [Act.put, List.setIfInBounds_toArray, List.set_cons_zero, List.set_cons_succ]
    refine wpAnyH_take (i := 25) (oi := { dst := some 46, op := Op.move (Operand.tmp 10), type := 4, pos := "law.go:60", after := #[{ on := 24, ground := Ground.guard }], guard := some (24, false) }) (v := undef) rfl (by kernel_rfl) (by kernel_rfl) (by kernel_rfl) (fun _ _ _ h => h) (Or.inr ⟨by rfl, rfl⟩) (by first | exact hHeld | assumption) ?_
    try simp only [Act.put, List.setIfInBounds_toArray, List.set_cons_zero, List.set_cons_succ]
    refine wpAnyH_take (i := 26) (oi := { dst := some 47, op := Op.pick (Operand.tmp 45) (Operand.const (Value.bool true)) (Operand.tmp 46), type := 4, pos := "law.go:60", after := #[{ on := 24, ground := Ground.data }, { on := 25, ground := Ground.data }, { on := 17, ground := Ground.guard }], guard := some (17, true) }) (v := ?_) rfl (by kernel_rfl) (by kernel_rfl) (by kernel_rfl) (fun _ _ _ h => h) (Or.inl ⟨by rfl, ?_⟩) (by first | exact hHeld | assumption) ?_
    rotate_left 1
    · intro w hSw; (try dsimp only at hSw); go_simp; try (with_reducible rfl)
    try simp only [Act.put, List.setIfInBounds_toArray, List.set_cons_zero, List.set_cons_succ]
    refine wpAnyH_take (i := 27) (oi := { dst := some 48, op := Op.pick (Operand.tmp 38) (Operand.tmp 47) (Operand.const (Value.bool false)), type := 4, pos := "law.go:60", after := #[{ on := 17, ground := Ground.data }, { on := 26, ground := Ground.data }], guard := none }) (v := ?_) rfl (by kernel_rfl) (by kernel_rfl) (by kernel_rfl) (fun _ _ _ h => h) (Or.inl ⟨by rfl, ?_⟩) (by first | exact hHeld | assumption) ?_
    rotate_left 1
    · intro w hSw; (try dsimp only at hSw); go_simp; try (with_reducible rfl)
    try simp only [Act.put, List.setIfInBounds_toArray, List.set_cons_zero, List.set_cons_succ]
    refine wpAnyH_take (i := 28) (oi := { dst := some 6, op := Op.assign (Operand.tmp 48), type := 4, pos := "law.go:60", after := #[{ on := 27, ground := Ground.data }, { on := 24, ground := Ground.chain }, { on := 0, ground := Ground.phase }, { on := 1, ground := Ground.phase }, { on := 2, ground := Ground.phase }, { on := 3, ground := Ground.phase }, { on := 4, ground := Ground.phase }, { on := 5, ground := Ground.phase }, { on := 6, ground := Ground.phase }, { on := 7, ground := Ground.phase }, { on := 8, ground := Ground.phase }, { on := 9, ground := Ground.phase }, { on := 10, ground := Ground.phase }, { on := 11, ground := Ground.phase }, { on := 12, ground := Ground.phase }, { on := 13, ground := Ground.phase }, { on := 14, ground := Ground.phase }, { on := 15, ground := Ground.phase }, { on := 16, ground := Ground.phase }, { on := 17, ground := Ground.phase }, { on := 18, ground := Ground.phase }, { on := 19, ground := Ground.phase }, { on := 20, ground := Ground.phase }, { on := 21, ground := Ground.phase }, { on := 22, ground := Ground.phase }, { on := 23, ground := Ground.phase }, { on := 24, ground := Ground.phase }, { on := 25, ground := Ground.phase }, { on := 26, ground := Ground.phase }, { on := 27, ground := Ground.phase }], guard := none }) (v := ?_) rfl (by kernel_rfl) (by kernel_rfl) (by kernel_rfl) (fun _ _ _ h => h) (Or.inl ⟨by rfl, ?_⟩) (by first | exact hHeld | assumption) ?_
    rotate_left 1
    · intro w hSw; (try dsimp only at hSw); go_simp; try (with_reducible rfl)
    try simp only [Act.put, List.setIfInBounds_toArray, List.set_cons_zero, List.set_cons_succ]
    refine wpAnyH_done (by kernel_rfl) ?_ _
    go_wp2_with fail
    go_ret
    exact ⟨rfl, below_next' X3.out.1 QB.out⟩
  cases y
  · clear HX
    go_upto_region 3 with fail
    have SD : Hid (∀ u, Below u1.heap.size u1 u → ((u.cell? ⟨w.heap.size, 0, none⟩ = some (.int .u8 a.k) ∧ u.cell? ⟨w.heap.size, 1, none⟩ = some (uV a.n.1.1) ∧ u.cell? ⟨w.heap.size, 2, none⟩ = some (uV a.n.1.2) ∧ u.cell? ⟨w.heap.size, 3, none⟩ = some (.int .u64 a.n.2.1) ∧ u.cell? ⟨w.heap.size, 4, none⟩ = some (.int .u64 a.n.2.2) ∧ u.cell? ⟨w.heap.size, 5, none⟩ = some (.int .i64 a.i) ∧ u.cell? ⟨w.heap.size, 6, none⟩ = some (.int .i64 a.o)) ∧ (u.cell? ⟨(w.heap.size + 1), 0, none⟩ = some (.int .u8 b.k) ∧ u.cell? ⟨(w.heap.size + 1), 1, none⟩ = some (uV b.n.1.1) ∧ u.cell? ⟨(w.heap.size + 1), 2, none⟩ = some (uV b.n.1.2) ∧ u.cell? ⟨(w.heap.size + 1), 3, none⟩ = some (.int .u64 b.n.2.1) ∧ u.cell? ⟨(w.heap.size + 1), 4, none⟩ = some (.int .u64 b.n.2.2) ∧ u.cell? ⟨(w.heap.size + 1), 5, none⟩ = some (.int .i64 b.i) ∧ u.cell? ⟨(w.heap.size + 1), 6, none⟩ = some (.int .i64 b.o)) ∧ (u.cell? ⟨(w.heap.size + 2), 0, none⟩ = some (.int .u8 c.k) ∧ u.cell? ⟨(w.heap.size + 2), 1, none⟩ = some (uV c.n.1.1) ∧ u.cell? ⟨(w.heap.size + 2), 2, none⟩ = some (uV c.n.1.2) ∧ u.cell? ⟨(w.heap.size + 2), 3, none⟩ = some (.int .u64 c.n.2.1) ∧ u.cell? ⟨(w.heap.size + 2), 4, none⟩ = some (.int .u64 c.n.2.2) ∧ u.cell? ⟨(w.heap.size + 2), 5, none⟩ = some (.int .i64 c.i) ∧ u.cell? ⟨(w.heap.size + 2), 6, none⟩ = some (.int .i64 c.o)))) := Lib.hid fun u bb => ⟨vB.cells ((X3.out.after bb).get (g := w.heap.size) (cs := vCells a) (t := 30) (by simp)), vB.cells ((X3.out.after bb).get (g := (w.heap.size + 1)) (cs := vCells b) (t := 30) (by simp)), vB.cells ((X3.out.after bb).get (g := (w.heap.size + 2)) (cs := vCells c) (t := 30) (by simp))⟩
    have QB : Hid (Below u1.heap.size u1 u1.drew) := Lib.hid (Below.drew (Below.refl _ _))
    refine wp_region_held_drew (S := fun w' => (w'.cell? ⟨w.heap.size, 0, none⟩ = some (.int .u8 a.k) ∧ w'.cell? ⟨w.heap.size, 1, none⟩ = some (uV a.n.1.1) ∧ w'.cell? ⟨w.heap.size, 2, none⟩ = some (uV a.n.1.2) ∧ w'.cell? ⟨w.heap.size, 3, none⟩ = some (.int .u64 a.n.2.1) ∧ w'.cell? ⟨w.heap.size, 4, none⟩ = some (.int .u64 a.n.2.2) ∧ w'.cell? ⟨w.heap.size, 5, none⟩ = some (.int .i64 a.i) ∧ w'.cell? ⟨w.heap.size, 6, none⟩ = some (.int .i64 a.o)) ∧ (w'.cell? ⟨(w.heap.size + 1), 0, none⟩ = some (.int .u8 b.k) ∧ w'.cell? ⟨(w.heap.size + 1), 1, none⟩ = some (uV b.n.1.1) ∧ w'.cell? ⟨(w.heap.size + 1), 2, none⟩ = some (uV b.n.1.2) ∧ w'.cell? ⟨(w.heap.size + 1), 3, none⟩ = some (.int .u64 b.n.2.1) ∧ w'.cell? ⟨(w.heap.size + 1), 4, none⟩ = some (.int .u64 b.n.2.2) ∧ w'.cell? ⟨(w.heap.size + 1), 5, none⟩ = some (.int .i64 b.i) ∧ w'.cell? ⟨(w.heap.size + 1), 6, none⟩ = some (.int .i64 b.o)) ∧ (w'.cell? ⟨(w.heap.size + 2), 0, none⟩ = some (.int .u8 c.k) ∧ w'.cell? ⟨(w.heap.size + 2), 1, none⟩ = some (uV c.n.1.1) ∧ w'.cell? ⟨(w.heap.size + 2), 2, none⟩ = some (uV c.n.1.2) ∧ w'.cell? ⟨(w.heap.size + 2), 3, none⟩ = some (.int .u64 c.n.2.1) ∧ w'.cell? ⟨(w.heap.size + 2), 4, none⟩ = some (.int .u64 c.n.2.2) ∧ w'.cell? ⟨(w.heap.size + 2), 5, none⟩ = some (.int .i64 c.i) ∧ w'.cell? ⟨(w.heap.size + 2), 6, none⟩ = some (.int .i64 c.o))) (by kernel_rfl) (SD.out _ QB.out) (fun hHeld => ?_)
    generalize u1.drew = wd at *
    refine wpAnyH_take (i := 0) (oi := { dst := some 21, op := Op.move (Operand.tmp 7), type := 4, pos := "law.go:60", after := #[], guard := none }) (v := ?_) rfl (by kernel_rfl) (by kernel_rfl) (by kernel_rfl) (fun _ _ _ h => h) (Or.inl ⟨by rfl, ?_⟩) (by first | exact hHeld | assumption) ?_
    rotate_left 1
    · intro w hSw; (try dsimp only at hSw); go_simp; try (with_reducible rfl)
    try simp only [Act.put, List.setIfInBounds_toArray, List.set_cons_zero, List.set_cons_succ]
    refine wpAnyH_take (i := 1) (oi := { dst := some 22, op := Op.move (Operand.tmp 21), type := 4, pos := "law.go:60", after := #[{ on := 0, ground := Ground.data }], guard := none }) (v := ?_) rfl (by kernel_rfl) (by kernel_rfl) (by kernel_rfl) (fun _ _ _ h => h) (Or.inl ⟨by rfl, ?_⟩) (by first | exact hHeld | assumption) ?_
    rotate_left 1
    · intro w hSw; (try dsimp only at hSw); go_simp; try (with_reducible rfl)
    try simp only [Act.put, List.setIfInBounds_toArray, List.set_cons_zero, List.set_cons_succ]
    refine wpAnyH_take (i := 2) (oi := { dst := some 23, op := Op.load 30 (Operand.tmp 3), type := 30, pos := "law.go:60", after := #[{ on := 1, ground := Ground.guard }], guard := some (1, true) }) (v := ?_) rfl (by kernel_rfl) (by kernel_rfl) (by kernel_rfl) (fun _ _ _ h => h) (Or.inl ⟨by rfl, ?_⟩) (by first | exact hHeld | assumption) ?_
    rotate_left 1
    · intro w hSw; (try dsimp only at hSw); go_simp; try (with_reducible rfl)
    try simp only [Act.put, List.setIfInBounds_toArray, List.set_cons_zero, List.set_cons_succ]
    refine wpAnyH_take (i := 3) (oi := { dst := some 24, op := Op.load 30 (Operand.tmp 3), type := 30, pos := "law.go:60", after := #[{ on := 1, ground := Ground.guard }], guard := some (1, true) }) (v := ?_) rfl (by kernel_rfl) (by kernel_rfl) (by kernel_rfl) (fun _ _ _ h => h) (Or.inl ⟨by rfl, ?_⟩) (by first | exact hHeld | assumption) ?_
    rotate_left 1
    · intro w hSw; (try dsimp only at hSw); go_simp; try (with_reducible rfl)
    try simp only [Act.put, List.setIfInBounds_toArray, List.set_cons_zero, List.set_cons_succ]
    refine wpAnyH_take (i := 5) (oi := { dst := some 26, op := Op.load 30 (Operand.tmp 3), type := 30, pos := "law.go:60", after := #[{ on := 1, ground := Ground.guard }], guard := some (1, true) }) (v := ?_) rfl (by kernel_rfl) (by kernel_rfl) (by kernel_rfl) (fun _ _ _ h => h) (Or.inl ⟨by rfl, ?_⟩) (by first | exact hHeld | assumption) ?_
    rotate_left 1
    · intro w hSw; (try dsimp only at hSw); go_simp; try (with_reducible rfl)
    try simp only [Act.put, List.setIfInBounds_toArray, List.set_cons_zero, List.set_cons_succ]
    refine wpAnyH_ready (rs := [4]) (by kernel_rfl) (by simp) ?_
    refine AllReadyH.cons (o := { dst := some 25, op := Op.call { callee := Callee.value (Operand.func 20), args := #[Operand.tmp 23, Operand.tmp 24], argTypes := #[30, 30] }, type := 4, pos := "law.go:60", after := #[{ on := 2, ground := Ground.data }, { on := 3, ground := Ground.data }, { on := 1, ground := Ground.chain }, { on := 1, ground := Ground.guard }], guard := some (1, true) }) rfl (fun K hK => ?_) AllReadyH.nil
    go_simp
    refine (W4.out _).mono ?_; rintro e u1 ⟨rfl, b⟩
    replace QB := Lib.hid (below_next' QB.out b)
    clear b
    go_wp2_with fail
    refine hK.out _ _ (SD.out _ QB.out) (fun hHeld => ?_)
    clear hK K
    try simp only [Act.put, List.setIfInBounds_toArray, List.set_cons_zero, List.set_cons_succ]
    refine wpAnyH_ready (rs := [6]) (by kernel_rfl) (by simp) ?_
    refine AllReadyH.cons (o := { dst := some 27, op := Op.call { callee := Callee.value (Operand.func 12), args := #[Operand.tmp 26], argTypes := #[30] }, type := 4, pos := "law.go:60", after := #[{ on := 5, ground := Ground.data }, { on := 4, ground := Ground.chain }, { on := 1, ground := Ground.guard }], guard := some (1, true) }) rfl (fun K hK => ?_) AllReadyH.nil
    go_simp
    refine (R.out _).mono ?_; rintro e u1 ⟨rfl, b⟩
    replace QB := Lib.hid (below_next' QB.out b)
    clear b
    go_wp2_with fail
    refine hK.out _ _ (SD.out _ QB.out) (fun hHeld => ?_)
    clear hK K
    try simp only [Act.put, List.setIfInBounds_toArray, List.set_cons_zero, List.set_cons_succ]
    refine wpAnyH_take (i := 7) (oi := { dst := some 28, op := Op.binOp BinOp.eql 4 (Operand.tmp 25) (Operand.tmp 27) 4, type := 4, pos := "law.go:60", after := #[{ on := 4, ground := Ground.data }, { on := 6, ground := Ground.data }, { on := 1, ground := Ground.guard }], guard := some (1, true) }) (v := ?_) rfl (by kernel_rfl) (by kernel_rfl) (by kernel_rfl) (fun _ _ _ h => h) (Or.inl ⟨by rfl, ?_⟩) (by first | exact hHeld | assumption) ?_
    rotate_left 1
    · intro w hSw; (try dsimp only at hSw); go_simp; first | with_reducible rfl | (simp; done)
    try simp only [Act.put, List.setIfInBounds_toArray, List.set_cons_zero, List.set_cons_succ]
    refine wpAnyH_take (i := 8) (oi := { dst := some 29, op := Op.pick (Operand.tmp 22) (Operand.tmp 28) (Operand.const (Value.bool false)), type := 4, pos := "law.go:60", after := #[{ on := 1, ground := Ground.data }, { on := 7, ground := Ground.data }], guard := none }) (v := ?_) rfl (by kernel_rfl) (by kernel_rfl) (by kernel_rfl) (fun _ _ _ h => h) (Or.inl ⟨by rfl, ?_⟩) (by first | exact hHeld | assumption) ?_
    rotate_left 1
    · intro w hSw; (try dsimp only at hSw); go_simp; try (with_reducible rfl)
    try simp only [Act.put, List.setIfInBounds_toArray, List.set_cons_zero, List.set_cons_succ]
    refine wpAnyH_take (i := 9) (oi := { dst := some 30, op := Op.move (Operand.tmp 29), type := 4, pos := "law.go:60", after := #[{ on := 8, ground := Ground.data }, { on := 6, ground := Ground.chain }], guard := none }) (v := ?_) rfl (by kernel_rfl) (by kernel_rfl) (by kernel_rfl) (fun _ _ _ h => h) (Or.inl ⟨by rfl, ?_⟩) (by first | exact hHeld | assumption) ?_
    rotate_left 1
    · intro w hSw; (try dsimp only at hSw); go_simp; try (with_reducible rfl)
    try simp only [Act.put, List.setIfInBounds_toArray, List.set_cons_zero, List.set_cons_succ]
    refine wpAnyH_take (i := 10) (oi := { dst := some 31, op := Op.load 30 (Operand.tmp 3), type := 30, pos := "law.go:60", after := #[{ on := 9, ground := Ground.guard }], guard := some (9, true) }) (v := ?_) rfl (by kernel_rfl) (by kernel_rfl) (by kernel_rfl) (fun _ _ _ h => h) (Or.inl ⟨by rfl, ?_⟩) (by first | exact hHeld | assumption) ?_
    rotate_left 1
    · intro w hSw; (try dsimp only at hSw); go_simp; try (with_reducible rfl)
    try simp only [Act.put, List.setIfInBounds_toArray, List.set_cons_zero, List.set_cons_succ]
    refine wpAnyH_take (i := 11) (oi := { dst := some 32, op := Op.build 30 #[], type := 30, pos := "law.go:60", after := #[{ on := 9, ground := Ground.guard }], guard := some (9, true) }) (v := ?_) rfl (by kernel_rfl) (by kernel_rfl) (by kernel_rfl) (fun _ _ _ h => h) (Or.inl ⟨by rfl, ?_⟩) (by first | exact hHeld | assumption) ?_
    rotate_left 1
    · intro w hSw; (try dsimp only at hSw); go_simp; try (with_reducible rfl)
    try simp only [Act.put, List.setIfInBounds_toArray, List.set_cons_zero, List.set_cons_succ]
    refine wpAnyH_take (i := 13) (oi := { dst := some 34, op := Op.load 30 (Operand.tmp 3), type := 30, pos := "law.go:60", after := #[{ on := 9, ground := Ground.guard }], guard := some (9, true) }) (v := ?_) rfl (by kernel_rfl) (by kernel_rfl) (by kernel_rfl) (fun _ _ _ h => h) (Or.inl ⟨by rfl, ?_⟩) (by first | exact hHeld | assumption) ?_
    rotate_left 1
    · intro w hSw; (try dsimp only at hSw); go_simp; try (with_reducible rfl)
    try simp only [Act.put, List.setIfInBounds_toArray, List.set_cons_zero, List.set_cons_succ]
    refine wpAnyH_ready (rs := [12]) (by kernel_rfl) (by simp) ?_
    refine AllReadyH.cons (o := { dst := some 33, op := Op.call { callee := Callee.value (Operand.func 20), args := #[Operand.tmp 31, Operand.tmp 32], argTypes := #[30, 30] }, type := 4, pos := "law.go:60", after := #[{ on := 10, ground := Ground.data }, { on := 11, ground := Ground.data }, { on := 9, ground := Ground.chain }, { on := 9, ground := Ground.guard }], guard := some (9, true) }) rfl (fun K hK => ?_) AllReadyH.nil
    go_simp
    refine (W5.out _).mono ?_; rintro e u1 ⟨rfl, b⟩
    replace QB := Lib.hid (below_next' QB.out b)
    clear b
    go_wp2_with fail
    refine hK.out _ _ (SD.out _ QB.out) (fun hHeld => ?_)
    clear hK K
    try simp only [Act.put, List.setIfInBounds_toArray, List.set_cons_zero, List.set_cons_succ]
    refine wpAnyH_ready (rs := [14]) (by kernel_rfl) (by simp) ?_
    refine AllReadyH.cons (o := { dst := some 35, op := Op.call { callee := Callee.value (Operand.func 12), args := #[Operand.tmp 34], argTypes := #[30] }, type := 4, pos := "law.go:60", after := #[{ on := 13, ground := Ground.data }, { on := 12, ground := Ground.chain }, { on := 9, ground := Ground.guard }], guard := some (9, true) }) rfl (fun K hK => ?_) AllReadyH.nil
    go_simp
    refine (R.out _).mono ?_; rintro e u1 ⟨rfl, b⟩
    replace QB := Lib.hid (below_next' QB.out b)
    clear b
    go_wp2_with fail
    refine hK.out _ _ (SD.out _ QB.out) (fun hHeld => ?_)
    clear hK K
    try simp only [Act.put, List.setIfInBounds_toArray, List.set_cons_zero, List.set_cons_succ]
    refine wpAnyH_take (i := 15) (oi := { dst := some 36, op := Op.binOp BinOp.eql 4 (Operand.tmp 33) (Operand.tmp 35) 4, type := 4, pos := "law.go:60", after := #[{ on := 12, ground := Ground.data }, { on := 14, ground := Ground.data }, { on := 9, ground := Ground.guard }], guard := some (9, true) }) (v := ?_) rfl (by kernel_rfl) (by kernel_rfl) (by kernel_rfl) (fun _ _ _ h => h) (Or.inl ⟨by rfl, ?_⟩) (by first | exact hHeld | assumption) ?_
    rotate_left 1
    · intro w hSw; (try dsimp only at hSw); go_simp; first | with_reducible rfl | (simp; done)
    try simp only [Act.put, List.setIfInBounds_toArray, List.set_cons_zero, List.set_cons_succ]
    refine wpAnyH_take (i := 16) (oi := { dst := some 37, op := Op.pick (Operand.tmp 30) (Operand.tmp 36) (Operand.const (Value.bool false)), type := 4, pos := "law.go:60", after := #[{ on := 9, ground := Ground.data }, { on := 15, ground := Ground.data }], guard := none }) (v := ?_) rfl (by kernel_rfl) (by kernel_rfl) (by kernel_rfl) (fun _ _ _ h => h) (Or.inl ⟨by rfl, ?_⟩) (by first | exact hHeld | assumption) ?_
    rotate_left 1
    · intro w hSw; (try dsimp only at hSw); go_simp; try (with_reducible rfl)
    try simp only [Act.put, List.setIfInBounds_toArray, List.set_cons_zero, List.set_cons_succ]
    refine wpAnyH_take (i := 17) (oi := { dst := some 38, op := Op.move (Operand.tmp 37), type := 4, pos := "law.go:60", after := #[{ on := 16, ground := Ground.data }, { on := 14, ground := Ground.chain }], guard := none }) (v := ?_) rfl (by kernel_rfl) (by kernel_rfl) (by kernel_rfl) (fun _ _ _ h => h) (Or.inl ⟨by rfl, ?_⟩) (by first | exact hHeld | assumption) ?_
    rotate_left 1
    · intro w hSw; (try dsimp only at hSw); go_simp; try (with_reducible rfl)
    try simp only [Act.put, List.setIfInBounds_toArray, List.set_cons_zero, List.set_cons_succ]
    refine wpAnyH_take (i := 18) (oi := { dst := some 39, op := Op.move (Operand.tmp 8), type := 4, pos := "law.go:60", after := #[{ on := 17, ground := Ground.guard }], guard := some (17, true) }) (v := ?_) rfl (by kernel_rfl) (by kernel_rfl) (by kernel_rfl) (fun _ _ _ h => h) (Or.inl ⟨by rfl, ?_⟩) (by first | exact hHeld | assumption) ?_
    rotate_left 1
    · intro w hSw; (try dsimp only at hSw); go_simp; try (with_reducible rfl)
    try simp only [Act.put, List.setIfInBounds_toArray, List.set_cons_zero, List.set_cons_succ]
    refine wpAnyH_take (i := 19) (oi := { dst := some 40, op := Op.unOp UnOp.not 4 (Operand.tmp 39), type := 4, pos := "law.go:60", after := #[{ on := 18, ground := Ground.data }, { on := 17, ground := Ground.guard }], guard := some (17, true) }) (v := ?_) rfl (by kernel_rfl) (by kernel_rfl) (by kernel_rfl) (fun _ _ _ h => h) (Or.inl ⟨by rfl, ?_⟩) (by first | exact hHeld | assumption) ?_
    rotate_left 1
    · intro w hSw; (try dsimp only at hSw); go_simp; try (with_reducible rfl)
    try simp only [Act.put, List.setIfInBounds_toArray, List.set_cons_zero, List.set_cons_succ]
    refine wpAnyH_take (i := 20) (oi := { dst := some 41, op := Op.move (Operand.tmp 40), type := 4, pos := "law.go:60", after := #[{ on := 19, ground := Ground.data }, { on := 17, ground := Ground.chain }, { on := 17, ground := Ground.guard }], guard := some (17, true) }) (v := ?_) rfl (by kernel_rfl) (by kernel_rfl) (by kernel_rfl) (fun _ _ _ h => h) (Or.inl ⟨by rfl, ?_⟩) (by first | exact hHeld | assumption) ?_
    rotate_left 1
    · intro w hSw; (try dsimp only at hSw); go_simp; try (with_reducible rfl)
    try simp only [Act.put, List.setIfInBounds_toArray, List.set_cons_zero, List.set_cons_succ]
    refine wpAnyH_take (i := 21) (oi := { dst := some 42, op := Op.move (Operand.tmp 9), type := 4, pos := "law.go:60", after := #[{ on := 20, ground := Ground.guard }], guard := some (20, false) }) (v := ?_) rfl (by kernel_rfl) (by kernel_rfl) (by kernel_rfl) (fun _ _ _ h => h) (Or.inl ⟨by rfl, ?_⟩) (by first | exact hHeld | assumption) ?_
    rotate_left 1
    · intro w hSw; (try dsimp only at hSw); go_simp; try (with_reducible rfl)
    try simp only [Act.put, List.setIfInBounds_toArray, List.set_cons_zero, List.set_cons_succ]
    refine wpAnyH_take (i := 22) (oi := { dst := some 43, op := Op.unOp UnOp.not 4 (Operand.tmp 42), type := 4, pos := "law.go:60", after := #[{ on := 21, ground := Ground.data }, { on := 20, ground := Ground.guard }], guard := some (20, false) }) (v := ?_) rfl (by kernel_rfl) (by kernel_rfl) (by kernel_rfl) (fun _ _ _ h => h) (Or.inl ⟨by rfl, ?_⟩) (by first | exact hHeld | assumption) ?_
    rotate_left 1
    · intro w hSw; (try dsimp only at hSw); go_simp; try (with_reducible rfl)
    try simp only [Act.put, List.setIfInBounds_toArray, List.set_cons_zero, List.set_cons_succ]
    refine wpAnyH_take (i := 23) (oi := { dst := some 44, op := Op.pick (Operand.tmp 41) (Operand.const (Value.bool true)) (Operand.tmp 43), type := 4, pos := "law.go:60", after := #[{ on := 20, ground := Ground.data }, { on := 22, ground := Ground.data }, { on := 17, ground := Ground.guard }], guard := some (17, true) }) (v := ?_) rfl (by kernel_rfl) (by kernel_rfl) (by kernel_rfl) (fun _ _ _ h => h) (Or.inl ⟨by rfl, ?_⟩) (by first | exact hHeld | assumption) ?_
    rotate_left 1
    · intro w hSw; (try dsimp only at hSw); go_simp; try (with_reducible rfl)
    try simp only [Act.put, List.setIfInBounds_toArray, List.set_cons_zero, List.set_cons_succ]
    refine wpAnyH_take (i := 24) (oi := { dst := some 45, op := Op.move (Operand.tmp 44), type := 4, pos := "law.go:60", after := #[{ on := 23, ground := Ground.data }, { on := 20, ground := Ground.chain }, { on := 17, ground := Ground.guard }], guard := some (17, true) }) (v := ?_) rfl (by kernel_rfl) (by kernel_rfl) (by kernel_rfl) (fun _ _ _ h => h) (Or.inl ⟨by rfl, ?_⟩) (by first | exact hHeld | assumption) ?_
    rotate_left 1
    · intro w hSw; (try dsimp only at hSw); go_simp; try (with_reducible rfl)
    try simp only [Act.put, List.setIfInBounds_toArray, List.set_cons_zero, List.set_cons_succ]
    refine wpAnyH_take (i := 25) (oi := { dst := some 46, op := Op.move (Operand.tmp 10), type := 4, pos := "law.go:60", after := #[{ on := 24, ground := Ground.guard }], guard := some (24, false) }) (v := undef) rfl (by kernel_rfl) (by kernel_rfl) (by kernel_rfl) (fun _ _ _ h => h) (Or.inr ⟨by rfl, rfl⟩) (by first | exact hHeld | assumption) ?_
    try simp only [Act.put, List.setIfInBounds_toArray, List.set_cons_zero, List.set_cons_succ]
    refine wpAnyH_take (i := 26) (oi := { dst := some 47, op := Op.pick (Operand.tmp 45) (Operand.const (Value.bool true)) (Operand.tmp 46), type := 4, pos := "law.go:60", after := #[{ on := 24, ground := Ground.data }, { on := 25, ground := Ground.data }, { on := 17, ground := Ground.guard }], guard := some (17, true) }) (v := ?_) rfl (by kernel_rfl) (by kernel_rfl) (by kernel_rfl) (fun _ _ _ h => h) (Or.inl ⟨by rfl, ?_⟩) (by first | exact hHeld | assumption) ?_
    rotate_left 1
    · intro w hSw; (try dsimp only at hSw); go_simp; try (with_reducible rfl)
    try simp only [Act.put, List.setIfInBounds_toArray, List.set_cons_zero, List.set_cons_succ]
    refine wpAnyH_take (i := 27) (oi := { dst := some 48, op := Op.pick (Operand.tmp 38) (Operand.tmp 47) (Operand.const (Value.bool false)), type := 4, pos := "law.go:60", after := #[{ on := 17, ground := Ground.data }, { on := 26, ground := Ground.data }], guard := none }) (v := ?_) rfl (by kernel_rfl) (by kernel_rfl) (by kernel_rfl) (fun _ _ _ h => h) (Or.inl ⟨by rfl, ?_⟩) (by first | exact hHeld | assumption) ?_
    rotate_left 1
    · intro w hSw; (try dsimp only at hSw); go_simp; try (with_reducible rfl)
    try simp only [Act.put, List.setIfInBounds_toArray, List.set_cons_zero, List.set_cons_succ]
    refine wpAnyH_take (i := 28) (oi := { dst := some 6, op := Op.assign (Operand.tmp 48), type := 4, pos := "law.go:60", after := #[{ on := 27, ground := Ground.data }, { on := 24, ground := Ground.chain }, { on := 0, ground := Ground.phase }, { on := 1, ground := Ground.phase }, { on := 2, ground := Ground.phase }, { on := 3, ground := Ground.phase }, { on := 4, ground := Ground.phase }, { on := 5, ground := Ground.phase }, { on := 6, ground := Ground.phase }, { on := 7, ground := Ground.phase }, { on := 8, ground := Ground.phase }, { on := 9, ground := Ground.phase }, { on := 10, ground := Ground.phase }, { on := 11, ground := Ground.phase }, { on := 12, ground := Ground.phase }, { on := 13, ground := Ground.phase }, { on := 14, ground := Ground.phase }, { on := 15, ground := Ground.phase }, { on := 16, ground := Ground.phase }, { on := 17, ground := Ground.phase }, { on := 18, ground := Ground.phase }, { on := 19, ground := Ground.phase }, { on := 20, ground := Ground.phase }, { on := 21, ground := Ground.phase }, { on := 22, ground := Ground.phase }, { on := 23, ground := Ground.phase }, { on := 24, ground := Ground.phase }, { on := 25, ground := Ground.phase }, { on := 26, ground := Ground.phase }, { on := 27, ground := Ground.phase }], guard := none }) (v := ?_) rfl (by kernel_rfl) (by kernel_rfl) (by kernel_rfl) (fun _ _ _ h => h) (Or.inl ⟨by rfl, ?_⟩) (by first | exact hHeld | assumption) ?_
    rotate_left 1
    · intro w hSw; (try dsimp only at hSw); go_simp; try (with_reducible rfl)
    try simp only [Act.put, List.setIfInBounds_toArray, List.set_cons_zero, List.set_cons_succ]
    refine wpAnyH_done (by kernel_rfl) ?_ _
    go_wp2_with fail
    go_ret
    exact ⟨rfl, below_next' X3.out.1 QB.out⟩
  have hz := HX.out rfl rfl
  subst hz
  clear HX
  · skip
    go_upto_region 3 with fail
    have SD : Hid (∀ u, Below u1.heap.size u1 u → ((u.cell? ⟨w.heap.size, 0, none⟩ = some (.int .u8 a.k) ∧ u.cell? ⟨w.heap.size, 1, none⟩ = some (uV a.n.1.1) ∧ u.cell? ⟨w.heap.size, 2, none⟩ = some (uV a.n.1.2) ∧ u.cell? ⟨w.heap.size, 3, none⟩ = some (.int .u64 a.n.2.1) ∧ u.cell? ⟨w.heap.size, 4, none⟩ = some (.int .u64 a.n.2.2) ∧ u.cell? ⟨w.heap.size, 5, none⟩ = some (.int .i64 a.i) ∧ u.cell? ⟨w.heap.size, 6, none⟩ = some (.int .i64 a.o)) ∧ (u.cell? ⟨(w.heap.size + 1), 0, none⟩ = some (.int .u8 b.k) ∧ u.cell? ⟨(w.heap.size + 1), 1, none⟩ = some (uV b.n.1.1) ∧ u.cell? ⟨(w.heap.size + 1), 2, none⟩ = some (uV b.n.1.2) ∧ u.cell? ⟨(w.heap.size + 1), 3, none⟩ = some (.int .u64 b.n.2.1) ∧ u.cell? ⟨(w.heap.size + 1), 4, none⟩ = some (.int .u64 b.n.2.2) ∧ u.cell? ⟨(w.heap.size + 1), 5, none⟩ = some (.int .i64 b.i) ∧ u.cell? ⟨(w.heap.size + 1), 6, none⟩ = some (.int .i64 b.o)) ∧ (u.cell? ⟨(w.heap.size + 2), 0, none⟩ = some (.int .u8 c.k) ∧ u.cell? ⟨(w.heap.size + 2), 1, none⟩ = some (uV c.n.1.1) ∧ u.cell? ⟨(w.heap.size + 2), 2, none⟩ = some (uV c.n.1.2) ∧ u.cell? ⟨(w.heap.size + 2), 3, none⟩ = some (.int .u64 c.n.2.1) ∧ u.cell? ⟨(w.heap.size + 2), 4, none⟩ = some (.int .u64 c.n.2.2) ∧ u.cell? ⟨(w.heap.size + 2), 5, none⟩ = some (.int .i64 c.i) ∧ u.cell? ⟨(w.heap.size + 2), 6, none⟩ = some (.int .i64 c.o)))) := Lib.hid fun u bb => ⟨vB.cells ((X3.out.after bb).get (g := w.heap.size) (cs := vCells a) (t := 30) (by simp)), vB.cells ((X3.out.after bb).get (g := (w.heap.size + 1)) (cs := vCells b) (t := 30) (by simp)), vB.cells ((X3.out.after bb).get (g := (w.heap.size + 2)) (cs := vCells c) (t := 30) (by simp))⟩
    have QB : Hid (Below u1.heap.size u1 u1.drew) := Lib.hid (Below.drew (Below.refl _ _))
    refine wp_region_held_drew (S := fun w' => (w'.cell? ⟨w.heap.size, 0, none⟩ = some (.int .u8 a.k) ∧ w'.cell? ⟨w.heap.size, 1, none⟩ = some (uV a.n.1.1) ∧ w'.cell? ⟨w.heap.size, 2, none⟩ = some (uV a.n.1.2) ∧ w'.cell? ⟨w.heap.size, 3, none⟩ = some (.int .u64 a.n.2.1) ∧ w'.cell? ⟨w.heap.size, 4, none⟩ = some (.int .u64 a.n.2.2) ∧ w'.cell? ⟨w.heap.size, 5, none⟩ = some (.int .i64 a.i) ∧ w'.cell? ⟨w.heap.size, 6, none⟩ = some (.int .i64 a.o)) ∧ (w'.cell? ⟨(w.heap.size + 1), 0, none⟩ = some (.int .u8 b.k) ∧ w'.cell? ⟨(w.heap.size + 1), 1, none⟩ = some (uV b.n.1.1) ∧ w'.cell? ⟨(w.heap.size + 1), 2, none⟩ = some (uV b.n.1.2) ∧ w'.cell? ⟨(w.heap.size + 1), 3, none⟩ = some (.int .u64 b.n.2.1) ∧ w'.cell? ⟨(w.heap.size + 1), 4, none⟩ = some (.int .u64 b.n.2.2) ∧ w'.cell? ⟨(w.heap.size + 1), 5, none⟩ = some (.int .i64 b.i) ∧ w'.cell? ⟨(w.heap.size + 1), 6, none⟩ = some (.int .i64 b.o)) ∧ (w'.cell? ⟨(w.heap.size + 2), 0, none⟩ = some (.int .u8 c.k) ∧ w'.cell? ⟨(w.heap.size + 2), 1, none⟩ = some (uV c.n.1.1) ∧ w'.cell? ⟨(w.heap.size + 2), 2, none⟩ = some (uV c.n.1.2) ∧ w'.cell? ⟨(w.heap.size + 2), 3, none⟩ = some (.int .u64 c.n.2.1) ∧ w'.cell? ⟨(w.heap.size + 2), 4, none⟩ = some (.int .u64 c.n.2.2) ∧ w'.cell? ⟨(w.heap.size + 2), 5, none⟩ = some (.int .i64 c.i) ∧ w'.cell? ⟨(w.heap.size + 2), 6, none⟩ = some (.int .i64 c.o))) (by kernel_rfl) (SD.out _ QB.out) (fun hHeld => ?_)
    generalize u1.drew = wd at *
    refine wpAnyH_take (i := 0) (oi := { dst := some 21, op := Op.move (Operand.tmp 7), type := 4, pos := "law.go:60", after := #[], guard := none }) (v := ?_) rfl (by kernel_rfl) (by kernel_rfl) (by kernel_rfl) (fun _ _ _ h => h) (Or.inl ⟨by rfl, ?_⟩) (by first | exact hHeld | assumption) ?_
    rotate_left 1
    · intro w hSw; (try dsimp only at hSw); go_simp; try (with_reducible rfl)
    try simp only [Act.put, List.setIfInBounds_toArray, List.set_cons_zero, List.set_cons_succ]
    refine wpAnyH_take (i := 1) (oi := { dst := some 22, op := Op.move (Operand.tmp 21), type := 4, pos := "law.go:60", after := #[{ on := 0, ground := Ground.data }], guard := none }) (v := ?_) rfl (by kernel_rfl) (by kernel_rfl) (by kernel_rfl) (fun _ _ _ h => h) (Or.inl ⟨by rfl, ?_⟩) (by first | exact hHeld | assumption) ?_
    rotate_left 1
    · intro w hSw; (try dsimp only at hSw); go_simp; try (with_reducible rfl)
    try simp only [Act.put, List.setIfInBounds_toArray, List.set_cons_zero, List.set_cons_succ]
    refine wpAnyH_take (i := 2) (oi := { dst := some 23, op := Op.load 30 (Operand.tmp 3), type := 30, pos := "law.go:60", after := #[{ on := 1, ground := Ground.guard }], guard := some (1, true) }) (v := ?_) rfl (by kernel_rfl) (by kernel_rfl) (by kernel_rfl) (fun _ _ _ h => h) (Or.inl ⟨by rfl, ?_⟩) (by first | exact hHeld | assumption) ?_
    rotate_left 1
    · intro w hSw; (try dsimp only at hSw); go_simp; try (with_reducible rfl)
    try simp only [Act.put, List.setIfInBounds_toArray, List.set_cons_zero, List.set_cons_succ]
    refine wpAnyH_take (i := 3) (oi := { dst := some 24, op := Op.load 30 (Operand.tmp 3), type := 30, pos := "law.go:60", after := #[{ on := 1, ground := Ground.guard }], guard := some (1, true) }) (v := ?_) rfl (by kernel_rfl) (by kernel_rfl) (by kernel_rfl) (fun _ _ _ h => h) (Or.inl ⟨by rfl, ?_⟩) (by first | exact hHeld | assumption) ?_
    rotate_left 1
    · intro w hSw; (try dsimp only at hSw); go_simp; try (with_reducible rfl)
    try simp only [Act.put, List.setIfInBounds_toArray, List.set_cons_zero, List.set_cons_succ]
    refine wpAnyH_take (i := 5) (oi := { dst := some 26, op := Op.load 30 (Operand.tmp 3), type := 30, pos := "law.go:60", after := #[{ on := 1, ground := Ground.guard }], guard := some (1, true) }) (v := ?_) rfl (by kernel_rfl) (by kernel_rfl) (by kernel_rfl) (fun _ _ _ h => h) (Or.inl ⟨by rfl, ?_⟩) (by first | exact hHeld | assumption) ?_
    rotate_left 1
    · intro w hSw; (try dsimp only at hSw); go_simp; try (with_reducible rfl)
    try simp only [Act.put, List.setIfInBounds_toArray, List.set_cons_zero, List.set_cons_succ]
    refine wpAnyH_ready (rs := [4]) (by kernel_rfl) (by simp) ?_
    refine AllReadyH.cons (o := { dst := some 25, op := Op.call { callee := Callee.value (Operand.func 20), args := #[Operand.tmp 23, Operand.tmp 24], argTypes := #[30, 30] }, type := 4, pos := "law.go:60", after := #[{ on := 2, ground := Ground.data }, { on := 3, ground := Ground.data }, { on := 1, ground := Ground.chain }, { on := 1, ground := Ground.guard }], guard := some (1, true) }) rfl (fun K hK => ?_) AllReadyH.nil
    go_simp
    refine (W4.out _).mono ?_; rintro e u1 ⟨rfl, b⟩
    replace QB := Lib.hid (below_next' QB.out b)
    clear b
    go_wp2_with fail
    refine hK.out _ _ (SD.out _ QB.out) (fun hHeld => ?_)
    clear hK K
    try simp only [Act.put, List.setIfInBounds_toArray, List.set_cons_zero, List.set_cons_succ]
    refine wpAnyH_ready (rs := [6]) (by kernel_rfl) (by simp) ?_
    refine AllReadyH.cons (o := { dst := some 27, op := Op.call { callee := Callee.value (Operand.func 12), args := #[Operand.tmp 26], argTypes := #[30] }, type := 4, pos := "law.go:60", after := #[{ on := 5, ground := Ground.data }, { on := 4, ground := Ground.chain }, { on := 1, ground := Ground.guard }], guard := some (1, true) }) rfl (fun K hK => ?_) AllReadyH.nil
    go_simp
    refine (R.out _).mono ?_; rintro e u1 ⟨rfl, b⟩
    replace QB := Lib.hid (below_next' QB.out b)
    clear b
    go_wp2_with fail
    refine hK.out _ _ (SD.out _ QB.out) (fun hHeld => ?_)
    clear hK K
    try simp only [Act.put, List.setIfInBounds_toArray, List.set_cons_zero, List.set_cons_succ]
    refine wpAnyH_take (i := 7) (oi := { dst := some 28, op := Op.binOp BinOp.eql 4 (Operand.tmp 25) (Operand.tmp 27) 4, type := 4, pos := "law.go:60", after := #[{ on := 4, ground := Ground.data }, { on := 6, ground := Ground.data }, { on := 1, ground := Ground.guard }], guard := some (1, true) }) (v := ?_) rfl (by kernel_rfl) (by kernel_rfl) (by kernel_rfl) (fun _ _ _ h => h) (Or.inl ⟨by rfl, ?_⟩) (by first | exact hHeld | assumption) ?_
    rotate_left 1
    · intro w hSw; (try dsimp only at hSw); go_simp; first | with_reducible rfl | (simp; done)
    try simp only [Act.put, List.setIfInBounds_toArray, List.set_cons_zero, List.set_cons_succ]
    refine wpAnyH_take (i := 8) (oi := { dst := some 29, op := Op.pick (Operand.tmp 22) (Operand.tmp 28) (Operand.const (Value.bool false)), type := 4, pos := "law.go:60", after := #[{ on := 1, ground := Ground.data }, { on := 7, ground := Ground.data }], guard := none }) (v := ?_) rfl (by kernel_rfl) (by kernel_rfl) (by kernel_rfl) (fun _ _ _ h => h) (Or.inl ⟨by rfl, ?_⟩) (by first | exact hHeld | assumption) ?_
    rotate_left 1
    · intro w hSw; (try dsimp only at hSw); go_simp; try (with_reducible rfl)
    try simp only [Act.put, List.setIfInBounds_toArray, List.set_cons_zero, List.set_cons_succ]
    refine wpAnyH_take (i := 9) (oi := { dst := some 30, op := Op.move (Operand.tmp 29), type := 4, pos := "law.go:60", after := #[{ on := 8, ground := Ground.data }, { on := 6, ground := Ground.chain }], guard := none }) (v := ?_) rfl (by kernel_rfl) (by kernel_rfl) (by kernel_rfl) (fun _ _ _ h => h) (Or.inl ⟨by rfl, ?_⟩) (by first | exact hHeld | assumption) ?_
    rotate_left 1
    · intro w hSw; (try dsimp only at hSw); go_simp; try (with_reducible rfl)
    try simp only [Act.put, List.setIfInBounds_toArray, List.set_cons_zero, List.set_cons_succ]
    refine wpAnyH_take (i := 10) (oi := { dst := some 31, op := Op.load 30 (Operand.tmp 3), type := 30, pos := "law.go:60", after := #[{ on := 9, ground := Ground.guard }], guard := some (9, true) }) (v := ?_) rfl (by kernel_rfl) (by kernel_rfl) (by kernel_rfl) (fun _ _ _ h => h) (Or.inl ⟨by rfl, ?_⟩) (by first | exact hHeld | assumption) ?_
    rotate_left 1
    · intro w hSw; (try dsimp only at hSw); go_simp; try (with_reducible rfl)
    try simp only [Act.put, List.setIfInBounds_toArray, List.set_cons_zero, List.set_cons_succ]
    refine wpAnyH_take (i := 11) (oi := { dst := some 32, op := Op.build 30 #[], type := 30, pos := "law.go:60", after := #[{ on := 9, ground := Ground.guard }], guard := some (9, true) }) (v := ?_) rfl (by kernel_rfl) (by kernel_rfl) (by kernel_rfl) (fun _ _ _ h => h) (Or.inl ⟨by rfl, ?_⟩) (by first | exact hHeld | assumption) ?_
    rotate_left 1
    · intro w hSw; (try dsimp only at hSw); go_simp; try (with_reducible rfl)
    try simp only [Act.put, List.setIfInBounds_toArray, List.set_cons_zero, List.set_cons_succ]
    refine wpAnyH_take (i := 13) (oi := { dst := some 34, op := Op.load 30 (Operand.tmp 3), type := 30, pos := "law.go:60", after := #[{ on := 9, ground := Ground.guard }], guard := some (9, true) }) (v := ?_) rfl (by kernel_rfl) (by kernel_rfl) (by kernel_rfl) (fun _ _ _ h => h) (Or.inl ⟨by rfl, ?_⟩) (by first | exact hHeld | assumption) ?_
    rotate_left 1
    · intro w hSw; (try dsimp only at hSw); go_simp; try (with_reducible rfl)
    try simp only [Act.put, List.setIfInBounds_toArray, List.set_cons_zero, List.set_cons_succ]
    refine wpAnyH_ready (rs := [12]) (by kernel_rfl) (by simp) ?_
    refine AllReadyH.cons (o := { dst := some 33, op := Op.call { callee := Callee.value (Operand.func 20), args := #[Operand.tmp 31, Operand.tmp 32], argTypes := #[30, 30] }, type := 4, pos := "law.go:60", after := #[{ on := 10, ground := Ground.data }, { on := 11, ground := Ground.data }, { on := 9, ground := Ground.chain }, { on := 9, ground := Ground.guard }], guard := some (9, true) }) rfl (fun K hK => ?_) AllReadyH.nil
    go_simp
    refine (W5.out _).mono ?_; rintro e u1 ⟨rfl, b⟩
    replace QB := Lib.hid (below_next' QB.out b)
    clear b
    go_wp2_with fail
    refine hK.out _ _ (SD.out _ QB.out) (fun hHeld => ?_)
    clear hK K
    try simp only [Act.put, List.setIfInBounds_toArray, List.set_cons_zero, List.set_cons_succ]
    refine wpAnyH_ready (rs := [14]) (by kernel_rfl) (by simp) ?_
    refine AllReadyH.cons (o := { dst := some 35, op := Op.call { callee := Callee.value (Operand.func 12), args := #[Operand.tmp 34], argTypes := #[30] }, type := 4, pos := "law.go:60", after := #[{ on := 13, ground := Ground.data }, { on := 12, ground := Ground.chain }, { on := 9, ground := Ground.guard }], guard := some (9, true) }) rfl (fun K hK => ?_) AllReadyH.nil
    go_simp
    refine (R.out _).mono ?_; rintro e u1 ⟨rfl, b⟩
    replace QB := Lib.hid (below_next' QB.out b)
    clear b
    go_wp2_with fail
    refine hK.out _ _ (SD.out _ QB.out) (fun hHeld => ?_)
    clear hK K
    try simp only [Act.put, List.setIfInBounds_toArray, List.set_cons_zero, List.set_cons_succ]
    refine wpAnyH_take (i := 15) (oi := { dst := some 36, op := Op.binOp BinOp.eql 4 (Operand.tmp 33) (Operand.tmp 35) 4, type := 4, pos := "law.go:60", after := #[{ on := 12, ground := Ground.data }, { on := 14, ground := Ground.data }, { on := 9, ground := Ground.guard }], guard := some (9, true) }) (v := ?_) rfl (by kernel_rfl) (by kernel_rfl) (by kernel_rfl) (fun _ _ _ h => h) (Or.inl ⟨by rfl, ?_⟩) (by first | exact hHeld | assumption) ?_
    rotate_left 1
    · intro w hSw; (try dsimp only at hSw); go_simp; first | with_reducible rfl | (simp; done)
    try simp only [Act.put, List.setIfInBounds_toArray, List.set_cons_zero, List.set_cons_succ]
    refine wpAnyH_take (i := 16) (oi := { dst := some 37, op := Op.pick (Operand.tmp 30) (Operand.tmp 36) (Operand.const (Value.bool false)), type := 4, pos := "law.go:60", after := #[{ on := 9, ground := Ground.data }, { on := 15, ground := Ground.data }], guard := none }) (v := ?_) rfl (by kernel_rfl) (by kernel_rfl) (by kernel_rfl) (fun _ _ _ h => h) (Or.inl ⟨by rfl, ?_⟩) (by first | exact hHeld | assumption) ?_
    rotate_left 1
    · intro w hSw; (try dsimp only at hSw); go_simp; try (with_reducible rfl)
    try simp only [Act.put, List.setIfInBounds_toArray, List.set_cons_zero, List.set_cons_succ]
    refine wpAnyH_take (i := 17) (oi := { dst := some 38, op := Op.move (Operand.tmp 37), type := 4, pos := "law.go:60", after := #[{ on := 16, ground := Ground.data }, { on := 14, ground := Ground.chain }], guard := none }) (v := ?_) rfl (by kernel_rfl) (by kernel_rfl) (by kernel_rfl) (fun _ _ _ h => h) (Or.inl ⟨by rfl, ?_⟩) (by first | exact hHeld | assumption) ?_
    rotate_left 1
    · intro w hSw; (try dsimp only at hSw); go_simp; try (with_reducible rfl)
    try simp only [Act.put, List.setIfInBounds_toArray, List.set_cons_zero, List.set_cons_succ]
    refine wpAnyH_take (i := 18) (oi := { dst := some 39, op := Op.move (Operand.tmp 8), type := 4, pos := "law.go:60", after := #[{ on := 17, ground := Ground.guard }], guard := some (17, true) }) (v := ?_) rfl (by kernel_rfl) (by kernel_rfl) (by kernel_rfl) (fun _ _ _ h => h) (Or.inl ⟨by rfl, ?_⟩) (by first | exact hHeld | assumption) ?_
    rotate_left 1
    · intro w hSw; (try dsimp only at hSw); go_simp; try (with_reducible rfl)
    try simp only [Act.put, List.setIfInBounds_toArray, List.set_cons_zero, List.set_cons_succ]
    refine wpAnyH_take (i := 19) (oi := { dst := some 40, op := Op.unOp UnOp.not 4 (Operand.tmp 39), type := 4, pos := "law.go:60", after := #[{ on := 18, ground := Ground.data }, { on := 17, ground := Ground.guard }], guard := some (17, true) }) (v := ?_) rfl (by kernel_rfl) (by kernel_rfl) (by kernel_rfl) (fun _ _ _ h => h) (Or.inl ⟨by rfl, ?_⟩) (by first | exact hHeld | assumption) ?_
    rotate_left 1
    · intro w hSw; (try dsimp only at hSw); go_simp; try (with_reducible rfl)
    try simp only [Act.put, List.setIfInBounds_toArray, List.set_cons_zero, List.set_cons_succ]
    refine wpAnyH_take (i := 20) (oi := { dst := some 41, op := Op.move (Operand.tmp 40), type := 4, pos := "law.go:60", after := #[{ on := 19, ground := Ground.data }, { on := 17, ground := Ground.chain }, { on := 17, ground := Ground.guard }], guard := some (17, true) }) (v := ?_) rfl (by kernel_rfl) (by kernel_rfl) (by kernel_rfl) (fun _ _ _ h => h) (Or.inl ⟨by rfl, ?_⟩) (by first | exact hHeld | assumption) ?_
    rotate_left 1
    · intro w hSw; (try dsimp only at hSw); go_simp; try (with_reducible rfl)
    try simp only [Act.put, List.setIfInBounds_toArray, List.set_cons_zero, List.set_cons_succ]
    refine wpAnyH_take (i := 21) (oi := { dst := some 42, op := Op.move (Operand.tmp 9), type := 4, pos := "law.go:60", after := #[{ on := 20, ground := Ground.guard }], guard := some (20, false) }) (v := ?_) rfl (by kernel_rfl) (by kernel_rfl) (by kernel_rfl) (fun _ _ _ h => h) (Or.inl ⟨by rfl, ?_⟩) (by first | exact hHeld | assumption) ?_
    rotate_left 1
    · intro w hSw; (try dsimp only at hSw); go_simp; try (with_reducible rfl)
    try simp only [Act.put, List.setIfInBounds_toArray, List.set_cons_zero, List.set_cons_succ]
    refine wpAnyH_take (i := 22) (oi := { dst := some 43, op := Op.unOp UnOp.not 4 (Operand.tmp 42), type := 4, pos := "law.go:60", after := #[{ on := 21, ground := Ground.data }, { on := 20, ground := Ground.guard }], guard := some (20, false) }) (v := ?_) rfl (by kernel_rfl) (by kernel_rfl) (by kernel_rfl) (fun _ _ _ h => h) (Or.inl ⟨by rfl, ?_⟩) (by first | exact hHeld | assumption) ?_
    rotate_left 1
    · intro w hSw; (try dsimp only at hSw); go_simp; try (with_reducible rfl)
    try simp only [Act.put, List.setIfInBounds_toArray, List.set_cons_zero, List.set_cons_succ]
    refine wpAnyH_take (i := 23) (oi := { dst := some 44, op := Op.pick (Operand.tmp 41) (Operand.const (Value.bool true)) (Operand.tmp 43), type := 4, pos := "law.go:60", after := #[{ on := 20, ground := Ground.data }, { on := 22, ground := Ground.data }, { on := 17, ground := Ground.guard }], guard := some (17, true) }) (v := ?_) rfl (by kernel_rfl) (by kernel_rfl) (by kernel_rfl) (fun _ _ _ h => h) (Or.inl ⟨by rfl, ?_⟩) (by first | exact hHeld | assumption) ?_
    rotate_left 1
    · intro w hSw; (try dsimp only at hSw); go_simp; try (with_reducible rfl)
    try simp only [Act.put, List.setIfInBounds_toArray, List.set_cons_zero, List.set_cons_succ]
    refine wpAnyH_take (i := 24) (oi := { dst := some 45, op := Op.move (Operand.tmp 44), type := 4, pos := "law.go:60", after := #[{ on := 23, ground := Ground.data }, { on := 20, ground := Ground.chain }, { on := 17, ground := Ground.guard }], guard := some (17, true) }) (v := ?_) rfl (by kernel_rfl) (by kernel_rfl) (by kernel_rfl) (fun _ _ _ h => h) (Or.inl ⟨by rfl, ?_⟩) (by first | exact hHeld | assumption) ?_
    rotate_left 1
    · intro w hSw; (try dsimp only at hSw); go_simp; try (with_reducible rfl)
    try simp only [Act.put, List.setIfInBounds_toArray, List.set_cons_zero, List.set_cons_succ]
    refine wpAnyH_take (i := 25) (oi := { dst := some 46, op := Op.move (Operand.tmp 10), type := 4, pos := "law.go:60", after := #[{ on := 24, ground := Ground.guard }], guard := some (24, false) }) (v := ?_) rfl (by kernel_rfl) (by kernel_rfl) (by kernel_rfl) (fun _ _ _ h => h) (Or.inl ⟨by rfl, ?_⟩) (by first | exact hHeld | assumption) ?_
    rotate_left 1
    · intro w hSw; (try dsimp only at hSw); go_simp; try (with_reducible rfl)
    try simp only [Act.put, List.setIfInBounds_toArray, List.set_cons_zero, List.set_cons_succ]
    refine wpAnyH_take (i := 26) (oi := { dst := some 47, op := Op.pick (Operand.tmp 45) (Operand.const (Value.bool true)) (Operand.tmp 46), type := 4, pos := "law.go:60", after := #[{ on := 24, ground := Ground.data }, { on := 25, ground := Ground.data }, { on := 17, ground := Ground.guard }], guard := some (17, true) }) (v := ?_) rfl (by kernel_rfl) (by kernel_rfl) (by kernel_rfl) (fun _ _ _ h => h) (Or.inl ⟨by rfl, ?_⟩) (by first | exact hHeld | assumption) ?_
    rotate_left 1
    · intro w hSw; (try dsimp only at hSw); go_simp; try (with_reducible rfl)
    try simp only [Act.put, List.setIfInBounds_toArray, List.set_cons_zero, List.set_cons_succ]
    refine wpAnyH_take (i := 27) (oi := { dst := some 48, op := Op.pick (Operand.tmp 38) (Operand.tmp 47) (Operand.const (Value.bool false)), type := 4, pos := "law.go:60", after := #[{ on := 17, ground := Ground.data }, { on := 26, ground := Ground.data }], guard := none }) (v := ?_) rfl (by kernel_rfl) (by kernel_rfl) (by kernel_rfl) (fun _ _ _ h => h) (Or.inl ⟨by rfl, ?_⟩) (by first | exact hHeld | assumption) ?_
    rotate_left 1
    · intro w hSw; (try dsimp only at hSw); go_simp; try (with_reducible rfl)
    try simp only [Act.put, List.setIfInBounds_toArray, List.set_cons_zero, List.set_cons_succ]
    refine wpAnyH_take (i := 28) (oi := { dst := some 6, op := Op.assign (Operand.tmp 48), type := 4, pos := "law.go:60", after := #[{ on := 27, ground := Ground.data }, { on := 24, ground := Ground.chain }, { on := 0, ground := Ground.phase }, { on := 1, ground := Ground.phase }, { on := 2, ground := Ground.phase }, { on := 3, ground := Ground.phase }, { on := 4, ground := Ground.phase }, { on := 5, ground := Ground.phase }, { on := 6, ground := Ground.phase }, { on := 7, ground := Ground.phase }, { on := 8, ground := Ground.phase }, { on := 9, ground := Ground.phase }, { on := 10, ground := Ground.phase }, { on := 11, ground := Ground.phase }, { on := 12, ground := Ground.phase }, { on := 13, ground := Ground.phase }, { on := 14, ground := Ground.phase }, { on := 15, ground := Ground.phase }, { on := 16, ground := Ground.phase }, { on := 17, ground := Ground.phase }, { on := 18, ground := Ground.phase }, { on := 19, ground := Ground.phase }, { on := 20, ground := Ground.phase }, { on := 21, ground := Ground.phase }, { on := 22, ground := Ground.phase }, { on := 23, ground := Ground.phase }, { on := 24, ground := Ground.phase }, { on := 25, ground := Ground.phase }, { on := 26, ground := Ground.phase }, { on := 27, ground := Ground.phase }], guard := none }) (v := ?_) rfl (by kernel_rfl) (by kernel_rfl) (by kernel_rfl) (fun _ _ _ h => h) (Or.inl ⟨by rfl, ?_⟩) (by first | exact hHeld | assumption) ?_
    rotate_left 1
    · intro w hSw; (try dsimp only at hSw); go_simp; try (with_reducible rfl)
    try simp only [Act.put, List.setIfInBounds_toArray, List.set_cons_zero, List.set_cons_succ]
    refine wpAnyH_done (by kernel_rfl) ?_ _
    go_wp2_with fail
    go_ret
    exact ⟨rfl, below_next' X3.out.1 QB.out⟩

end Go.Proofs.Ytgjcbcpedoihaaa

namespace Go.Proofs.Ytgjcbcpedoihaaa
open Go Go.RowKit
set_option maxRecDepth 100000
set_option linter.unusedVariables false
set_option linter.unusedSimpArgs false

theorem fHas_on {a b : Fc} {n : BitVec 64} (h : fLe a b = true) (ha : fHas a n = true) : fHas b n = true := by
  obtain ⟨h1, h2⟩ := fLe_iff.mp h
  obtain ⟨k1, k2⟩ := fHas_iff.mp ha
  have e1 := sW_iff.mp h2
  have e2 := sH_iff.mp k2
  exact fHas_iff.mpr ⟨within_has h1 k1, sH_iff.mpr (by omega)⟩
theorem vIs_on {a b : Vl} {n : BitVec 64} {set : Bool} (h : vW a b = true) (hi : vIs a n set = true) : vIs b n set = true := by
  obtain ⟨ra, rb, k⟩ := vW_parts h
  rcases k with k | k | ⟨k1, k2, k3⟩
  · unfold vIs
    rw [rb, k]
    rfl
  · subst k; exact hi
  · unfold vIs at *
    have h2 := (Bool.and_eq_true_iff.mp hi).2
    have e : (a.k == 0) = false := by rw [k1]; rfl
    rw [e, Bool.false_or] at h2
    obtain ⟨h3, h4⟩ := Bool.and_eq_true_iff.mp h2
    unfold vHas at h4
    rw [if_pos k1] at h4
    unfold fHs at h4
    have h5 := (Bool.and_eq_true_iff.mp h4).2
    unfold fWi at k3
    simp only [Bool.and_eq_true] at k3
    have h6 : vHas b n = true := by
      unfold vHas
      rw [if_pos k2]
      unfold fHs
      rw [k3.1.2, fHas_on k3.2 h5]
      rfl
    rw [rb, h3, h6]
    simp
theorem vR_num {f : Fc} (h : fR f = true) : vR ⟨1, f, 0, 0⟩ = true := by
  rw [vR_of (s := ⟨1, f, 0, 0⟩) (said1 (v := ⟨1, f, 0, 0⟩) rfl), vEq_refl]
  simp [h, near_0]
theorem vJ_has {a b : Vl} (ra : vR a = true) (rb : vR b = true) (ha : vIn a) (hb : vIn b) : vW a (vJ a b) = true ∧ vW b (vJ a b) = true := by
  unfold vJ
  rw [ra, rb, Bool.true_and, if_pos rfl]
  cases hn : (a.k == 1 && b.k == 1)
  · rw [if_neg Bool.false_ne_true]
    cases he : vEq a b
    · rw [if_neg Bool.false_ne_true]
      exact ⟨by rw [vW_zero]; exact ra, by rw [vW_zero]; exact rb⟩
    · rw [if_pos rfl]
      have e := vEq_iff.mp he
      subst e
      exact ⟨by rw [vW_self]; exact ra, by rw [vW_self]; exact ra⟩
  · rw [if_pos rfl]
    simp only [Bool.and_eq_true, beq_iff_eq] at hn
    have fa := (vR_parts ra).2.1
    have fb := (vR_parts rb).2.1
    obtain ⟨j1, j2, j3, j4⟩ := fJ_has (fR_iff.mp fa) (fR_iff.mp fb) ha.2.1 hb.2.1
    have fj := fR_iff.mpr j1
    unfold vNum
    rw [if_pos fj]
    have rj := vR_num fj
    refine ⟨vW_mk ra rj (Or.inr (Or.inr ⟨hn.1, rfl, ?_⟩)), vW_mk rb rj (Or.inr (Or.inr ⟨hn.2, rfl, ?_⟩))⟩
    · unfold fWi; dsimp only; rw [fa, fj, j3]; rfl
    · unfold fWi; dsimp only; rw [fb, fj, j4]; rfl
theorem vNum_in {f : Fc} (h : fIn f) : vIn (vNum f) := by
  unfold vNum
  split
  · exact ⟨by dsimp only; omega, h, by dsimp only; omega, by dsimp only; omega⟩
  · exact vZ_in
theorem vJ_in {a b : Vl} (ha : vIn a) (hb : vIn b) : vIn (vJ a b) := by
  unfold vJ
  split
  · split
    · exact vNum_in (fJ_in' ha.2.1 hb.2.1)
    · split
      · exact ha
      · exact vZ_in
  · exact vZ_in
set_option maxRecDepth 100000 in
set_option maxHeartbeats 8000000 in
theorem vsound_walk (a b : Vl) (n : BitVec 64) (set : Bool) (w : World) (ha : vIn a) (hb : vIn b) : Calls Try.prog 5 #[vV a, vV b, uV n, .bool set] w (Gives (.bool true) w) := by
  have SH := Lib.hid l12_shown
  have J := Lib.hid fun w => vp_join a b w ha hb
  have W := Lib.hid fun w => vp_within a b w ha hb
  have IA := Lib.hid fun w => vp_is a n set w ha
  have IB := Lib.hid fun w => vp_is b n set w hb
  have RA := Lib.hid fun w => vp_right a w ha
  have RB := Lib.hid fun w => vp_right b w hb
  have hj := vJ_in ha hb
  have IJ := Lib.hid fun w => vp_is (vJ a b) n set w hj
  have WA := Lib.hid fun w => vp_within a (vJ a b) w ha hj
  have WB := Lib.hid fun w => vp_within b (vJ a b) w hb hj
  have H0 : Hid ((vR a && vR b) = false → vW a b = false) := Lib.hid vW_none
  have H1 : Hid (vW a b = true → vIs a n set = true → vIs b n set = true) := Lib.hid vIs_on
  have H2 : Hid (vR a = true → vR b = true → vW a (vJ a b) = true ∧ vW b (vJ a b) = true) := Lib.hid fun h1 h2 => vJ_has h1 h2 ha hb
  have H3 : Hid (vW a (vJ a b) = true → vIs a n set = true → vIs (vJ a b) n set = true) := Lib.hid vIs_on
  have H4 : Hid (vW b (vJ a b) = true → vIs b n set = true → vIs (vJ a b) n set = true) := Lib.hid vIs_on
  have X0 := Lib.hid (((Blks.start w).new (vCells a) 30).new (vCells b) 30)
  clear hj ha hb
  generalize vIs (vJ a b) n set = ij at *
  generalize vW a (vJ a b) = wa at *
  generalize vW b (vJ a b) = wb at *
  generalize vJ a b = j at *
  generalize vW a b = v at *
  generalize vIs a n set = ia at *
  generalize vIs b n set = ib at *
  generalize vR a = r1 at *
  generalize vR b = r2 at *
  cases r1
  · have hv := H0.out rfl
    subst hv
    clear H0 H1 H2 H3 H4
    go_enter Try.func5, Try.ntmps5
    go_wp2_with fail
    refine (SH.out _).mono ?_; rintro e w1 ⟨rfl, b1⟩
    have X1 := Lib.hid (X0.out.after b1)
    clear X0 b1
    obtain ⟨c0, c1, c2, c3, c4, c5, c6⟩ := vB.cells (X1.out.get (g := w.heap.size) (cs := vCells a) (t := 30) (by simp))
    obtain ⟨d0, d1, d2, d3, d4, d5, d6⟩ := vB.cells (X1.out.get (g := w.heap.size + 1) (cs := vCells b) (t := 30) (by simp))
    go_wp2_with fail
    refine (J.out _).mono ?_; rintro e w2 ⟨rfl, b2⟩
    have X1b := Lib.hid (X1.out.after b2)
    have X2 := Lib.hid (X1b.out.new (vCells j) 30)
    clear X1 b2 c0 c1 c2 c3 c4 c5 c6 d0 d1 d2 d3 d4 d5 d6
    obtain ⟨c0, c1, c2, c3, c4, c5, c6⟩ := vB.cells (X1b.out.get (g := w.heap.size) (cs := vCells a) (t := 30) (by simp))
    obtain ⟨d0, d1, d2, d3, d4, d5, d6⟩ := vB.cells (X1b.out.get (g := w.heap.size + 1) (cs := vCells b) (t := 30) (by simp))
    have z1 := Blk.lt (X1b.out.get (g := w.heap.size + 1) (cs := vCells b) (t := 30) (by simp))
    have z0 := Blk.lt (X1b.out.get (g := w.heap.size) (cs := vCells a) (t := 30) (by simp))
    clear X1b
    go_wp2_with fail
    clear z0 z1 c0 c1 c2 c3 c4 c5 c6 d0 d1 d2 d3 d4 d5 d6
    generalize w2.alloc (.cells (vCells j) 30) = w3 at *
    generalize w2.heap.size = gx at *
    refine (W.out _).mono ?_; rintro e w4 ⟨rfl, b4⟩
    have Y4 := Lib.hid (X2.out.after b4)
    clear X2 b4
    obtain ⟨c0, c1, c2, c3, c4, c5, c6⟩ := vB.cells (Y4.out.get (g := w.heap.size) (cs := vCells a) (t := 30) (by simp))
    obtain ⟨d0, d1, d2, d3, d4, d5, d6⟩ := vB.cells (Y4.out.get (g := w.heap.size + 1) (cs := vCells b) (t := 30) (by simp))
    obtain ⟨e0, e1, e2, e3, e4, e5, e6⟩ := vB.cells (Y4.out.get (g := gx) (cs := vCells j) (t := 30) (by simp))
    go_wp2_with fail
    refine (RA.out _).mono ?_; rintro e w5 ⟨rfl, b5⟩
    have Y5 := Lib.hid (Y4.out.after b5)
    clear Y4 b5
    clear c0 c1 c2 c3 c4 c5 c6 d0 d1 d2 d3 d4 d5 d6 e0 e1 e2 e3 e4 e5 e6
    obtain ⟨c0, c1, c2, c3, c4, c5, c6⟩ := vB.cells (Y5.out.get (g := w.heap.size) (cs := vCells a) (t := 30) (by simp))
    obtain ⟨d0, d1, d2, d3, d4, d5, d6⟩ := vB.cells (Y5.out.get (g := w.heap.size + 1) (cs := vCells b) (t := 30) (by simp))
    obtain ⟨e0, e1, e2, e3, e4, e5, e6⟩ := vB.cells (Y5.out.get (g := gx) (cs := vCells j) (t := 30) (by simp))
    go_wp2_with fail
    go_ret
    exact ⟨rfl, Y5.out.1⟩
  cases r2
  · have hv := H0.out rfl
    subst hv
    clear H0 H1 H2 H3 H4
    go_enter Try.func5, Try.ntmps5
    go_wp2_with fail
    refine (SH.out _).mono ?_; rintro e w1 ⟨rfl, b1⟩
    have X1 := Lib.hid (X0.out.after b1)
    clear X0 b1
    obtain ⟨c0, c1, c2, c3, c4, c5, c6⟩ := vB.cells (X1.out.get (g := w.heap.size) (cs := vCells a) (t := 30) (by simp))
    obtain ⟨d0, d1, d2, d3, d4, d5, d6⟩ := vB.cells (X1.out.get (g := w.heap.size + 1) (cs := vCells b) (t := 30) (by simp))
    go_wp2_with fail
    refine (J.out _).mono ?_; rintro e w2 ⟨rfl, b2⟩
    have X1b := Lib.hid (X1.out.after b2)
    have X2 := Lib.hid (X1b.out.new (vCells j) 30)
    clear X1 b2 c0 c1 c2 c3 c4 c5 c6 d0 d1 d2 d3 d4 d5 d6
    obtain ⟨c0, c1, c2, c3, c4, c5, c6⟩ := vB.cells (X1b.out.get (g := w.heap.size) (cs := vCells a) (t := 30) (by simp))
    obtain ⟨d0, d1, d2, d3, d4, d5, d6⟩ := vB.cells (X1b.out.get (g := w.heap.size + 1) (cs := vCells b) (t := 30) (by simp))
    have z1 := Blk.lt (X1b.out.get (g := w.heap.size + 1) (cs := vCells b) (t := 30) (by simp))
    have z0 := Blk.lt (X1b.out.get (g := w.heap.size) (cs := vCells a) (t := 30) (by simp))
    clear X1b
    go_wp2_with fail
    clear z0 z1 c0 c1 c2 c3 c4 c5 c6 d0 d1 d2 d3 d4 d5 d6
    generalize w2.alloc (.cells (vCells j) 30) = w3 at *
    generalize w2.heap.size = gx at *
    refine (W.out _).mono ?_; rintro e w4 ⟨rfl, b4⟩
    have Y4 := Lib.hid (X2.out.after b4)
    clear X2 b4
    obtain ⟨c0, c1, c2, c3, c4, c5, c6⟩ := vB.cells (Y4.out.get (g := w.heap.size) (cs := vCells a) (t := 30) (by simp))
    obtain ⟨d0, d1, d2, d3, d4, d5, d6⟩ := vB.cells (Y4.out.get (g := w.heap.size + 1) (cs := vCells b) (t := 30) (by simp))
    obtain ⟨e0, e1, e2, e3, e4, e5, e6⟩ := vB.cells (Y4.out.get (g := gx) (cs := vCells j) (t := 30) (by simp))
    go_wp2_with fail
    refine (RA.out _).mono ?_; rintro e w5 ⟨rfl, b5⟩
    have Y5 := Lib.hid (Y4.out.after b5)
    clear Y4 b5
    clear c0 c1 c2 c3 c4 c5 c6 d0 d1 d2 d3 d4 d5 d6 e0 e1 e2 e3 e4 e5 e6
    obtain ⟨c0, c1, c2, c3, c4, c5, c6⟩ := vB.cells (Y5.out.get (g := w.heap.size) (cs := vCells a) (t := 30) (by simp))
    obtain ⟨d0, d1, d2, d3, d4, d5, d6⟩ := vB.cells (Y5.out.get (g := w.heap.size + 1) (cs := vCells b) (t := 30) (by simp))
    obtain ⟨e0, e1, e2, e3, e4, e5, e6⟩ := vB.cells (Y5.out.get (g := gx) (cs := vCells j) (t := 30) (by simp))
    go_wp2_with fail
    refine (RB.out _).mono ?_; rintro e w6 ⟨rfl, b6⟩
    have Y6 := Lib.hid (Y5.out.after b6)
    clear Y5 b6
    clear c0 c1 c2 c3 c4 c5 c6 d0 d1 d2 d3 d4 d5 d6 e0 e1 e2 e3 e4 e5 e6
    obtain ⟨c0, c1, c2, c3, c4, c5, c6⟩ := vB.cells (Y6.out.get (g := w.heap.size) (cs := vCells a) (t := 30) (by simp))
    obtain ⟨d0, d1, d2, d3, d4, d5, d6⟩ := vB.cells (Y6.out.get (g := w.heap.size + 1) (cs := vCells b) (t := 30) (by simp))
    obtain ⟨e0, e1, e2, e3, e4, e5, e6⟩ := vB.cells (Y6.out.get (g := gx) (cs := vCells j) (t := 30) (by simp))
    go_wp2_with fail
    go_ret
    exact ⟨rfl, Y6.out.1⟩
  obtain ⟨h5, h6⟩ := H2.out rfl rfl
  subst h5
  subst h6
  cases ia
  · cases ib
    · clear H0 H1 H2 H3 H4
      cases v
      · skip
        go_enter Try.func5, Try.ntmps5
        go_wp2_with fail
        refine (SH.out _).mono ?_; rintro e w1 ⟨rfl, b1⟩
        have X1 := Lib.hid (X0.out.after b1)
        clear X0 b1
        obtain ⟨c0, c1, c2, c3, c4, c5, c6⟩ := vB.cells (X1.out.get (g := w.heap.size) (cs := vCells a) (t := 30) (by simp))
        obtain ⟨d0, d1, d2, d3, d4, d5, d6⟩ := vB.cells (X1.out.get (g := w.heap.size + 1) (cs := vCells b) (t := 30) (by simp))
        go_wp2_with fail
        refine (J.out _).mono ?_; rintro e w2 ⟨rfl, b2⟩
        have X1b := Lib.hid (X1.out.after b2)
        have X2 := Lib.hid (X1b.out.new (vCells j) 30)
        clear X1 b2 c0 c1 c2 c3 c4 c5 c6 d0 d1 d2 d3 d4 d5 d6
        obtain ⟨c0, c1, c2, c3, c4, c5, c6⟩ := vB.cells (X1b.out.get (g := w.heap.size) (cs := vCells a) (t := 30) (by simp))
        obtain ⟨d0, d1, d2, d3, d4, d5, d6⟩ := vB.cells (X1b.out.get (g := w.heap.size + 1) (cs := vCells b) (t := 30) (by simp))
        have z1 := Blk.lt (X1b.out.get (g := w.heap.size + 1) (cs := vCells b) (t := 30) (by simp))
        have z0 := Blk.lt (X1b.out.get (g := w.heap.size) (cs := vCells a) (t := 30) (by simp))
        clear X1b
        go_wp2_with fail
        clear z0 z1 c0 c1 c2 c3 c4 c5 c6 d0 d1 d2 d3 d4 d5 d6
        generalize w2.alloc (.cells (vCells j) 30) = w3 at *
        generalize w2.heap.size = gx at *
        refine (W.out _).mono ?_; rintro e w4 ⟨rfl, b4⟩
        have Y4 := Lib.hid (X2.out.after b4)
        clear X2 b4
        obtain ⟨c0, c1, c2, c3, c4, c5, c6⟩ := vB.cells (Y4.out.get (g := w.heap.size) (cs := vCells a) (t := 30) (by simp))
        obtain ⟨d0, d1, d2, d3, d4, d5, d6⟩ := vB.cells (Y4.out.get (g := w.heap.size + 1) (cs := vCells b) (t := 30) (by simp))
        obtain ⟨e0, e1, e2, e3, e4, e5, e6⟩ := vB.cells (Y4.out.get (g := gx) (cs := vCells j) (t := 30) (by simp))
        go_wp2_with fail
        refine (RA.out _).mono ?_; rintro e w5 ⟨rfl, b5⟩
        have Y5 := Lib.hid (Y4.out.after b5)
        clear Y4 b5
        clear c0 c1 c2 c3 c4 c5 c6 d0 d1 d2 d3 d4 d5 d6 e0 e1 e2 e3 e4 e5 e6
        obtain ⟨c0, c1, c2, c3, c4, c5, c6⟩ := vB.cells (Y5.out.get (g := w.heap.size) (cs := vCells a) (t := 30) (by simp))
        obtain ⟨d0, d1, d2, d3, d4, d5, d6⟩ := vB.cells (Y5.out.get (g := w.heap.size + 1) (cs := vCells b) (t := 30) (by simp))
        obtain ⟨e0, e1, e2, e3, e4, e5, e6⟩ := vB.cells (Y5.out.get (g := gx) (cs := vCells j) (t := 30) (by simp))
        go_wp2_with fail
        refine (RB.out _).mono ?_; rintro e w6 ⟨rfl, b6⟩
        have Y6 := Lib.hid (Y5.out.after b6)
        clear Y5 b6
        clear c0 c1 c2 c3 c4 c5 c6 d0 d1 d2 d3 d4 d5 d6 e0 e1 e2 e3 e4 e5 e6
        obtain ⟨c0, c1, c2, c3, c4, c5, c6⟩ := vB.cells (Y6.out.get (g := w.heap.size) (cs := vCells a) (t := 30) (by simp))
        obtain ⟨d0, d1, d2, d3, d4, d5, d6⟩ := vB.cells (Y6.out.get (g := w.heap.size + 1) (cs := vCells b) (t := 30) (by simp))
        obtain ⟨e0, e1, e2, e3, e4, e5, e6⟩ := vB.cells (Y6.out.get (g := gx) (cs := vCells j) (t := 30) (by simp))
        go_wp2_with fail
        refine (IA.out _).mono ?_; rintro e w7 ⟨rfl, b7⟩
        have Y7 := Lib.hid (Y6.out.after b7)
        clear Y6 b7
        clear c0 c1 c2 c3 c4 c5 c6 d0 d1 d2 d3 d4 d5 d6 e0 e1 e2 e3 e4 e5 e6
        obtain ⟨c0, c1, c2, c3, c4, c5, c6⟩ := vB.cells (Y7.out.get (g := w.heap.size) (cs := vCells a) (t := 30) (by simp))
        obtain ⟨d0, d1, d2, d3, d4, d5, d6⟩ := vB.cells (Y7.out.get (g := w.heap.size + 1) (cs := vCells b) (t := 30) (by simp))
        obtain ⟨e0, e1, e2, e3, e4, e5, e6⟩ := vB.cells (Y7.out.get (g := gx) (cs := vCells j) (t := 30) (by simp))
        go_wp2_with fail
        refine (IB.out _).mono ?_; rintro e w8 ⟨rfl, b8⟩
        have Y8 := Lib.hid (Y7.out.after b8)
        clear Y7 b8
        clear c0 c1 c2 c3 c4 c5 c6 d0 d1 d2 d3 d4 d5 d6 e0 e1 e2 e3 e4 e5 e6
        obtain ⟨c0, c1, c2, c3, c4, c5, c6⟩ := vB.cells (Y8.out.get (g := w.heap.size) (cs := vCells a) (t := 30) (by simp))
        obtain ⟨d0, d1, d2, d3, d4, d5, d6⟩ := vB.cells (Y8.out.get (g := w.heap.size + 1) (cs := vCells b) (t := 30) (by simp))
        obtain ⟨e0, e1, e2, e3, e4, e5, e6⟩ := vB.cells (Y8.out.get (g := gx) (cs := vCells j) (t := 30) (by simp))
        go_wp2_with fail
        refine (WA.out _).mono ?_; rintro e w9 ⟨rfl, b9⟩
        have Y9 := Lib.hid (Y8.out.after b9)
        clear Y8 b9
        clear c0 c1 c2 c3 c4 c5 c6 d0 d1 d2 d3 d4 d5 d6 e0 e1 e2 e3 e4 e5 e6
        obtain ⟨c0, c1, c2, c3, c4, c5, c6⟩ := vB.cells (Y9.out.get (g := w.heap.size) (cs := vCells a) (t := 30) (by simp))
        obtain ⟨d0, d1, d2, d3, d4, d5, d6⟩ := vB.cells (Y9.out.get (g := w.heap.size + 1) (cs := vCells b) (t := 30) (by simp))
        obtain ⟨e0, e1, e2, e3, e4, e5, e6⟩ := vB.cells (Y9.out.get (g := gx) (cs := vCells j) (t := 30) (by simp))
        go_wp2_with fail
        refine (WB.out _).mono ?_; rintro e w10 ⟨rfl, b10⟩
        have Y10 := Lib.hid (Y9.out.after b10)
        clear Y9 b10
        clear c0 c1 c2 c3 c4 c5 c6 d0 d1 d2 d3 d4 d5 d6 e0 e1 e2 e3 e4 e5 e6
        obtain ⟨c0, c1, c2, c3, c4, c5, c6⟩ := vB.cells (Y10.out.get (g := w.heap.size) (cs := vCells a) (t := 30) (by simp))
        obtain ⟨d0, d1, d2, d3, d4, d5, d6⟩ := vB.cells (Y10.out.get (g := w.heap.size + 1) (cs := vCells b) (t := 30) (by simp))
        obtain ⟨e0, e1, e2, e3, e4, e5, e6⟩ := vB.cells (Y10.out.get (g := gx) (cs := vCells j) (t := 30) (by simp))
        go_wp2_with fail
        go_ret
        exact ⟨rfl, Y10.out.1⟩
      · skip
        go_enter Try.func5, Try.ntmps5
        go_wp2_with fail
        refine (SH.out _).mono ?_; rintro e w1 ⟨rfl, b1⟩
        have X1 := Lib.hid (X0.out.after b1)
        clear X0 b1
        obtain ⟨c0, c1, c2, c3, c4, c5, c6⟩ := vB.cells (X1.out.get (g := w.heap.size) (cs := vCells a) (t := 30) (by simp))
        obtain ⟨d0, d1, d2, d3, d4, d5, d6⟩ := vB.cells (X1.out.get (g := w.heap.size + 1) (cs := vCells b) (t := 30) (by simp))
        go_wp2_with fail
        refine (J.out _).mono ?_; rintro e w2 ⟨rfl, b2⟩
        have X1b := Lib.hid (X1.out.after b2)
        have X2 := Lib.hid (X1b.out.new (vCells j) 30)
        clear X1 b2 c0 c1 c2 c3 c4 c5 c6 d0 d1 d2 d3 d4 d5 d6
        obtain ⟨c0, c1, c2, c3, c4, c5, c6⟩ := vB.cells (X1b.out.get (g := w.heap.size) (cs := vCells a) (t := 30) (by simp))
        obtain ⟨d0, d1, d2, d3, d4, d5, d6⟩ := vB.cells (X1b.out.get (g := w.heap.size + 1) (cs := vCells b) (t := 30) (by simp))
        have z1 := Blk.lt (X1b.out.get (g := w.heap.size + 1) (cs := vCells b) (t := 30) (by simp))
        have z0 := Blk.lt (X1b.out.get (g := w.heap.size) (cs := vCells a) (t := 30) (by simp))
        clear X1b
        go_wp2_with fail
        clear z0 z1 c0 c1 c2 c3 c4 c5 c6 d0 d1 d2 d3 d4 d5 d6
        generalize w2.alloc (.cells (vCells j) 30) = w3 at *
        generalize w2.heap.size = gx at *
        refine (W.out _).mono ?_; rintro e w4 ⟨rfl, b4⟩
        have Y4 := Lib.hid (X2.out.after b4)
        clear X2 b4
        obtain ⟨c0, c1, c2, c3, c4, c5, c6⟩ := vB.cells (Y4.out.get (g := w.heap.size) (cs := vCells a) (t := 30) (by simp))
        obtain ⟨d0, d1, d2, d3, d4, d5, d6⟩ := vB.cells (Y4.out.get (g := w.heap.size + 1) (cs := vCells b) (t := 30) (by simp))
        obtain ⟨e0, e1, e2, e3, e4, e5, e6⟩ := vB.cells (Y4.out.get (g := gx) (cs := vCells j) (t := 30) (by simp))
        go_wp2_with fail
        refine (IA.out _).mono ?_; rintro e w5 ⟨rfl, b5⟩
        have Y5 := Lib.hid (Y4.out.after b5)
        clear Y4 b5
        clear c0 c1 c2 c3 c4 c5 c6 d0 d1 d2 d3 d4 d5 d6 e0 e1 e2 e3 e4 e5 e6
        obtain ⟨c0, c1, c2, c3, c4, c5, c6⟩ := vB.cells (Y5.out.get (g := w.heap.size) (cs := vCells a) (t := 30) (by simp))
        obtain ⟨d0, d1, d2, d3, d4, d5, d6⟩ := vB.cells (Y5.out.get (g := w.heap.size + 1) (cs := vCells b) (t := 30) (by simp))
        obtain ⟨e0, e1, e2, e3, e4, e5, e6⟩ := vB.cells (Y5.out.get (g := gx) (cs := vCells j) (t := 30) (by simp))
        go_wp2_with fail
        refine (RA.out _).mono ?_; rintro e w6 ⟨rfl, b6⟩
        have Y6 := Lib.hid (Y5.out.after b6)
        clear Y5 b6
        clear c0 c1 c2 c3 c4 c5 c6 d0 d1 d2 d3 d4 d5 d6 e0 e1 e2 e3 e4 e5 e6
        obtain ⟨c0, c1, c2, c3, c4, c5, c6⟩ := vB.cells (Y6.out.get (g := w.heap.size) (cs := vCells a) (t := 30) (by simp))
        obtain ⟨d0, d1, d2, d3, d4, d5, d6⟩ := vB.cells (Y6.out.get (g := w.heap.size + 1) (cs := vCells b) (t := 30) (by simp))
        obtain ⟨e0, e1, e2, e3, e4, e5, e6⟩ := vB.cells (Y6.out.get (g := gx) (cs := vCells j) (t := 30) (by simp))
        go_wp2_with fail
        refine (RB.out _).mono ?_; rintro e w7 ⟨rfl, b7⟩
        have Y7 := Lib.hid (Y6.out.after b7)
        clear Y6 b7
        clear c0 c1 c2 c3 c4 c5 c6 d0 d1 d2 d3 d4 d5 d6 e0 e1 e2 e3 e4 e5 e6
        obtain ⟨c0, c1, c2, c3, c4, c5, c6⟩ := vB.cells (Y7.out.get (g := w.heap.size) (cs := vCells a) (t := 30) (by simp))
        obtain ⟨d0, d1, d2, d3, d4, d5, d6⟩ := vB.cells (Y7.out.get (g := w.heap.size + 1) (cs := vCells b) (t := 30) (by simp))
        obtain ⟨e0, e1, e2, e3, e4, e5, e6⟩ := vB.cells (Y7.out.get (g := gx) (cs := vCells j) (t := 30) (by simp))
        go_wp2_with fail
        refine (IA.out _).mono ?_; rintro e w8 ⟨rfl, b8⟩
        have Y8 := Lib.hid (Y7.out.after b8)
        clear Y7 b8
        clear c0 c1 c2 c3 c4 c5 c6 d0 d1 d2 d3 d4 d5 d6 e0 e1 e2 e3 e4 e5 e6
        obtain ⟨c0, c1, c2, c3, c4, c5, c6⟩ := vB.cells (Y8.out.get (g := w.heap.size) (cs := vCells a) (t := 30) (by simp))
        obtain ⟨d0, d1, d2, d3, d4, d5, d6⟩ := vB.cells (Y8.out.get (g := w.heap.size + 1) (cs := vCells b) (t := 30) (by simp))
        obtain ⟨e0, e1, e2, e3, e4, e5, e6⟩ := vB.cells (Y8.out.get (g := gx) (cs := vCells j) (t := 30) (by simp))
        go_wp2_with fail
        refine (IB.out _).mono ?_; rintro e w9 ⟨rfl, b9⟩
        have Y9 := Lib.hid (Y8.out.after b9)
        clear Y8 b9
        clear c0 c1 c2 c3 c4 c5 c6 d0 d1 d2 d3 d4 d5 d6 e0 e1 e2 e3 e4 e5 e6
        obtain ⟨c0, c1, c2, c3, c4, c5, c6⟩ := vB.cells (Y9.out.get (g := w.heap.size) (cs := vCells a) (t := 30) (by simp))
        obtain ⟨d0, d1, d2, d3, d4, d5, d6⟩ := vB.cells (Y9.out.get (g := w.heap.size + 1) (cs := vCells b) (t := 30) (by simp))
        obtain ⟨e0, e1, e2, e3, e4, e5, e6⟩ := vB.cells (Y9.out.get (g := gx) (cs := vCells j) (t := 30) (by simp))
        go_wp2_with fail
        refine (WA.out _).mono ?_; rintro e w10 ⟨rfl, b10⟩
        have Y10 := Lib.hid (Y9.out.after b10)
        clear Y9 b10
        clear c0 c1 c2 c3 c4 c5 c6 d0 d1 d2 d3 d4 d5 d6 e0 e1 e2 e3 e4 e5 e6
        obtain ⟨c0, c1, c2, c3, c4, c5, c6⟩ := vB.cells (Y10.out.get (g := w.heap.size) (cs := vCells a) (t := 30) (by simp))
        obtain ⟨d0, d1, d2, d3, d4, d5, d6⟩ := vB.cells (Y10.out.get (g := w.heap.size + 1) (cs := vCells b) (t := 30) (by simp))
        obtain ⟨e0, e1, e2, e3, e4, e5, e6⟩ := vB.cells (Y10.out.get (g := gx) (cs := vCells j) (t := 30) (by simp))
        go_wp2_with fail
        refine (WB.out _).mono ?_; rintro e w11 ⟨rfl, b11⟩
        have Y11 := Lib.hid (Y10.out.after b11)
        clear Y10 b11
        clear c0 c1 c2 c3 c4 c5 c6 d0 d1 d2 d3 d4 d5 d6 e0 e1 e2 e3 e4 e5 e6
        obtain ⟨c0, c1, c2, c3, c4, c5, c6⟩ := vB.cells (Y11.out.get (g := w.heap.size) (cs := vCells a) (t := 30) (by simp))
        obtain ⟨d0, d1, d2, d3, d4, d5, d6⟩ := vB.cells (Y11.out.get (g := w.heap.size + 1) (cs := vCells b) (t := 30) (by simp))
        obtain ⟨e0, e1, e2, e3, e4, e5, e6⟩ := vB.cells (Y11.out.get (g := gx) (cs := vCells j) (t := 30) (by simp))
        go_wp2_with fail
        go_ret
        exact ⟨rfl, Y11.out.1⟩
    · have hij := H4.out rfl rfl
      subst hij
      clear H0 H1 H2 H3 H4
      cases v
      · skip
        go_enter Try.func5, Try.ntmps5
        go_wp2_with fail
        refine (SH.out _).mono ?_; rintro e w1 ⟨rfl, b1⟩
        have X1 := Lib.hid (X0.out.after b1)
        clear X0 b1
        obtain ⟨c0, c1, c2, c3, c4, c5, c6⟩ := vB.cells (X1.out.get (g := w.heap.size) (cs := vCells a) (t := 30) (by simp))
        obtain ⟨d0, d1, d2, d3, d4, d5, d6⟩ := vB.cells (X1.out.get (g := w.heap.size + 1) (cs := vCells b) (t := 30) (by simp))
        go_wp2_with fail
        refine (J.out _).mono ?_; rintro e w2 ⟨rfl, b2⟩
        have X1b := Lib.hid (X1.out.after b2)
        have X2 := Lib.hid (X1b.out.new (vCells j) 30)
        clear X1 b2 c0 c1 c2 c3 c4 c5 c6 d0 d1 d2 d3 d4 d5 d6
        obtain ⟨c0, c1, c2, c3, c4, c5, c6⟩ := vB.cells (X1b.out.get (g := w.heap.size) (cs := vCells a) (t := 30) (by simp))
        obtain ⟨d0, d1, d2, d3, d4, d5, d6⟩ := vB.cells (X1b.out.get (g := w.heap.size + 1) (cs := vCells b) (t := 30) (by simp))
        have z1 := Blk.lt (X1b.out.get (g := w.heap.size + 1) (cs := vCells b) (t := 30) (by simp))
        have z0 := Blk.lt (X1b.out.get (g := w.heap.size) (cs := vCells a) (t := 30) (by simp))
        clear X1b
        go_wp2_with fail
        clear z0 z1 c0 c1 c2 c3 c4 c5 c6 d0 d1 d2 d3 d4 d5 d6
        generalize w2.alloc (.cells (vCells j) 30) = w3 at *
        generalize w2.heap.size = gx at *
        refine (W.out _).mono ?_; rintro e w4 ⟨rfl, b4⟩
        have Y4 := Lib.hid (X2.out.after b4)
        clear X2 b4
        obtain ⟨c0, c1, c2, c3, c4, c5, c6⟩ := vB.cells (Y4.out.get (g := w.heap.size) (cs := vCells a) (t := 30) (by simp))
        obtain ⟨d0, d1, d2, d3, d4, d5, d6⟩ := vB.cells (Y4.out.get (g := w.heap.size + 1) (cs := vCells b) (t := 30) (by simp))
        obtain ⟨e0, e1, e2, e3, e4, e5, e6⟩ := vB.cells (Y4.out.get (g := gx) (cs := vCells j) (t := 30) (by simp))
        go_wp2_with fail
        refine (RA.out _).mono ?_; rintro e w5 ⟨rfl, b5⟩
        have Y5 := Lib.hid (Y4.out.after b5)
        clear Y4 b5
        clear c0 c1 c2 c3 c4 c5 c6 d0 d1 d2 d3 d4 d5 d6 e0 e1 e2 e3 e4 e5 e6
        obtain ⟨c0, c1, c2, c3, c4, c5, c6⟩ := vB.cells (Y5.out.get (g := w.heap.size) (cs := vCells a) (t := 30) (by simp))
        obtain ⟨d0, d1, d2, d3, d4, d5, d6⟩ := vB.cells (Y5.out.get (g := w.heap.size + 1) (cs := vCells b) (t := 30) (by simp))
        obtain ⟨e0, e1, e2, e3, e4, e5, e6⟩ := vB.cells (Y5.out.get (g := gx) (cs := vCells j) (t := 30) (by simp))
        go_wp2_with fail
        refine (RB.out _).mono ?_; rintro e w6 ⟨rfl, b6⟩
        have Y6 := Lib.hid (Y5.out.after b6)
        clear Y5 b6
        clear c0 c1 c2 c3 c4 c5 c6 d0 d1 d2 d3 d4 d5 d6 e0 e1 e2 e3 e4 e5 e6
        obtain ⟨c0, c1, c2, c3, c4, c5, c6⟩ := vB.cells (Y6.out.get (g := w.heap.size) (cs := vCells a) (t := 30) (by simp))
        obtain ⟨d0, d1, d2, d3, d4, d5, d6⟩ := vB.cells (Y6.out.get (g := w.heap.size + 1) (cs := vCells b) (t := 30) (by simp))
        obtain ⟨e0, e1, e2, e3, e4, e5, e6⟩ := vB.cells (Y6.out.get (g := gx) (cs := vCells j) (t := 30) (by simp))
        go_wp2_with fail
        refine (IA.out _).mono ?_; rintro e w7 ⟨rfl, b7⟩
        have Y7 := Lib.hid (Y6.out.after b7)
        clear Y6 b7
        clear c0 c1 c2 c3 c4 c5 c6 d0 d1 d2 d3 d4 d5 d6 e0 e1 e2 e3 e4 e5 e6
        obtain ⟨c0, c1, c2, c3, c4, c5, c6⟩ := vB.cells (Y7.out.get (g := w.heap.size) (cs := vCells a) (t := 30) (by simp))
        obtain ⟨d0, d1, d2, d3, d4, d5, d6⟩ := vB.cells (Y7.out.get (g := w.heap.size + 1) (cs := vCells b) (t := 30) (by simp))
        obtain ⟨e0, e1, e2, e3, e4, e5, e6⟩ := vB.cells (Y7.out.get (g := gx) (cs := vCells j) (t := 30) (by simp))
        go_wp2_with fail
        refine (IB.out _).mono ?_; rintro e w8 ⟨rfl, b8⟩
        have Y8 := Lib.hid (Y7.out.after b8)
        clear Y7 b8
        clear c0 c1 c2 c3 c4 c5 c6 d0 d1 d2 d3 d4 d5 d6 e0 e1 e2 e3 e4 e5 e6
        obtain ⟨c0, c1, c2, c3, c4, c5, c6⟩ := vB.cells (Y8.out.get (g := w.heap.size) (cs := vCells a) (t := 30) (by simp))
        obtain ⟨d0, d1, d2, d3, d4, d5, d6⟩ := vB.cells (Y8.out.get (g := w.heap.size + 1) (cs := vCells b) (t := 30) (by simp))
        obtain ⟨e0, e1, e2, e3, e4, e5, e6⟩ := vB.cells (Y8.out.get (g := gx) (cs := vCells j) (t := 30) (by simp))
        go_wp2_with fail
        refine (IJ.out _).mono ?_; rintro e w9 ⟨rfl, b9⟩
        have Y9 := Lib.hid (Y8.out.after b9)
        clear Y8 b9
        clear c0 c1 c2 c3 c4 c5 c6 d0 d1 d2 d3 d4 d5 d6 e0 e1 e2 e3 e4 e5 e6
        obtain ⟨c0, c1, c2, c3, c4, c5, c6⟩ := vB.cells (Y9.out.get (g := w.heap.size) (cs := vCells a) (t := 30) (by simp))
        obtain ⟨d0, d1, d2, d3, d4, d5, d6⟩ := vB.cells (Y9.out.get (g := w.heap.size + 1) (cs := vCells b) (t := 30) (by simp))
        obtain ⟨e0, e1, e2, e3, e4, e5, e6⟩ := vB.cells (Y9.out.get (g := gx) (cs := vCells j) (t := 30) (by simp))
        go_wp2_with fail
        refine (WA.out _).mono ?_; rintro e w10 ⟨rfl, b10⟩
        have Y10 := Lib.hid (Y9.out.after b10)
        clear Y9 b10
        clear c0 c1 c2 c3 c4 c5 c6 d0 d1 d2 d3 d4 d5 d6 e0 e1 e2 e3 e4 e5 e6
        obtain ⟨c0, c1, c2, c3, c4, c5, c6⟩ := vB.cells (Y10.out.get (g := w.heap.size) (cs := vCells a) (t := 30) (by simp))
        obtain ⟨d0, d1, d2, d3, d4, d5, d6⟩ := vB.cells (Y10.out.get (g := w.heap.size + 1) (cs := vCells b) (t := 30) (by simp))
        obtain ⟨e0, e1, e2, e3, e4, e5, e6⟩ := vB.cells (Y10.out.get (g := gx) (cs := vCells j) (t := 30) (by simp))
        go_wp2_with fail
        refine (WB.out _).mono ?_; rintro e w11 ⟨rfl, b11⟩
        have Y11 := Lib.hid (Y10.out.after b11)
        clear Y10 b11
        clear c0 c1 c2 c3 c4 c5 c6 d0 d1 d2 d3 d4 d5 d6 e0 e1 e2 e3 e4 e5 e6
        obtain ⟨c0, c1, c2, c3, c4, c5, c6⟩ := vB.cells (Y11.out.get (g := w.heap.size) (cs := vCells a) (t := 30) (by simp))
        obtain ⟨d0, d1, d2, d3, d4, d5, d6⟩ := vB.cells (Y11.out.get (g := w.heap.size + 1) (cs := vCells b) (t := 30) (by simp))
        obtain ⟨e0, e1, e2, e3, e4, e5, e6⟩ := vB.cells (Y11.out.get (g := gx) (cs := vCells j) (t := 30) (by simp))
        go_wp2_with fail
        go_ret
        exact ⟨rfl, Y11.out.1⟩
      · skip
        go_enter Try.func5, Try.ntmps5
        go_wp2_with fail
        refine (SH.out _).mono ?_; rintro e w1 ⟨rfl, b1⟩
        have X1 := Lib.hid (X0.out.after b1)
        clear X0 b1
        obtain ⟨c0, c1, c2, c3, c4, c5, c6⟩ := vB.cells (X1.out.get (g := w.heap.size) (cs := vCells a) (t := 30) (by simp))
        obtain ⟨d0, d1, d2, d3, d4, d5, d6⟩ := vB.cells (X1.out.get (g := w.heap.size + 1) (cs := vCells b) (t := 30) (by simp))
        go_wp2_with fail
        refine (J.out _).mono ?_; rintro e w2 ⟨rfl, b2⟩
        have X1b := Lib.hid (X1.out.after b2)
        have X2 := Lib.hid (X1b.out.new (vCells j) 30)
        clear X1 b2 c0 c1 c2 c3 c4 c5 c6 d0 d1 d2 d3 d4 d5 d6
        obtain ⟨c0, c1, c2, c3, c4, c5, c6⟩ := vB.cells (X1b.out.get (g := w.heap.size) (cs := vCells a) (t := 30) (by simp))
        obtain ⟨d0, d1, d2, d3, d4, d5, d6⟩ := vB.cells (X1b.out.get (g := w.heap.size + 1) (cs := vCells b) (t := 30) (by simp))
        have z1 := Blk.lt (X1b.out.get (g := w.heap.size + 1) (cs := vCells b) (t := 30) (by simp))
        have z0 := Blk.lt (X1b.out.get (g := w.heap.size) (cs := vCells a) (t := 30) (by simp))
        clear X1b
        go_wp2_with fail
        clear z0 z1 c0 c1 c2 c3 c4 c5 c6 d0 d1 d2 d3 d4 d5 d6
        generalize w2.alloc (.cells (vCells j) 30) = w3 at *
        generalize w2.heap.size = gx at *
        refine (W.out _).mono ?_; rintro e w4 ⟨rfl, b4⟩
        have Y4 := Lib.hid (X2.out.after b4)
        clear X2 b4
        obtain ⟨c0, c1, c2, c3, c4, c5, c6⟩ := vB.cells (Y4.out.get (g := w.heap.size) (cs := vCells a) (t := 30) (by simp))
        obtain ⟨d0, d1, d2, d3, d4, d5, d6⟩ := vB.cells (Y4.out.get (g := w.heap.size + 1) (cs := vCells b) (t := 30) (by simp))
        obtain ⟨e0, e1, e2, e3, e4, e5, e6⟩ := vB.cells (Y4.out.get (g := gx) (cs := vCells j) (t := 30) (by simp))
        go_wp2_with fail
        refine (IA.out _).mono ?_; rintro e w5 ⟨rfl, b5⟩
        have Y5 := Lib.hid (Y4.out.after b5)
        clear Y4 b5
        clear c0 c1 c2 c3 c4 c5 c6 d0 d1 d2 d3 d4 d5 d6 e0 e1 e2 e3 e4 e5 e6
        obtain ⟨c0, c1, c2, c3, c4, c5, c6⟩ := vB.cells (Y5.out.get (g := w.heap.size) (cs := vCells a) (t := 30) (by simp))
        obtain ⟨d0, d1, d2, d3, d4, d5, d6⟩ := vB.cells (Y5.out.get (g := w.heap.size + 1) (cs := vCells b) (t := 30) (by simp))
        obtain ⟨e0, e1, e2, e3, e4, e5, e6⟩ := vB.cells (Y5.out.get (g := gx) (cs := vCells j) (t := 30) (by simp))
        go_wp2_with fail
        refine (RA.out _).mono ?_; rintro e w6 ⟨rfl, b6⟩
        have Y6 := Lib.hid (Y5.out.after b6)
        clear Y5 b6
        clear c0 c1 c2 c3 c4 c5 c6 d0 d1 d2 d3 d4 d5 d6 e0 e1 e2 e3 e4 e5 e6
        obtain ⟨c0, c1, c2, c3, c4, c5, c6⟩ := vB.cells (Y6.out.get (g := w.heap.size) (cs := vCells a) (t := 30) (by simp))
        obtain ⟨d0, d1, d2, d3, d4, d5, d6⟩ := vB.cells (Y6.out.get (g := w.heap.size + 1) (cs := vCells b) (t := 30) (by simp))
        obtain ⟨e0, e1, e2, e3, e4, e5, e6⟩ := vB.cells (Y6.out.get (g := gx) (cs := vCells j) (t := 30) (by simp))
        go_wp2_with fail
        refine (RB.out _).mono ?_; rintro e w7 ⟨rfl, b7⟩
        have Y7 := Lib.hid (Y6.out.after b7)
        clear Y6 b7
        clear c0 c1 c2 c3 c4 c5 c6 d0 d1 d2 d3 d4 d5 d6 e0 e1 e2 e3 e4 e5 e6
        obtain ⟨c0, c1, c2, c3, c4, c5, c6⟩ := vB.cells (Y7.out.get (g := w.heap.size) (cs := vCells a) (t := 30) (by simp))
        obtain ⟨d0, d1, d2, d3, d4, d5, d6⟩ := vB.cells (Y7.out.get (g := w.heap.size + 1) (cs := vCells b) (t := 30) (by simp))
        obtain ⟨e0, e1, e2, e3, e4, e5, e6⟩ := vB.cells (Y7.out.get (g := gx) (cs := vCells j) (t := 30) (by simp))
        go_wp2_with fail
        refine (IA.out _).mono ?_; rintro e w8 ⟨rfl, b8⟩
        have Y8 := Lib.hid (Y7.out.after b8)
        clear Y7 b8
        clear c0 c1 c2 c3 c4 c5 c6 d0 d1 d2 d3 d4 d5 d6 e0 e1 e2 e3 e4 e5 e6
        obtain ⟨c0, c1, c2, c3, c4, c5, c6⟩ := vB.cells (Y8.out.get (g := w.heap.size) (cs := vCells a) (t := 30) (by simp))
        obtain ⟨d0, d1, d2, d3, d4, d5, d6⟩ := vB.cells (Y8.out.get (g := w.heap.size + 1) (cs := vCells b) (t := 30) (by simp))
        obtain ⟨e0, e1, e2, e3, e4, e5, e6⟩ := vB.cells (Y8.out.get (g := gx) (cs := vCells j) (t := 30) (by simp))
        go_wp2_with fail
        refine (IB.out _).mono ?_; rintro e w9 ⟨rfl, b9⟩
        have Y9 := Lib.hid (Y8.out.after b9)
        clear Y8 b9
        clear c0 c1 c2 c3 c4 c5 c6 d0 d1 d2 d3 d4 d5 d6 e0 e1 e2 e3 e4 e5 e6
        obtain ⟨c0, c1, c2, c3, c4, c5, c6⟩ := vB.cells (Y9.out.get (g := w.heap.size) (cs := vCells a) (t := 30) (by simp))
        obtain ⟨d0, d1, d2, d3, d4, d5, d6⟩ := vB.cells (Y9.out.get (g := w.heap.size + 1) (cs := vCells b) (t := 30) (by simp))
        obtain ⟨e0, e1, e2, e3, e4, e5, e6⟩ := vB.cells (Y9.out.get (g := gx) (cs := vCells j) (t := 30) (by simp))
        go_wp2_with fail
        refine (IJ.out _).mono ?_; rintro e w10 ⟨rfl, b10⟩
        have Y10 := Lib.hid (Y9.out.after b10)
        clear Y9 b10
        clear c0 c1 c2 c3 c4 c5 c6 d0 d1 d2 d3 d4 d5 d6 e0 e1 e2 e3 e4 e5 e6
        obtain ⟨c0, c1, c2, c3, c4, c5, c6⟩ := vB.cells (Y10.out.get (g := w.heap.size) (cs := vCells a) (t := 30) (by simp))
        obtain ⟨d0, d1, d2, d3, d4, d5, d6⟩ := vB.cells (Y10.out.get (g := w.heap.size + 1) (cs := vCells b) (t := 30) (by simp))
        obtain ⟨e0, e1, e2, e3, e4, e5, e6⟩ := vB.cells (Y10.out.get (g := gx) (cs := vCells j) (t := 30) (by simp))
        go_wp2_with fail
        refine (WA.out _).mono ?_; rintro e w11 ⟨rfl, b11⟩
        have Y11 := Lib.hid (Y10.out.after b11)
        clear Y10 b11
        clear c0 c1 c2 c3 c4 c5 c6 d0 d1 d2 d3 d4 d5 d6 e0 e1 e2 e3 e4 e5 e6
        obtain ⟨c0, c1, c2, c3, c4, c5, c6⟩ := vB.cells (Y11.out.get (g := w.heap.size) (cs := vCells a) (t := 30) (by simp))
        obtain ⟨d0, d1, d2, d3, d4, d5, d6⟩ := vB.cells (Y11.out.get (g := w.heap.size + 1) (cs := vCells b) (t := 30) (by simp))
        obtain ⟨e0, e1, e2, e3, e4, e5, e6⟩ := vB.cells (Y11.out.get (g := gx) (cs := vCells j) (t := 30) (by simp))
        go_wp2_with fail
        refine (WB.out _).mono ?_; rintro e w12 ⟨rfl, b12⟩
        have Y12 := Lib.hid (Y11.out.after b12)
        clear Y11 b12
        clear c0 c1 c2 c3 c4 c5 c6 d0 d1 d2 d3 d4 d5 d6 e0 e1 e2 e3 e4 e5 e6
        obtain ⟨c0, c1, c2, c3, c4, c5, c6⟩ := vB.cells (Y12.out.get (g := w.heap.size) (cs := vCells a) (t := 30) (by simp))
        obtain ⟨d0, d1, d2, d3, d4, d5, d6⟩ := vB.cells (Y12.out.get (g := w.heap.size + 1) (cs := vCells b) (t := 30) (by simp))
        obtain ⟨e0, e1, e2, e3, e4, e5, e6⟩ := vB.cells (Y12.out.get (g := gx) (cs := vCells j) (t := 30) (by simp))
        go_wp2_with fail
        go_ret
        exact ⟨rfl, Y12.out.1⟩
  · have hij := H3.out rfl rfl
    subst hij
    cases v
    · clear H0 H1 H2 H3 H4
      go_enter Try.func5, Try.ntmps5
      go_wp2_with fail
      refine (SH.out _).mono ?_; rintro e w1 ⟨rfl, b1⟩
      have X1 := Lib.hid (X0.out.after b1)
      clear X0 b1
      obtain ⟨c0, c1, c2, c3, c4, c5, c6⟩ := vB.cells (X1.out.get (g := w.heap.size) (cs := vCells a) (t := 30) (by simp))
      obtain ⟨d0, d1, d2, d3, d4, d5, d6⟩ := vB.cells (X1.out.get (g := w.heap.size + 1) (cs := vCells b) (t := 30) (by simp))
      go_wp2_with fail
      refine (J.out _).mono ?_; rintro e w2 ⟨rfl, b2⟩
      have X1b := Lib.hid (X1.out.after b2)
      have X2 := Lib.hid (X1b.out.new (vCells j) 30)
      clear X1 b2 c0 c1 c2 c3 c4 c5 c6 d0 d1 d2 d3 d4 d5 d6
      obtain ⟨c0, c1, c2, c3, c4, c5, c6⟩ := vB.cells (X1b.out.get (g := w.heap.size) (cs := vCells a) (t := 30) (by simp))
      obtain ⟨d0, d1, d2, d3, d4, d5, d6⟩ := vB.cells (X1b.out.get (g := w.heap.size + 1) (cs := vCells b) (t := 30) (by simp))
      have z1 := Blk.lt (X1b.out.get (g := w.heap.size + 1) (cs := vCells b) (t := 30) (by simp))
      have z0 := Blk.lt (X1b.out.get (g := w.heap.size) (cs := vCells a) (t := 30) (by simp))
      clear X1b
      go_wp2_with fail
      clear z0 z1 c0 c1 c2 c3 c4 c5 c6 d0 d1 d2 d3 d4 d5 d6
      generalize w2.alloc (.cells (vCells j) 30) = w3 at *
      generalize w2.heap.size = gx at *
      refine (W.out _).mono ?_; rintro e w4 ⟨rfl, b4⟩
      have Y4 := Lib.hid (X2.out.after b4)
      clear X2 b4
      obtain ⟨c0, c1, c2, c3, c4, c5, c6⟩ := vB.cells (Y4.out.get (g := w.heap.size) (cs := vCells a) (t := 30) (by simp))
      obtain ⟨d0, d1, d2, d3, d4, d5, d6⟩ := vB.cells (Y4.out.get (g := w.heap.size + 1) (cs := vCells b) (t := 30) (by simp))
      obtain ⟨e0, e1, e2, e3, e4, e5, e6⟩ := vB.cells (Y4.out.get (g := gx) (cs := vCells j) (t := 30) (by simp))
      go_wp2_with fail
      refine (RA.out _).mono ?_; rintro e w5 ⟨rfl, b5⟩
      have Y5 := Lib.hid (Y4.out.after b5)
      clear Y4 b5
      clear c0 c1 c2 c3 c4 c5 c6 d0 d1 d2 d3 d4 d5 d6 e0 e1 e2 e3 e4 e5 e6
      obtain ⟨c0, c1, c2, c3, c4, c5, c6⟩ := vB.cells (Y5.out.get (g := w.heap.size) (cs := vCells a) (t := 30) (by simp))
      obtain ⟨d0, d1, d2, d3, d4, d5, d6⟩ := vB.cells (Y5.out.get (g := w.heap.size + 1) (cs := vCells b) (t := 30) (by simp))
      obtain ⟨e0, e1, e2, e3, e4, e5, e6⟩ := vB.cells (Y5.out.get (g := gx) (cs := vCells j) (t := 30) (by simp))
      go_wp2_with fail
      refine (RB.out _).mono ?_; rintro e w6 ⟨rfl, b6⟩
      have Y6 := Lib.hid (Y5.out.after b6)
      clear Y5 b6
      clear c0 c1 c2 c3 c4 c5 c6 d0 d1 d2 d3 d4 d5 d6 e0 e1 e2 e3 e4 e5 e6
      obtain ⟨c0, c1, c2, c3, c4, c5, c6⟩ := vB.cells (Y6.out.get (g := w.heap.size) (cs := vCells a) (t := 30) (by simp))
      obtain ⟨d0, d1, d2, d3, d4, d5, d6⟩ := vB.cells (Y6.out.get (g := w.heap.size + 1) (cs := vCells b) (t := 30) (by simp))
      obtain ⟨e0, e1, e2, e3, e4, e5, e6⟩ := vB.cells (Y6.out.get (g := gx) (cs := vCells j) (t := 30) (by simp))
      go_wp2_with fail
      refine (IA.out _).mono ?_; rintro e w7 ⟨rfl, b7⟩
      have Y7 := Lib.hid (Y6.out.after b7)
      clear Y6 b7
      clear c0 c1 c2 c3 c4 c5 c6 d0 d1 d2 d3 d4 d5 d6 e0 e1 e2 e3 e4 e5 e6
      obtain ⟨c0, c1, c2, c3, c4, c5, c6⟩ := vB.cells (Y7.out.get (g := w.heap.size) (cs := vCells a) (t := 30) (by simp))
      obtain ⟨d0, d1, d2, d3, d4, d5, d6⟩ := vB.cells (Y7.out.get (g := w.heap.size + 1) (cs := vCells b) (t := 30) (by simp))
      obtain ⟨e0, e1, e2, e3, e4, e5, e6⟩ := vB.cells (Y7.out.get (g := gx) (cs := vCells j) (t := 30) (by simp))
      go_wp2_with fail
      refine (IJ.out _).mono ?_; rintro e w8 ⟨rfl, b8⟩
      have Y8 := Lib.hid (Y7.out.after b8)
      clear Y7 b8
      clear c0 c1 c2 c3 c4 c5 c6 d0 d1 d2 d3 d4 d5 d6 e0 e1 e2 e3 e4 e5 e6
      obtain ⟨c0, c1, c2, c3, c4, c5, c6⟩ := vB.cells (Y8.out.get (g := w.heap.size) (cs := vCells a) (t := 30) (by simp))
      obtain ⟨d0, d1, d2, d3, d4, d5, d6⟩ := vB.cells (Y8.out.get (g := w.heap.size + 1) (cs := vCells b) (t := 30) (by simp))
      obtain ⟨e0, e1, e2, e3, e4, e5, e6⟩ := vB.cells (Y8.out.get (g := gx) (cs := vCells j) (t := 30) (by simp))
      go_wp2_with fail
      refine (WA.out _).mono ?_; rintro e w9 ⟨rfl, b9⟩
      have Y9 := Lib.hid (Y8.out.after b9)
      clear Y8 b9
      clear c0 c1 c2 c3 c4 c5 c6 d0 d1 d2 d3 d4 d5 d6 e0 e1 e2 e3 e4 e5 e6
      obtain ⟨c0, c1, c2, c3, c4, c5, c6⟩ := vB.cells (Y9.out.get (g := w.heap.size) (cs := vCells a) (t := 30) (by simp))
      obtain ⟨d0, d1, d2, d3, d4, d5, d6⟩ := vB.cells (Y9.out.get (g := w.heap.size + 1) (cs := vCells b) (t := 30) (by simp))
      obtain ⟨e0, e1, e2, e3, e4, e5, e6⟩ := vB.cells (Y9.out.get (g := gx) (cs := vCells j) (t := 30) (by simp))
      go_wp2_with fail
      refine (WB.out _).mono ?_; rintro e w10 ⟨rfl, b10⟩
      have Y10 := Lib.hid (Y9.out.after b10)
      clear Y9 b10
      clear c0 c1 c2 c3 c4 c5 c6 d0 d1 d2 d3 d4 d5 d6 e0 e1 e2 e3 e4 e5 e6
      obtain ⟨c0, c1, c2, c3, c4, c5, c6⟩ := vB.cells (Y10.out.get (g := w.heap.size) (cs := vCells a) (t := 30) (by simp))
      obtain ⟨d0, d1, d2, d3, d4, d5, d6⟩ := vB.cells (Y10.out.get (g := w.heap.size + 1) (cs := vCells b) (t := 30) (by simp))
      obtain ⟨e0, e1, e2, e3, e4, e5, e6⟩ := vB.cells (Y10.out.get (g := gx) (cs := vCells j) (t := 30) (by simp))
      go_wp2_with fail
      go_ret
      exact ⟨rfl, Y10.out.1⟩
    · have hib := H1.out rfl rfl
      subst hib
      clear H0 H1 H2 H3 H4
      go_enter Try.func5, Try.ntmps5
      go_wp2_with fail
      refine (SH.out _).mono ?_; rintro e w1 ⟨rfl, b1⟩
      have X1 := Lib.hid (X0.out.after b1)
      clear X0 b1
      obtain ⟨c0, c1, c2, c3, c4, c5, c6⟩ := vB.cells (X1.out.get (g := w.heap.size) (cs := vCells a) (t := 30) (by simp))
      obtain ⟨d0, d1, d2, d3, d4, d5, d6⟩ := vB.cells (X1.out.get (g := w.heap.size + 1) (cs := vCells b) (t := 30) (by simp))
      go_wp2_with fail
      refine (J.out _).mono ?_; rintro e w2 ⟨rfl, b2⟩
      have X1b := Lib.hid (X1.out.after b2)
      have X2 := Lib.hid (X1b.out.new (vCells j) 30)
      clear X1 b2 c0 c1 c2 c3 c4 c5 c6 d0 d1 d2 d3 d4 d5 d6
      obtain ⟨c0, c1, c2, c3, c4, c5, c6⟩ := vB.cells (X1b.out.get (g := w.heap.size) (cs := vCells a) (t := 30) (by simp))
      obtain ⟨d0, d1, d2, d3, d4, d5, d6⟩ := vB.cells (X1b.out.get (g := w.heap.size + 1) (cs := vCells b) (t := 30) (by simp))
      have z1 := Blk.lt (X1b.out.get (g := w.heap.size + 1) (cs := vCells b) (t := 30) (by simp))
      have z0 := Blk.lt (X1b.out.get (g := w.heap.size) (cs := vCells a) (t := 30) (by simp))
      clear X1b
      go_wp2_with fail
      clear z0 z1 c0 c1 c2 c3 c4 c5 c6 d0 d1 d2 d3 d4 d5 d6
      generalize w2.alloc (.cells (vCells j) 30) = w3 at *
      generalize w2.heap.size = gx at *
      refine (W.out _).mono ?_; rintro e w4 ⟨rfl, b4⟩
      have Y4 := Lib.hid (X2.out.after b4)
      clear X2 b4
      obtain ⟨c0, c1, c2, c3, c4, c5, c6⟩ := vB.cells (Y4.out.get (g := w.heap.size) (cs := vCells a) (t := 30) (by simp))
      obtain ⟨d0, d1, d2, d3, d4, d5, d6⟩ := vB.cells (Y4.out.get (g := w.heap.size + 1) (cs := vCells b) (t := 30) (by simp))
      obtain ⟨e0, e1, e2, e3, e4, e5, e6⟩ := vB.cells (Y4.out.get (g := gx) (cs := vCells j) (t := 30) (by simp))
      go_wp2_with fail
      refine (IA.out _).mono ?_; rintro e w5 ⟨rfl, b5⟩
      have Y5 := Lib.hid (Y4.out.after b5)
      clear Y4 b5
      clear c0 c1 c2 c3 c4 c5 c6 d0 d1 d2 d3 d4 d5 d6 e0 e1 e2 e3 e4 e5 e6
      obtain ⟨c0, c1, c2, c3, c4, c5, c6⟩ := vB.cells (Y5.out.get (g := w.heap.size) (cs := vCells a) (t := 30) (by simp))
      obtain ⟨d0, d1, d2, d3, d4, d5, d6⟩ := vB.cells (Y5.out.get (g := w.heap.size + 1) (cs := vCells b) (t := 30) (by simp))
      obtain ⟨e0, e1, e2, e3, e4, e5, e6⟩ := vB.cells (Y5.out.get (g := gx) (cs := vCells j) (t := 30) (by simp))
      go_wp2_with fail
      refine (IB.out _).mono ?_; rintro e w6 ⟨rfl, b6⟩
      have Y6 := Lib.hid (Y5.out.after b6)
      clear Y5 b6
      clear c0 c1 c2 c3 c4 c5 c6 d0 d1 d2 d3 d4 d5 d6 e0 e1 e2 e3 e4 e5 e6
      obtain ⟨c0, c1, c2, c3, c4, c5, c6⟩ := vB.cells (Y6.out.get (g := w.heap.size) (cs := vCells a) (t := 30) (by simp))
      obtain ⟨d0, d1, d2, d3, d4, d5, d6⟩ := vB.cells (Y6.out.get (g := w.heap.size + 1) (cs := vCells b) (t := 30) (by simp))
      obtain ⟨e0, e1, e2, e3, e4, e5, e6⟩ := vB.cells (Y6.out.get (g := gx) (cs := vCells j) (t := 30) (by simp))
      go_wp2_with fail
      refine (RA.out _).mono ?_; rintro e w7 ⟨rfl, b7⟩
      have Y7 := Lib.hid (Y6.out.after b7)
      clear Y6 b7
      clear c0 c1 c2 c3 c4 c5 c6 d0 d1 d2 d3 d4 d5 d6 e0 e1 e2 e3 e4 e5 e6
      obtain ⟨c0, c1, c2, c3, c4, c5, c6⟩ := vB.cells (Y7.out.get (g := w.heap.size) (cs := vCells a) (t := 30) (by simp))
      obtain ⟨d0, d1, d2, d3, d4, d5, d6⟩ := vB.cells (Y7.out.get (g := w.heap.size + 1) (cs := vCells b) (t := 30) (by simp))
      obtain ⟨e0, e1, e2, e3, e4, e5, e6⟩ := vB.cells (Y7.out.get (g := gx) (cs := vCells j) (t := 30) (by simp))
      go_wp2_with fail
      refine (RB.out _).mono ?_; rintro e w8 ⟨rfl, b8⟩
      have Y8 := Lib.hid (Y7.out.after b8)
      clear Y7 b8
      clear c0 c1 c2 c3 c4 c5 c6 d0 d1 d2 d3 d4 d5 d6 e0 e1 e2 e3 e4 e5 e6
      obtain ⟨c0, c1, c2, c3, c4, c5, c6⟩ := vB.cells (Y8.out.get (g := w.heap.size) (cs := vCells a) (t := 30) (by simp))
      obtain ⟨d0, d1, d2, d3, d4, d5, d6⟩ := vB.cells (Y8.out.get (g := w.heap.size + 1) (cs := vCells b) (t := 30) (by simp))
      obtain ⟨e0, e1, e2, e3, e4, e5, e6⟩ := vB.cells (Y8.out.get (g := gx) (cs := vCells j) (t := 30) (by simp))
      go_wp2_with fail
      refine (IA.out _).mono ?_; rintro e w9 ⟨rfl, b9⟩
      have Y9 := Lib.hid (Y8.out.after b9)
      clear Y8 b9
      clear c0 c1 c2 c3 c4 c5 c6 d0 d1 d2 d3 d4 d5 d6 e0 e1 e2 e3 e4 e5 e6
      obtain ⟨c0, c1, c2, c3, c4, c5, c6⟩ := vB.cells (Y9.out.get (g := w.heap.size) (cs := vCells a) (t := 30) (by simp))
      obtain ⟨d0, d1, d2, d3, d4, d5, d6⟩ := vB.cells (Y9.out.get (g := w.heap.size + 1) (cs := vCells b) (t := 30) (by simp))
      obtain ⟨e0, e1, e2, e3, e4, e5, e6⟩ := vB.cells (Y9.out.get (g := gx) (cs := vCells j) (t := 30) (by simp))
      go_wp2_with fail
      refine (IJ.out _).mono ?_; rintro e w10 ⟨rfl, b10⟩
      have Y10 := Lib.hid (Y9.out.after b10)
      clear Y9 b10
      clear c0 c1 c2 c3 c4 c5 c6 d0 d1 d2 d3 d4 d5 d6 e0 e1 e2 e3 e4 e5 e6
      obtain ⟨c0, c1, c2, c3, c4, c5, c6⟩ := vB.cells (Y10.out.get (g := w.heap.size) (cs := vCells a) (t := 30) (by simp))
      obtain ⟨d0, d1, d2, d3, d4, d5, d6⟩ := vB.cells (Y10.out.get (g := w.heap.size + 1) (cs := vCells b) (t := 30) (by simp))
      obtain ⟨e0, e1, e2, e3, e4, e5, e6⟩ := vB.cells (Y10.out.get (g := gx) (cs := vCells j) (t := 30) (by simp))
      go_wp2_with fail
      refine (WA.out _).mono ?_; rintro e w11 ⟨rfl, b11⟩
      have Y11 := Lib.hid (Y10.out.after b11)
      clear Y10 b11
      clear c0 c1 c2 c3 c4 c5 c6 d0 d1 d2 d3 d4 d5 d6 e0 e1 e2 e3 e4 e5 e6
      obtain ⟨c0, c1, c2, c3, c4, c5, c6⟩ := vB.cells (Y11.out.get (g := w.heap.size) (cs := vCells a) (t := 30) (by simp))
      obtain ⟨d0, d1, d2, d3, d4, d5, d6⟩ := vB.cells (Y11.out.get (g := w.heap.size + 1) (cs := vCells b) (t := 30) (by simp))
      obtain ⟨e0, e1, e2, e3, e4, e5, e6⟩ := vB.cells (Y11.out.get (g := gx) (cs := vCells j) (t := 30) (by simp))
      go_wp2_with fail
      refine (WB.out _).mono ?_; rintro e w12 ⟨rfl, b12⟩
      have Y12 := Lib.hid (Y11.out.after b12)
      clear Y11 b12
      clear c0 c1 c2 c3 c4 c5 c6 d0 d1 d2 d3 d4 d5 d6 e0 e1 e2 e3 e4 e5 e6
      obtain ⟨c0, c1, c2, c3, c4, c5, c6⟩ := vB.cells (Y12.out.get (g := w.heap.size) (cs := vCells a) (t := 30) (by simp))
      obtain ⟨d0, d1, d2, d3, d4, d5, d6⟩ := vB.cells (Y12.out.get (g := w.heap.size + 1) (cs := vCells b) (t := 30) (by simp))
      obtain ⟨e0, e1, e2, e3, e4, e5, e6⟩ := vB.cells (Y12.out.get (g := gx) (cs := vCells j) (t := 30) (by simp))
      go_wp2_with fail
      go_ret
      exact ⟨rfl, Y12.out.1⟩

end Go.Proofs.Ytgjcbcpedoihaaa

namespace Go.Proofs.Ytgjcbcpedoihaaa
open Go.ChangeShapes Go.WideShapes Go.ChangeAt Go.RowKit
set_option linter.unusedVariables false

set_option maxRecDepth 100000 in
theorem vsound_lifted (os : Os) (started : os.Started) (H : Type) (enc : TypeId × Value → H) :
    ReturnsInHanded {} Try.checked os 5 .any (Rows.valSoundSpec.pre6 enc Try.prog Try.f5 Rows.valSoundRow.domain false) (Rows.valSoundSpec.post enc Try.prog Try.f5 false true false false) := by
  refine law_lifted (C := Try.checked) own_none started (by kernel_rfl) Try.func5
    (ChangeSpec.witness6 (enc := enc) (C := Try.checked) false ⟨#[], #[.agg #[.int .u8 0, .int .u64 0, .int .u64 0, .int .u64 0, .int .u64 0, .int .i64 0, .int .i64 0], .agg #[.int .u8 0, .int .u64 0, .int .u64 0, .int .u64 0, .int .u64 0, .int .i64 0, .int .i64 0], .int .u64 0, .bool false], []⟩ 8 (by kernel_rfl) (by kernel_rfl) (by kernel_rfl) (by kernel_rfl))
    laid_out rfl rfl Try.underlying4 (by kernel_rfl) (fun ds hd => by match ds, hd with | [d1, d2, d3, d4], _ => rfl) ?_
  intro W base args ds p hval hA
  rw [Try.params5] at hval hA
  obtain ⟨v0, v1, v2, v3, d0, d1, d2, d3, p0, p1, p2, p3, rfl, rfl, rfl, h0, h1, h2, h3⟩ := trodAll_four hA
  obtain ⟨a, rfl, wa⟩ := open_val (hval 0 _ _ rfl rfl) h0
  obtain ⟨b, rfl, wb⟩ := open_val (hval 1 _ _ rfl rfl) h1
  obtain ⟨n, rfl, _, _, wn⟩ := open_int Try.underlying22 (hval 2 _ _ rfl rfl) h2
  obtain ⟨n, rfl⟩ := bv_of (bounds_u64 wn)
  obtain ⟨set, rfl, _, _⟩ := open_bool Try.underlying4 (hval 3 _ _ rfl rfl) h3
  exact vsound_walk a b n set W wa wb

theorem vsound_holds : Rows.ValSoundSaid :=
  OpenClaim.holds_of_wide 5 Try.f5 rfl rfl rfl rfl rfl rfl rfl ⟨rfl, rfl, rfl, rfl, rfl⟩ rfl rfl rfl rfl rfl (by kernel_rfl) Try.func5 (by kernel_rfl)
    (of_decide_eq_true (by kernel_rfl)) (by unfold Func.isWrapper; first | (rw [if_pos (by decide +kernel)]; kernel_rfl) | (rw [if_neg (by decide +kernel)]; exact ⟨rfl, rfl⟩))
    (fun os started H enc _ => vsound_lifted os started H enc)

#print axioms vsound_holds
end Go.Proofs.Ytgjcbcpedoihaaa
