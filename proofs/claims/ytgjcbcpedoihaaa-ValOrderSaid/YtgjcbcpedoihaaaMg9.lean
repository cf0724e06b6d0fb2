/-
  Texts, one behind the other: Vr1, Vr2.
  Conditions: those that each theorem states.
-/
import Derived.Deep.RegionHeld
import Derived.Deep.RegionHeld3
import Derived.Deep.DeepCutAuto
import Derived.Test.YtgjcbcpedoihaaaMg8

namespace Go.Proofs.Ytgjcbcpedoihaaa
open Go Go.RowKit
set_option maxRecDepth 100000
set_option linter.unusedVariables false
set_option linter.unusedSimpArgs false

theorem vR_of {v s : Vl} (hs : vSaid v = s) : vR v = (vEq v s && (fR s.n && (decide (0 ≤ s.i) && (decide (s.i < 8) && near s.o)))) := by
  unfold vR
  rw [hs]
  cases he : vEq v s
  · rfl
  · rw [vEq_iff.mp he]
theorem fR_Z : fR fZ = true := fR_iff.mpr (fOf_fix 0#64)
theorem near_0 : near 0 = true := by decide
theorem said0 {v : Vl} (h : (v.k == 0) = true) : vSaid v = ⟨v.k, fZ, 0, 0⟩ := by
  have h' := beq_iff_eq.mp h
  unfold vSaid vZ; simp [h']
theorem said1 {v : Vl} (h : (v.k == 1) = true) : vSaid v = ⟨v.k, v.n, 0, 0⟩ := by
  have h' := beq_iff_eq.mp h
  unfold vSaid; simp [h']
theorem said2 {v : Vl} (h : (v.k == 2) = true) : vSaid v = ⟨v.k, fZ, 0, v.o⟩ := by
  have h' := beq_iff_eq.mp h
  unfold vSaid; simp [h']
theorem said3 {v : Vl} (h : (v.k == 3) = true) : vSaid v = ⟨v.k, fZ, 0, v.o⟩ := by
  have h' := beq_iff_eq.mp h
  unfold vSaid; simp [h']
theorem said4 {v : Vl} (h : (v.k == 4) = true) : vSaid v = ⟨v.k, fZ, v.i, 0⟩ := by
  have h' := beq_iff_eq.mp h
  unfold vSaid; simp [h']
theorem said6 {v : Vl} (h : (v.k == 6) = true) : vSaid v = ⟨v.k, fZ, v.i, 0⟩ := by
  have h' := beq_iff_eq.mp h
  unfold vSaid; simp [h']
theorem said5 {v : Vl} (h : (v.k == 5) = true) : vSaid v = ⟨v.k, fZ, v.i, v.o⟩ := by
  have h' := beq_iff_eq.mp h
  unfold vSaid; simp [h']
theorem vR_no {v : Vl} (h0 : (v.k == 0) = false) (h1 : (v.k == 1) = false) (h2 : (v.k == 2) = false) (h3 : (v.k == 3) = false) (h4 : (v.k == 4) = false) (h6 : (v.k == 6) = false) (h5 : (v.k == 5) = false) : vR v = false := by
  have hs : vSaid v = vZ := by
    unfold vSaid
    simp only [beq_eq_false_iff_ne] at *
    simp [h1, h2, h3, h4, h5, h6]
  rw [vR_of hs]
  have : vEq v vZ = false := by
    cases he : vEq v vZ
    · rfl
    · rw [vEq_iff.mp he] at h0; exact absurd h0 (by decide)
  rw [this]; rfl
theorem val_eqlB (a b : Vl) (B : Value) (e : Bool) (hB : B = vV b) (he : vEq a b = e) (u : World) : (binOp .eql 30 (vV a) B).run Try.prog u = .ok (.bool e) u := by rw [hB, val_eql, he]
set_option maxRecDepth 100000 in
set_option maxHeartbeats 8000000 in
theorem rv_right (v : Vl) (w : World) (hv : vIn v) : Calls Try.prog 13 #[vV v] w (Gives (.bool (vR v)) w) := by
  have F := Lib.hid fun w => rf_right v.n w hv.2.1
  have hx := Lib.hid (VMv.new v #[.int .u8 v.k, .int .u64 0, .int .u64 0, .int .u64 0, .int .u64 0, .int .i64 0, .int .i64 0] w)
  obtain ⟨c0, c1, c2, c3, c4, c5, c6⟩ := vB.cells (VMv.new v vZc w).2.1
  generalize hR : vR v = R at *
  replace hR := Lib.hid hR
  go_enter Try.func13, Try.ntmps13
  go_upto_region 2 with fail
  clear c0 c1 c2 c3 c4 c5 c6
  generalize ((w.alloc (.cells (vCells v) 30)).alloc (.cells #[.int .u8 v.k, .int .u64 0, .int .u64 0, .int .u64 0, .int .u64 0, .int .i64 0, .int .i64 0] 30)) = w2 at *
  go_cut [4] (fun s wx => s = .bool (decide (0 ≤ v.i) && decide (v.i < 8)) ∧ Hid (VMv v #[.int .u8 v.k, .int .u64 0, .int .u64 0, .int .u64 0, .int .u64 0, .int .i64 0, .int .i64 0] w wx))
  case first =>
    obtain ⟨c0, c1, c2, c3, c4, c5, c6⟩ := hx.out.2.1.cells
    by_cases i1 : 0 ≤ v.i
    · by_cases i2 : v.i < 8
      · go_wp2_with fail
        go_meet
        exact ⟨by rw [decide_eq_true i1, decide_eq_true i2]; rfl, hx⟩
      · have i2' : 8 ≤ v.i := by omega
        go_wp2_with fail
        go_meet
        exact ⟨by rw [decide_eq_true i1, decide_eq_false (by omega)]; rfl, hx⟩
    · have i1' : v.i < 0 := by omega
      go_wp2_with fail
      go_meet
      exact ⟨by rw [decide_eq_false (by omega)]; rfl, hx⟩
  case rest =>
    obtain ⟨rfl, X⟩ := hcut
    clear hx
    generalize hqi : (decide (0 ≤ v.i) && decide (v.i < 8)) = qi at *
    replace hqi := Lib.hid hqi
    go_upto_region 3 with fail
    go_cut [5] (fun s wx => s = .bool (near v.o) ∧ Hid (VMv v #[.int .u8 v.k, .int .u64 0, .int .u64 0, .int .u64 0, .int .u64 0, .int .i64 0, .int .i64 0] w wx))
    case first =>
      obtain ⟨c0, c1, c2, c3, c4, c5, c6⟩ := X.out.2.1.cells
      by_cases i1 : -1048576 ≤ v.o
      · by_cases i2 : v.o ≤ 1048576
        · go_wp2_with fail
          go_meet
          exact ⟨by unfold near; rw [decide_eq_true i1, decide_eq_true i2]; rfl, X⟩
        · have i2' : 1048576 < v.o := by omega
          go_wp2_with fail
          go_meet
          exact ⟨by unfold near; rw [decide_eq_true i1, decide_eq_false (by omega)]; rfl, X⟩
      · have i1' : v.o < -1048576 := by omega
        go_wp2_with fail
        go_meet
        exact ⟨by unfold near; rw [decide_eq_false (by omega)]; rfl, X⟩
    case rest =>
      obtain ⟨rfl, Y⟩ := hcut
      clear X
      generalize hqo : near v.o = qo at *
      replace hqo := Lib.hid hqo
      obtain ⟨c0, c1, c2, c3, c4, c5, c6⟩ := Y.out.2.1.cells
      obtain ⟨y0, y1, y2, y3, y4, y5, y6⟩ := Blk.seven Y.out.2.2
      obtain ⟨f0, f1, f2, f3, f4, f5, f6⟩ := vj_free Y.out.2.2
      have BY := Lib.hid Y.out.1
      cases h0 : (v.k == 0)
      rotate_left
      · have hS := vR_of (said0 h0)
        generalize he : vEq v ⟨v.k, fZ, 0, 0⟩ = e at *
        have EQ : ∀ u, (binOp .eql 30 (vV v) (.agg #[.int .u8 v.k, .int .u64 0, .int .u64 0, .int .u64 0, .int .u64 0, .int .i64 0, .int .i64 0])).run Try.prog u = .ok (.bool e) u := val_eqlB v ⟨v.k, fZ, 0, 0⟩ _ e rfl he
        have hR2 : Hid (R = (e && true)) := Lib.hid (by rw [← hR.out, hS]; simp [fR_Z, near_0, Bool.and_assoc, ← hqi.out, ← hqo.out])
        clear hS he
        cases e
        · have hR3 : Hid (R = false) := Lib.hid (by rw [hR2.out]; rfl)
          clear hR2
          go_wp2_with fail
          go_ret
          exact ⟨end_bool hR3.out.symm, BY.out⟩
        · have hR3 : Hid (R = true) := Lib.hid (by rw [hR2.out]; rfl)
          clear hR2
          go_wp2_with fail
          go_ret
          exact ⟨end_bool hR3.out.symm, BY.out⟩
      cases h1 : (v.k == 1)
      rotate_left
      · have hS := vR_of (said1 h1)
        generalize he : vEq v ⟨v.k, v.n, 0, 0⟩ = e at *
        have EQ : ∀ u, (binOp .eql 30 (vV v) (.agg #[.int .u8 v.k, uV v.n.1.1, uV v.n.1.2, .int .u64 v.n.2.1, .int .u64 v.n.2.2, .int .i64 0, .int .i64 0])).run Try.prog u = .ok (.bool e) u := val_eqlB v ⟨v.k, v.n, 0, 0⟩ _ e rfl he
        have hR2 : Hid (R = (e && fR v.n)) := Lib.hid (by rw [← hR.out, hS]; simp [fR_Z, near_0, Bool.and_assoc, ← hqi.out, ← hqo.out])
        clear hS he
        cases e
        · have hR3 : Hid (R = false) := Lib.hid (by rw [hR2.out]; rfl)
          clear hR2
          go_wp2_with fail
          go_ret
          exact ⟨end_bool hR3.out.symm, ((((BY.out.setCell (p := ⟨w.heap.size + 1, 1, none⟩) (Nat.le_succ _) _).setCell (p := ⟨w.heap.size + 1, 2, none⟩) (Nat.le_succ _) _).setCell (p := ⟨w.heap.size + 1, 3, none⟩) (Nat.le_succ _) _).setCell (p := ⟨w.heap.size + 1, 4, none⟩) (Nat.le_succ _) _)⟩
        · have hR3 : Hid (R = fR v.n) := Lib.hid (by rw [hR2.out]; rfl)
          clear hR2
          generalize fR v.n = r at *
          go_wp2_with fail
          refine (F.out _).mono ?_; rintro e w3 ⟨rfl, b3⟩
          have B3 := Lib.hid (below_next' ((((BY.out.setCell (p := ⟨w.heap.size + 1, 1, none⟩) (Nat.le_succ _) _).setCell (p := ⟨w.heap.size + 1, 2, none⟩) (Nat.le_succ _) _).setCell (p := ⟨w.heap.size + 1, 3, none⟩) (Nat.le_succ _) _).setCell (p := ⟨w.heap.size + 1, 4, none⟩) (Nat.le_succ _) _) b3)
          clear b3 c0 c1 c2 c3 c4 c5 c6 y0 y1 y2 y3 y4 y5 y6
          go_wp2_with fail
          go_ret
          exact ⟨end_bool hR3.out.symm, B3.out⟩
      cases h2 : (v.k == 2)
      rotate_left
      · have hS := vR_of (said2 h2)
        generalize he : vEq v ⟨v.k, fZ, 0, v.o⟩ = e at *
        have EQ : ∀ u, (binOp .eql 30 (vV v) (.agg #[.int .u8 v.k, .int .u64 0, .int .u64 0, .int .u64 0, .int .u64 0, .int .i64 0, .int .i64 v.o])).run Try.prog u = .ok (.bool e) u := val_eqlB v ⟨v.k, fZ, 0, v.o⟩ _ e rfl he
        have hR2 : Hid (R = (e && qo)) := Lib.hid (by rw [← hR.out, hS]; simp [fR_Z, near_0, Bool.and_assoc, ← hqi.out, ← hqo.out])
        clear hS he
        cases e
        · have hR3 : Hid (R = false) := Lib.hid (by rw [hR2.out]; rfl)
          clear hR2
          go_wp2_with fail
          go_ret
          exact ⟨end_bool hR3.out.symm, (BY.out.setCell (p := ⟨w.heap.size + 1, 6, none⟩) (Nat.le_succ _) _)⟩
        · have hR3 : Hid (R = qo) := Lib.hid (by rw [hR2.out]; rfl)
          clear hR2
          go_wp2_with fail
          go_ret
          exact ⟨end_bool hR3.out.symm, (BY.out.setCell (p := ⟨w.heap.size + 1, 6, none⟩) (Nat.le_succ _) _)⟩
      cases h3 : (v.k == 3)
      rotate_left
      · have hS := vR_of (said3 h3)
        generalize he : vEq v ⟨v.k, fZ, 0, v.o⟩ = e at *
        have EQ : ∀ u, (binOp .eql 30 (vV v) (.agg #[.int .u8 v.k, .int .u64 0, .int .u64 0, .int .u64 0, .int .u64 0, .int .i64 0, .int .i64 v.o])).run Try.prog u = .ok (.bool e) u := val_eqlB v ⟨v.k, fZ, 0, v.o⟩ _ e rfl he
        have hR2 : Hid (R = (e && qo)) := Lib.hid (by rw [← hR.out, hS]; simp [fR_Z, near_0, Bool.and_assoc, ← hqi.out, ← hqo.out])
        clear hS he
        cases e
        · have hR3 : Hid (R = false) := Lib.hid (by rw [hR2.out]; rfl)
          clear hR2
          go_wp2_with fail
          go_ret
          exact ⟨end_bool hR3.out.symm, (BY.out.setCell (p := ⟨w.heap.size + 1, 6, none⟩) (Nat.le_succ _) _)⟩
        · have hR3 : Hid (R = qo) := Lib.hid (by rw [hR2.out]; rfl)
          clear hR2
          go_wp2_with fail
          go_ret
          exact ⟨end_bool hR3.out.symm, (BY.out.setCell (p := ⟨w.heap.size + 1, 6, none⟩) (Nat.le_succ _) _)⟩
      cases h4 : (v.k == 4)
      rotate_left
      · have hS := vR_of (said4 h4)
        generalize he : vEq v ⟨v.k, fZ, v.i, 0⟩ = e at *
        have EQ : ∀ u, (binOp .eql 30 (vV v) (.agg #[.int .u8 v.k, .int .u64 0, .int .u64 0, .int .u64 0, .int .u64 0, .int .i64 v.i, .int .i64 0])).run Try.prog u = .ok (.bool e) u := val_eqlB v ⟨v.k, fZ, v.i, 0⟩ _ e rfl he
        have hR2 : Hid (R = (e && qi)) := Lib.hid (by rw [← hR.out, hS]; simp [fR_Z, near_0, Bool.and_assoc, ← hqi.out, ← hqo.out])
        clear hS he
        cases e
        · have hR3 : Hid (R = false) := Lib.hid (by rw [hR2.out]; rfl)
          clear hR2
          go_wp2_with fail
          go_ret
          exact ⟨end_bool hR3.out.symm, (BY.out.setCell (p := ⟨w.heap.size + 1, 5, none⟩) (Nat.le_succ _) _)⟩
        · have hR3 : Hid (R = qi) := Lib.hid (by rw [hR2.out]; rfl)
          clear hR2
          go_wp2_with fail
          go_ret
          exact ⟨end_bool hR3.out.symm, (BY.out.setCell (p := ⟨w.heap.size + 1, 5, none⟩) (Nat.le_succ _) _)⟩
      cases h6 : (v.k == 6)
      rotate_left
      · have hS := vR_of (said6 h6)
        generalize he : vEq v ⟨v.k, fZ, v.i, 0⟩ = e at *
        have EQ : ∀ u, (binOp .eql 30 (vV v) (.agg #[.int .u8 v.k, .int .u64 0, .int .u64 0, .int .u64 0, .int .u64 0, .int .i64 v.i, .int .i64 0])).run Try.prog u = .ok (.bool e) u := val_eqlB v ⟨v.k, fZ, v.i, 0⟩ _ e rfl he
        have hR2 : Hid (R = (e && qi)) := Lib.hid (by rw [← hR.out, hS]; simp [fR_Z, near_0, Bool.and_assoc, ← hqi.out, ← hqo.out])
        clear hS he
        cases e
        · have hR3 : Hid (R = false) := Lib.hid (by rw [hR2.out]; rfl)
          clear hR2
          go_wp2_with fail
          go_ret
          exact ⟨end_bool hR3.out.symm, (BY.out.setCell (p := ⟨w.heap.size + 1, 5, none⟩) (Nat.le_succ _) _)⟩
        · have hR3 : Hid (R = qi) := Lib.hid (by rw [hR2.out]; rfl)
          clear hR2
          go_wp2_with fail
          go_ret
          exact ⟨end_bool hR3.out.symm, (BY.out.setCell (p := ⟨w.heap.size + 1, 5, none⟩) (Nat.le_succ _) _)⟩
      cases h5 : (v.k == 5)
      rotate_left
      · have hS := vR_of (said5 h5)
        generalize he : vEq v ⟨v.k, fZ, v.i, v.o⟩ = e at *
        have EQ : ∀ u, (binOp .eql 30 (vV v) (.agg #[.int .u8 v.k, .int .u64 0, .int .u64 0, .int .u64 0, .int .u64 0, .int .i64 v.i, .int .i64 v.o])).run Try.prog u = .ok (.bool e) u := val_eqlB v ⟨v.k, fZ, v.i, v.o⟩ _ e rfl he
        have hR2 : Hid (R = (e && (qi && qo))) := Lib.hid (by rw [← hR.out, hS]; simp [fR_Z, near_0, Bool.and_assoc, ← hqi.out, ← hqo.out])
        clear hS he
        cases e
        · have hR3 : Hid (R = false) := Lib.hid (by rw [hR2.out]; rfl)
          clear hR2
          go_wp2_with fail
          go_ret
          exact ⟨end_bool hR3.out.symm, ((BY.out.setCell (p := ⟨w.heap.size + 1, 5, none⟩) (Nat.le_succ _) _).setCell (p := ⟨w.heap.size + 1, 6, none⟩) (Nat.le_succ _) _)⟩
        · have hR3 : Hid (R = (qi && qo)) := Lib.hid (by rw [hR2.out]; rfl)
          clear hR2
          cases qi
          · go_wp2_with fail
            go_ret
            exact ⟨end_bool hR3.out.symm, ((BY.out.setCell (p := ⟨w.heap.size + 1, 5, none⟩) (Nat.le_succ _) _).setCell (p := ⟨w.heap.size + 1, 6, none⟩) (Nat.le_succ _) _)⟩
          · go_wp2_with fail
            go_ret
            exact ⟨end_bool hR3.out.symm, ((BY.out.setCell (p := ⟨w.heap.size + 1, 5, none⟩) (Nat.le_succ _) _).setCell (p := ⟨w.heap.size + 1, 6, none⟩) (Nat.le_succ _) _)⟩
      have hR3 : Hid (R = false) := Lib.hid (by rw [← hR.out]; exact vR_no h0 h1 h2 h3 h4 h6 h5)
      go_wp2_with fail
      go_ret
      exact ⟨end_bool hR3.out.symm, BY.out⟩

end Go.Proofs.Ytgjcbcpedoihaaa

namespace Go.Proofs.Ytgjcbcpedoihaaa
open Go Go.RowKit
set_option maxRecDepth 100000
set_option linter.unusedVariables false
set_option linter.unusedSimpArgs false

set_option maxRecDepth 100000 in
set_option maxHeartbeats 4000000 in
theorem rv_num (f : Fc) (w : World) (hf : fIn f) : Calls Try.prog 15 #[fV f] w (Gives (vV (vNum f)) w) := by
  have F := Lib.hid fun w => rf_right f w hf
  have hx := Lib.hid (((Blks.start w).new (fCells f) 28).new vZc 30)
  unfold vNum
  cases h1 : fR f
  · rw [h1] at F
    rw [if_neg Bool.false_ne_true]
    obtain ⟨c0, c1, c2, c3⟩ := fB.cells (hx.out.get (g := w.heap.size) (cs := fCells f) (t := 28) (by simp))
    go_enter Try.func15, Try.ntmps15
    go_wp2_with fail
    refine (F.out _).mono ?_; rintro e w1 ⟨rfl, b1⟩
    have x1 := hx.out.after b1
    clear hx b1 c0 c1 c2 c3
    have y := x1.get (g := w.heap.size + 1) (cs := vZc) (t := 30) (by simp)
    obtain ⟨y0, y1, y2, y3, y4, y5, y6⟩ := Blk.seven y
    have fr := Lib.hid fun k => Blk.free y k
    have f0 := fr.out 0
    have f1 := fr.out 1
    have f2 := fr.out 2
    have f3 := fr.out 3
    have f4 := fr.out 4
    have f5 := fr.out 5
    have f6 := fr.out 6
    have BB := Lib.hid fun a b c d e f g => below_vals (k := w.heap.size + 1) x1.1 (by omega) a b c d e f g
    go_wp2_with fail
    exact bodyPost_ret (v := vV vZ) (by simp [results, Try.results15, go_sem, y0, y1, y2, y3, y4, y5, y6, fZ, vZ]) rfl ⟨rfl, BB.out _ _ _ _ _ _ _⟩
  · rw [h1] at F
    rw [if_pos rfl]
    obtain ⟨c0, c1, c2, c3⟩ := fB.cells (hx.out.get (g := w.heap.size) (cs := fCells f) (t := 28) (by simp))
    go_enter Try.func15, Try.ntmps15
    go_wp2_with fail
    refine (F.out _).mono ?_; rintro e w1 ⟨rfl, b1⟩
    have x1 := hx.out.after b1
    clear hx b1 c0 c1 c2 c3
    have y := x1.get (g := w.heap.size + 1) (cs := vZc) (t := 30) (by simp)
    obtain ⟨c0, c1, c2, c3⟩ := fB.cells (x1.get (g := w.heap.size) (cs := fCells f) (t := 28) (by simp))
    obtain ⟨y0, y1, y2, y3, y4, y5, y6⟩ := Blk.seven y
    have fr := Lib.hid fun k => Blk.free y k
    have f0 := fr.out 0
    have f1 := fr.out 1
    have f2 := fr.out 2
    have f3 := fr.out 3
    have f4 := fr.out 4
    have f5 := fr.out 5
    have f6 := fr.out 6
    have BB := Lib.hid fun a b c d e f g => below_vals (k := w.heap.size + 1) x1.1 (by omega) a b c d e f g
    go_wp2_with fail
    exact bodyPost_ret (v := vV ⟨1, f, 0, 0⟩) (by simp [results, Try.results15, go_sem, y0, y1, y2, y3, y4, y5, y6]) rfl ⟨rfl, BB.out _ _ _ _ _ _ _⟩

set_option maxRecDepth 100000 in
set_option maxHeartbeats 4000000 in
theorem rv_in (i o n : Int) (w : World) (hi : 0 ≤ i ∧ i < 8) : Calls Try.prog 32 #[.int .i64 i, .int .i64 o, .int .u64 n] w (Gives (.bool (vInM i o n)) w) := by
  have AR := Lib.hid fun (s : Nat) (hs : s < 1024) w => vr_Area i s w (by omega) (by omega)
  have AT := Lib.hid fun a w => vr_At a o w
  have B0 := Lib.hid (Below.refl w.heap.size w)
  have YES := Lib.hid fun (s : Nat) (hs : s < 1024) (h : n = atI (tArea i s) o) => vInM_some hs h
  have NO := Lib.hid fun (h : ∀ s : Nat, s < 1024 → n ≠ atI (tArea i s) o) => vInM_none h
  go_enter Try.func32, Try.ntmps32
  go_wp2_with fail
  go_loopw [7] (fun iv wr => ∃ j : Nat, iv = .int .i64 j ∧ j ≤ 1024 ∧ Hid (Below w.heap.size w wr ∧ ∀ t : Nat, t < j → n ≠ atI (tArea i t) o)) (fun iv wr => 1024 - (intOf iv).toNat)
  case atStart => exact ⟨0, rfl, by omega, Lib.hid ⟨B0.out, fun t ht => by omega⟩⟩
  case round =>
    obtain ⟨j, rfl, hj, V⟩ := hrel
    have j0 : (0 : Int) ≤ (j : Int) := by omega
    by_cases hlt : (j : Int) < 1024
    · have A1 := Lib.hid (AR.out j (by omega))
      have A2 := Lib.hid (AT.out (tArea i j))
      have YJ := Lib.hid (YES.out j (by omega))
      generalize hat : atI (tArea i j) o = z at *
      replace hat := Lib.hid hat
      generalize hta : tArea i j = a at *
      replace hta := Lib.hid hta
      go_wp2_with fail
      refine (A1.out _).mono ?_; rintro e w3 ⟨rfl, b3⟩
      have V3 := below_next' V.out.1 b3
      clear b3
      go_wp2_with fail
      refine (A2.out _).mono ?_; rintro e w4 ⟨rfl, b4⟩
      have V4 := Lib.hid (below_next' V3 b4)
      clear b4 V3
      by_cases hz : n = z
      · have Y := Lib.hid (YJ.out hz)
        have hz' : z = n := hz.symm
        clear hz
        subst hz'
        go_wp2_with fail
        go_ret
        exact ⟨end_bool Y.out.symm, V4.out⟩
      · have VN : Hid (∀ t : Nat, t < j + 1 → n ≠ atI (tArea i t) o) := Lib.hid fun t ht => by
          by_cases e : t = j
          · subst e; exact fun h => hz (h.trans (by rw [hta.out]; exact hat.out))
          · exact V.out.2 t (by omega)
        go_wp2_with fail
        go_round
        case rel => exact ⟨j + 1, by go_num, by omega, Lib.hid ⟨V4.out, VN.out⟩⟩
        case measure => simp [intOf]; omega
    · have hj2 : j = 1024 := by omega
      subst hj2
      have Y := Lib.hid (NO.out V.out.2)
      go_wp2_with fail
      go_ret
      exact ⟨end_bool Y.out.symm, V.out.1⟩

set_option maxRecDepth 100000 in
set_option maxHeartbeats 8000000 in
theorem rv_pointer (v : Vl) (w : World) (hv : vIn v) : Calls Try.prog 17 #[vV v] w (Gives (.bool (vP v)) w) := by
  have F := Lib.hid fun w => rv_right v w hv
  unfold vP
  generalize vR v = r at *
  have hx := Lib.hid ((Blks.start w).new (vCells v) 30)
  obtain ⟨c0, c1, c2, c3, c4, c5, c6⟩ := vB.cells (hx.out.get (g := w.heap.size) (cs := vCells v) (t := 30) (by simp))
  cases r
  · rw [Bool.false_and]
    go_enter Try.func17, Try.ntmps17
    go_wp2_with fail
    refine (F.out _).mono ?_; rintro e w1 ⟨rfl, b1⟩
    have B := Lib.hid (below_next' hx.out.1 b1)
    clear hx b1 c0 c1 c2 c3 c4 c5 c6
    go_wp2_with fail
    go_ret
    exact ⟨rfl, B.out⟩
  · cases h2 : (v.k == 2) <;> cases h3 : (v.k == 3) <;> cases h5 : (v.k == 5) <;>
    (go_enter Try.func17, Try.ntmps17
     go_wp2_with fail
     refine (F.out _).mono ?_; rintro e w1 ⟨rfl, b1⟩
     have B := Lib.hid (hx.out.after b1)
     clear hx b1 c0 c1 c2 c3 c4 c5 c6
     have c0 := (vB.cells (B.out.get (g := w.heap.size) (cs := vCells v) (t := 30) (by simp))).1
     go_wp2_with fail
     go_ret
     exact ⟨rfl, B.out.1⟩)

set_option maxRecDepth 100000 in
set_option maxHeartbeats 8000000 in
theorem rv_is (v : Vl) (n : BitVec 64) (set : Bool) (w : World) (hv : vIn v) : Calls Try.prog 19 #[vV v, uV n, .bool set] w (Gives (.bool (vIs v n set)) w) := by
  have R := Lib.hid fun w => rv_right v w hv
  have hx := Lib.hid ((Blks.start w).new (vCells v) 30)
  obtain ⟨c0, c1, c2, c3, c4, c5, c6⟩ := vB.cells (hx.out.get (g := w.heap.size) (cs := vCells v) (t := 30) (by simp))
  unfold vIs
  cases hr : vR v
  · rw [hr] at R
    rw [Bool.false_and]
    go_enter Try.func19, Try.ntmps19
    go_wp2_with fail
    refine (R.out _).mono ?_; rintro e w2 ⟨rfl, b1⟩
    have x2 := Lib.hid (hx.out.after b1)
    clear b1 c0 c1 c2 c3 c4 c5 c6 hx
    go_wp2_with fail
    go_ret
    exact ⟨rfl, x2.out.1⟩
  · have hi := (vR_parts hr).2.2.1
    have F := Lib.hid fun w => rf_has v.n n w hv.2.1
    have A1 := Lib.hid (vr_At 1 v.o)
    have A2 := Lib.hid (vr_At 2 v.o)
    have A3 := Lib.hid (vr_At 3 v.i)
    have I1 := Lib.hid fun w => rv_in v.i v.o n.toNat w hi
    have I2 := Lib.hid fun w => rv_in v.i 0 n.toNat w hi
    have E : ∀ a : Int, (v.k = a) = ((v.k == a) = true) := fun a => by rw [beq_iff_eq]
    rw [hr] at R
    rw [Bool.true_and]
    unfold vHas
    simp only [E]
    clear E hr hv hi
    generalize fHs v.n n = f at *
    generalize atI 1 v.o = a1 at *
    generalize atI 2 v.o = a2 at *
    generalize atI 3 v.i = a3 at *
    generalize vInM v.i v.o n.toNat = i1 at *
    generalize vInM v.i 0 n.toNat = i2 at *
    cases h0 : (v.k == 0)
    rotate_left
    · rw [Bool.true_or]
      go_enter Try.func19, Try.ntmps19
      go_wp2_with fail
      refine (R.out _).mono ?_; rintro e w2 ⟨rfl, b1⟩
      have x2 := Lib.hid (hx.out.after b1)
      clear b1 c0 c1 c2 c3 c4 c5 c6 hx
      obtain ⟨c0, c1, c2, c3, c4, c5, c6⟩ := vB.cells (x2.out.get (g := w.heap.size) (cs := vCells v) (t := 30) (by simp))
      go_wp2_with fail
      go_ret
      exact ⟨by simp, x2.out.1⟩
    rw [Bool.false_or]
    cases h1 : (v.k == 1)
    rotate_left
    · rw [if_pos rfl]
      cases f <;> cases set <;>
        (go_enter Try.func19, Try.ntmps19
         go_wp2_with fail
         refine (R.out _).mono ?_; rintro e w2 ⟨rfl, b1⟩
         have x2 := Lib.hid (hx.out.after b1)
         clear b1 c0 c1 c2 c3 c4 c5 c6 hx
         obtain ⟨c0, c1, c2, c3, c4, c5, c6⟩ := vB.cells (x2.out.get (g := w.heap.size) (cs := vCells v) (t := 30) (by simp))
         go_wp2_with fail
         refine (F.out _).mono ?_; rintro e w3 ⟨rfl, b3⟩
         have x3 := Lib.hid (x2.out.after b3)
         clear x2 b3 c0 c1 c2 c3 c4 c5 c6
         go_wp2_with fail
         go_ret
         exact ⟨by simp, x3.out.1⟩)
    cases h2 : (v.k == 2)
    rotate_left
    · rw [if_neg Bool.false_ne_true, if_pos rfl]
      cases hz : ((n.toNat : Int) == a1) <;> cases set <;>
        (go_enter Try.func19, Try.ntmps19
         go_wp2_with fail
         refine (R.out _).mono ?_; rintro e w2 ⟨rfl, b1⟩
         have x2 := Lib.hid (hx.out.after b1)
         clear b1 c0 c1 c2 c3 c4 c5 c6 hx
         obtain ⟨c0, c1, c2, c3, c4, c5, c6⟩ := vB.cells (x2.out.get (g := w.heap.size) (cs := vCells v) (t := 30) (by simp))
         go_wp2_with fail
         refine (A1.out _).mono ?_; rintro e w3 ⟨rfl, b3⟩
         have x3 := Lib.hid (x2.out.after b3)
         clear x2 b3 c0 c1 c2 c3 c4 c5 c6
         go_wp2_with fail
         go_ret
         exact ⟨by simp, x3.out.1⟩)
    cases h3 : (v.k == 3)
    rotate_left
    · rw [if_neg Bool.false_ne_true, if_neg Bool.false_ne_true, if_pos rfl]
      cases hz : ((n.toNat : Int) == a2) <;> cases set <;>
        (go_enter Try.func19, Try.ntmps19
         go_wp2_with fail
         refine (R.out _).mono ?_; rintro e w2 ⟨rfl, b1⟩
         have x2 := Lib.hid (hx.out.after b1)
         clear b1 c0 c1 c2 c3 c4 c5 c6 hx
         obtain ⟨c0, c1, c2, c3, c4, c5, c6⟩ := vB.cells (x2.out.get (g := w.heap.size) (cs := vCells v) (t := 30) (by simp))
         go_wp2_with fail
         refine (A2.out _).mono ?_; rintro e w3 ⟨rfl, b3⟩
         have x3 := Lib.hid (x2.out.after b3)
         clear x2 b3 c0 c1 c2 c3 c4 c5 c6
         go_wp2_with fail
         go_ret
         exact ⟨by simp, x3.out.1⟩)
    cases h4 : (v.k == 4)
    rotate_left
    · rw [if_neg Bool.false_ne_true, if_neg Bool.false_ne_true, if_neg Bool.false_ne_true, if_pos rfl]
      cases hz : ((n.toNat : Int) == a3) <;> cases set <;>
        (go_enter Try.func19, Try.ntmps19
         go_wp2_with fail
         refine (R.out _).mono ?_; rintro e w2 ⟨rfl, b1⟩
         have x2 := Lib.hid (hx.out.after b1)
         clear b1 c0 c1 c2 c3 c4 c5 c6 hx
         obtain ⟨c0, c1, c2, c3, c4, c5, c6⟩ := vB.cells (x2.out.get (g := w.heap.size) (cs := vCells v) (t := 30) (by simp))
         go_wp2_with fail
         refine (A3.out _).mono ?_; rintro e w3 ⟨rfl, b3⟩
         have x3 := Lib.hid (x2.out.after b3)
         clear x2 b3 c0 c1 c2 c3 c4 c5 c6
         go_wp2_with fail
         go_ret
         exact ⟨by simp, x3.out.1⟩)
    cases h5 : (v.k == 5)
    rotate_left
    · rw [if_neg Bool.false_ne_true, if_neg Bool.false_ne_true, if_neg Bool.false_ne_true, if_neg Bool.false_ne_true, if_pos rfl]
      cases i1 <;> cases set <;>
        (go_enter Try.func19, Try.ntmps19
         go_wp2_with fail
         refine (R.out _).mono ?_; rintro e w2 ⟨rfl, b1⟩
         have x2 := Lib.hid (hx.out.after b1)
         clear b1 c0 c1 c2 c3 c4 c5 c6 hx
         obtain ⟨c0, c1, c2, c3, c4, c5, c6⟩ := vB.cells (x2.out.get (g := w.heap.size) (cs := vCells v) (t := 30) (by simp))
         go_wp2_with fail
         refine (I1.out _).mono ?_; rintro e w3 ⟨rfl, b3⟩
         have x3 := Lib.hid (x2.out.after b3)
         clear x2 b3 c0 c1 c2 c3 c4 c5 c6
         go_wp2_with fail
         go_ret
         exact ⟨by simp, x3.out.1⟩)
    cases h6 : (v.k == 6)
    rotate_left
    · rw [if_neg Bool.false_ne_true, if_neg Bool.false_ne_true, if_neg Bool.false_ne_true, if_neg Bool.false_ne_true, if_neg Bool.false_ne_true, if_pos rfl]
      cases hz : ((n.toNat : Int) == 0)
      · rw [Bool.false_or]
        cases i2 <;> cases set <;>
        (go_enter Try.func19, Try.ntmps19
         go_wp2_with fail
         refine (R.out _).mono ?_; rintro e w2 ⟨rfl, b1⟩
         have x2 := Lib.hid (hx.out.after b1)
         clear b1 c0 c1 c2 c3 c4 c5 c6 hx
         obtain ⟨c0, c1, c2, c3, c4, c5, c6⟩ := vB.cells (x2.out.get (g := w.heap.size) (cs := vCells v) (t := 30) (by simp))
         go_wp2_with fail
         refine (I2.out _).mono ?_; rintro e w3 ⟨rfl, b3⟩
         have x3 := Lib.hid (x2.out.after b3)
         clear x2 b3 c0 c1 c2 c3 c4 c5 c6
         go_wp2_with fail
         go_ret
         exact ⟨by simp, x3.out.1⟩)
      · rw [Bool.true_or]
        cases set <;>
        (go_enter Try.func19, Try.ntmps19
         go_wp2_with fail
         refine (R.out _).mono ?_; rintro e w2 ⟨rfl, b1⟩
         have x2 := Lib.hid (hx.out.after b1)
         clear b1 c0 c1 c2 c3 c4 c5 c6 hx
         obtain ⟨c0, c1, c2, c3, c4, c5, c6⟩ := vB.cells (x2.out.get (g := w.heap.size) (cs := vCells v) (t := 30) (by simp))
         go_wp2_with fail
         go_ret
         exact ⟨by simp, x2.out.1⟩)
    · rw [if_neg Bool.false_ne_true, if_neg Bool.false_ne_true, if_neg Bool.false_ne_true, if_neg Bool.false_ne_true, if_neg Bool.false_ne_true, if_neg Bool.false_ne_true, Bool.and_false]
      go_enter Try.func19, Try.ntmps19
      go_wp2_with fail
      refine (R.out _).mono ?_; rintro e w2 ⟨rfl, b1⟩
      have x2 := Lib.hid (hx.out.after b1)
      clear b1 c0 c1 c2 c3 c4 c5 c6 hx
      obtain ⟨c0, c1, c2, c3, c4, c5, c6⟩ := vB.cells (x2.out.get (g := w.heap.size) (cs := vCells v) (t := 30) (by simp))
      go_wp2_with fail
      go_ret
      exact ⟨by simp, x2.out.1⟩

end Go.Proofs.Ytgjcbcpedoihaaa
