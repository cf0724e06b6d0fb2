/-
  Texts, one behind the other: Val3, Val4, Val5, Val6, Val7.
  Conditions: those that each theorem states.
-/
import Derived.Test.YtgjcbcpedoihaaaMg7
import Derived.Deep.RegionHeld
import Derived.Deep.RegionHeld3
import Derived.Deep.DeepCutAuto

namespace Go.Proofs.Ytgjcbcpedoihaaa
open Go Go.RowKit
set_option maxRecDepth 100000
set_option linter.unusedVariables false
set_option linter.unusedSimpArgs false

set_option maxRecDepth 100000 in
set_option maxHeartbeats 4000000 in
theorem vp_num (f : Fc) (w : World) (hf : fIn f) : Calls Try.prog 14 #[fV f] w (Gives (vV (vNum f)) w) := by
  have F := Lib.hid fun w => fp_right f w hf
  have hx := Lib.hid (((Blks.start w).new (fCells f) 28).new vZc 30)
  unfold vNum
  cases h1 : fR f
  · rw [h1] at F
    rw [if_neg Bool.false_ne_true]
    obtain ⟨c0, c1, c2, c3⟩ := fB.cells (hx.out.get (g := w.heap.size) (cs := fCells f) (t := 28) (by simp))
    go_enter Try.func14, Try.ntmps14
    go_wp2_with fail
    refine (F.out _).mono ?_; rintro e w1 ⟨rfl, b1⟩
    have x1 := hx.out.after b1
    clear hx b1 c0 c1 c2 c3
    have y := x1.get (g := w.heap.size + 1) (cs := vZc) (t := 30) (by simp)
    obtain ⟨y0, y1, y2, y3, y4, y5, y6⟩ := Blk.seven y
    have fr := Lib.hid fun k => Blk.free y k
    have f0 := fr.out 0
    have f1 := fr.out 1
    have f2 := fr.out 2
    have f3 := fr.out 3
    have f4 := fr.out 4
    have f5 := fr.out 5
    have f6 := fr.out 6
    have BB := Lib.hid fun a b c d e f g => below_vals (k := w.heap.size + 1) x1.1 (by omega) a b c d e f g
    go_wp2_with fail
    exact bodyPost_ret (v := vV vZ) (by simp [results, Try.results14, go_sem, y0, y1, y2, y3, y4, y5, y6, fZ, vZ]) rfl ⟨rfl, BB.out _ _ _ _ _ _ _⟩
  · rw [h1] at F
    rw [if_pos rfl]
    obtain ⟨c0, c1, c2, c3⟩ := fB.cells (hx.out.get (g := w.heap.size) (cs := fCells f) (t := 28) (by simp))
    go_enter Try.func14, Try.ntmps14
    go_wp2_with fail
    refine (F.out _).mono ?_; rintro e w1 ⟨rfl, b1⟩
    have x1 := hx.out.after b1
    clear hx b1 c0 c1 c2 c3
    have y := x1.get (g := w.heap.size + 1) (cs := vZc) (t := 30) (by simp)
    obtain ⟨c0, c1, c2, c3⟩ := fB.cells (x1.get (g := w.heap.size) (cs := fCells f) (t := 28) (by simp))
    obtain ⟨y0, y1, y2, y3, y4, y5, y6⟩ := Blk.seven y
    have fr := Lib.hid fun k => Blk.free y k
    have f0 := fr.out 0
    have f1 := fr.out 1
    have f2 := fr.out 2
    have f3 := fr.out 3
    have f4 := fr.out 4
    have f5 := fr.out 5
    have f6 := fr.out 6
    have BB := Lib.hid fun a b c d e f g => below_vals (k := w.heap.size + 1) x1.1 (by omega) a b c d e f g
    go_wp2_with fail
    exact bodyPost_ret (v := vV ⟨1, f, 0, 0⟩) (by simp [results, Try.results14, go_sem, y0, y1, y2, y3, y4, y5, y6]) rfl ⟨rfl, BB.out _ _ _ _ _ _ _⟩

set_option maxRecDepth 100000 in
set_option maxHeartbeats 4000000 in
theorem vp_pointer (v : Vl) (w : World) (hv : vIn v) : Calls Try.prog 16 #[vV v] w (Gives (.bool (vP v)) w) := by
  have F := Lib.hid fun w => vp_right v w hv
  unfold vP
  generalize vR v = r at *
  have hx := Lib.hid ((Blks.start w).new (vCells v) 30)
  obtain ⟨c0, c1, c2, c3, c4, c5, c6⟩ := vB.cells (hx.out.get (g := w.heap.size) (cs := vCells v) (t := 30) (by simp))
  cases h2 : (v.k == 2)
  · cases h3 : (v.k == 3)
    · cases h5 : (v.k == 5)
      · simp only [Bool.or_false, Bool.and_false]
        go_enter Try.func16, Try.ntmps16
        go_wp2_with fail
        go_ret
        exact ⟨rfl, hx.out.1⟩
      · simp only [Bool.or_true, Bool.and_true]
        go_enter Try.func16, Try.ntmps16
        go_wp2_with fail
        refine (F.out _).mono ?_; rintro e w1 ⟨rfl, b1⟩
        have B := Lib.hid (below_next' hx.out.1 b1)
        clear hx b1 c0 c1 c2 c3 c4 c5 c6
        go_wp2_with fail
        go_ret
        exact ⟨rfl, B.out⟩
    · simp only [Bool.or_true, Bool.true_or, Bool.and_true]
      go_enter Try.func16, Try.ntmps16
      go_wp2_with fail
      refine (F.out _).mono ?_; rintro e w1 ⟨rfl, b1⟩
      have B := Lib.hid (below_next' hx.out.1 b1)
      clear hx b1 c0 c1 c2 c3 c4 c5 c6
      go_wp2_with fail
      go_ret
      exact ⟨rfl, B.out⟩
  · simp only [Bool.true_or, Bool.and_true]
    go_enter Try.func16, Try.ntmps16
    go_wp2_with fail
    refine (F.out _).mono ?_; rintro e w1 ⟨rfl, b1⟩
    have B := Lib.hid (below_next' hx.out.1 b1)
    clear hx b1 c0 c1 c2 c3 c4 c5 c6
    go_wp2_with fail
    go_ret
    exact ⟨rfl, B.out⟩

theorem vInM_some {i o n : Int} {s : Nat} (hs : s < 1024) (h : n = atI (tArea i s) o) : vInM i o n = true := by
  unfold vInM
  rw [List.any_eq_true]
  exact ⟨s, List.mem_range.mpr hs, beq_iff_eq.mpr h⟩
theorem vInM_none {i o n : Int} (h : ∀ s : Nat, s < 1024 → n ≠ atI (tArea i s) o) : vInM i o n = false := by
  unfold vInM
  rw [List.any_eq_false]
  intro s hs
  simpa using h s (List.mem_range.mp hs)
set_option maxRecDepth 100000 in
set_option maxHeartbeats 4000000 in
theorem vp_in (i o n : Int) (w : World) (hi : 0 ≤ i ∧ i < 8) : Calls Try.prog 44 #[.int .i64 i, .int .i64 o, .int .u64 n] w (Gives (.bool (vInM i o n)) w) := by
  have AR := Lib.hid fun (s : Nat) (hs : s < 1024) w => vu_Area i s w (by omega) (by omega)
  have AT := Lib.hid fun a w => vu_At a o w
  have B0 := Lib.hid (Below.refl w.heap.size w)
  have YES := Lib.hid fun (s : Nat) (hs : s < 1024) (h : n = atI (tArea i s) o) => vInM_some hs h
  have NO := Lib.hid fun (h : ∀ s : Nat, s < 1024 → n ≠ atI (tArea i s) o) => vInM_none h
  go_enter Try.func44, Try.ntmps44
  go_wp2_with fail
  go_loopw [8] (fun iv wr => ∃ j : Nat, iv = .int .i64 j ∧ j ≤ 1024 ∧ Hid (Below w.heap.size w wr ∧ ∀ t : Nat, t < j → n ≠ atI (tArea i t) o)) (fun iv wr => 1024 - (intOf iv).toNat)
  case atStart => exact ⟨0, rfl, by omega, Lib.hid ⟨B0.out, fun t ht => by omega⟩⟩
  case round =>
    obtain ⟨j, rfl, hj, V⟩ := hrel
    have j0 : (0 : Int) ≤ (j : Int) := by omega
    by_cases hlt : (j : Int) < 1024
    · have A1 := Lib.hid (AR.out j (by omega))
      have A2 := Lib.hid (AT.out (tArea i j))
      have YJ := Lib.hid (YES.out j (by omega))
      generalize hat : atI (tArea i j) o = z at *
      replace hat := Lib.hid hat
      generalize hta : tArea i j = a at *
      replace hta := Lib.hid hta
      go_wp2_with fail
      refine (A1.out _).mono ?_; rintro e w3 ⟨rfl, b3⟩
      have V3 := below_next' V.out.1 b3
      clear b3
      go_wp2_with fail
      refine (A2.out _).mono ?_; rintro e w4 ⟨rfl, b4⟩
      have V4 := Lib.hid (below_next' V3 b4)
      clear b4 V3
      by_cases hz : n = z
      · have Y := Lib.hid (YJ.out hz)
        have hz' : z = n := hz.symm
        clear hz
        subst hz'
        go_wp2_with fail
        go_ret
        exact ⟨end_bool Y.out.symm, V4.out⟩
      · have VN : Hid (∀ t : Nat, t < j + 1 → n ≠ atI (tArea i t) o) := Lib.hid fun t ht => by
          by_cases e : t = j
          · subst e; exact fun h => hz (h.trans (by rw [hta.out]; exact hat.out))
          · exact V.out.2 t (by omega)
        go_wp2_with fail
        go_round
        case rel => exact ⟨j + 1, by go_num, by omega, Lib.hid ⟨V4.out, VN.out⟩⟩
        case measure => simp [intOf]; omega
    · have hj2 : j = 1024 := by omega
      subst hj2
      have Y := Lib.hid (NO.out V.out.2)
      go_wp2_with fail
      go_ret
      exact ⟨end_bool Y.out.symm, V.out.1⟩

end Go.Proofs.Ytgjcbcpedoihaaa

namespace Go.Proofs.Ytgjcbcpedoihaaa
open Go Go.RowKit
set_option maxRecDepth 100000
set_option linter.unusedVariables false
set_option linter.unusedSimpArgs false

set_option maxRecDepth 100000 in
set_option maxHeartbeats 8000000 in
theorem vp_has (v : Vl) (n : BitVec 64) (w : World) (hv : vIn v) (hi : 0 ≤ v.i ∧ v.i < 8) : Calls Try.prog 30 #[vV v, uV n] w (Gives (.bool (vHas v n)) w) := by
  have F := Lib.hid fun w => fp_has v.n n w hv.2.1
  have A1 := Lib.hid (vu_At 1 v.o)
  have A2 := Lib.hid (vu_At 2 v.o)
  have A3 := Lib.hid (vu_At 3 v.i)
  have I1 := Lib.hid fun w => vp_in v.i v.o n.toNat w hi
  have I2 := Lib.hid fun w => vp_in v.i 0 n.toNat w hi
  have E : ∀ a : Int, (v.k = a) = ((v.k == a) = true) := fun a => by rw [beq_iff_eq]
  unfold vHas
  simp only [E]
  clear E
  generalize fHs v.n n = f at *
  generalize atI 1 v.o = a1 at *
  generalize atI 2 v.o = a2 at *
  generalize atI 3 v.i = a3 at *
  generalize vInM v.i v.o n.toNat = i1 at *
  generalize vInM v.i 0 n.toNat = i2 at *
  have hx := Lib.hid ((Blks.start w).new (vCells v) 30)
  obtain ⟨c0, c1, c2, c3, c4, c5, c6⟩ := vB.cells (hx.out.get (g := w.heap.size) (cs := vCells v) (t := 30) (by simp))
  clear hv hi
  cases h1 : (v.k == 1)
  rotate_left
  · rw [if_pos rfl]
    go_enter Try.func30, Try.ntmps30
    go_wp2_with fail
    refine (F.out _).mono ?_; rintro e w1 ⟨rfl, b1⟩
    have B := Lib.hid (below_next' hx.out.1 b1)
    clear hx b1 c0 c1 c2 c3 c4 c5 c6
    go_wp2_with fail
    go_ret
    exact ⟨rfl, B.out⟩
  cases h2 : (v.k == 2)
  rotate_left
  · rw [if_neg Bool.false_ne_true, if_pos rfl]
    go_enter Try.func30, Try.ntmps30
    go_wp2_with fail
    refine (A1.out _).mono ?_; rintro e w1 ⟨rfl, b1⟩
    have B := Lib.hid (below_next' hx.out.1 b1)
    clear hx b1 c0 c1 c2 c3 c4 c5 c6
    go_wp2_with fail
    go_ret
    exact ⟨rfl, B.out⟩
  cases h3 : (v.k == 3)
  rotate_left
  · rw [if_neg Bool.false_ne_true, if_neg Bool.false_ne_true, if_pos rfl]
    go_enter Try.func30, Try.ntmps30
    go_wp2_with fail
    refine (A2.out _).mono ?_; rintro e w1 ⟨rfl, b1⟩
    have B := Lib.hid (below_next' hx.out.1 b1)
    clear hx b1 c0 c1 c2 c3 c4 c5 c6
    go_wp2_with fail
    go_ret
    exact ⟨rfl, B.out⟩
  cases h4 : (v.k == 4)
  rotate_left
  · rw [if_neg Bool.false_ne_true, if_neg Bool.false_ne_true, if_neg Bool.false_ne_true, if_pos rfl]
    go_enter Try.func30, Try.ntmps30
    go_wp2_with fail
    refine (A3.out _).mono ?_; rintro e w1 ⟨rfl, b1⟩
    have B := Lib.hid (below_next' hx.out.1 b1)
    clear hx b1 c0 c1 c2 c3 c4 c5 c6
    go_wp2_with fail
    go_ret
    exact ⟨rfl, B.out⟩
  cases h5 : (v.k == 5)
  rotate_left
  · rw [if_neg Bool.false_ne_true, if_neg Bool.false_ne_true, if_neg Bool.false_ne_true, if_neg Bool.false_ne_true, if_pos rfl]
    go_enter Try.func30, Try.ntmps30
    go_wp2_with fail
    refine (I1.out _).mono ?_; rintro e w1 ⟨rfl, b1⟩
    have B := Lib.hid (below_next' hx.out.1 b1)
    clear hx b1 c0 c1 c2 c3 c4 c5 c6
    go_wp2_with fail
    go_ret
    exact ⟨rfl, B.out⟩
  cases h6 : (v.k == 6)
  rotate_left
  · rw [if_neg Bool.false_ne_true, if_neg Bool.false_ne_true, if_neg Bool.false_ne_true, if_neg Bool.false_ne_true, if_neg Bool.false_ne_true, if_pos rfl]
    cases hz : ((n.toNat : Int) == 0)
    · rw [Bool.false_or]
      go_enter Try.func30, Try.ntmps30
      go_wp2_with fail
      refine (I2.out _).mono ?_; rintro e w1 ⟨rfl, b1⟩
      have B := Lib.hid (below_next' hx.out.1 b1)
      clear hx b1 c0 c1 c2 c3 c4 c5 c6
      go_wp2_with fail
      go_ret
      exact ⟨rfl, B.out⟩
    · rw [Bool.true_or]
      go_enter Try.func30, Try.ntmps30
      go_wp2_with fail
      go_ret
      exact ⟨rfl, hx.out.1⟩
  · rw [if_neg Bool.false_ne_true, if_neg Bool.false_ne_true, if_neg Bool.false_ne_true, if_neg Bool.false_ne_true, if_neg Bool.false_ne_true, if_neg Bool.false_ne_true]
    go_enter Try.func30, Try.ntmps30
    go_wp2_with fail
    go_ret
    exact ⟨rfl, hx.out.1⟩

end Go.Proofs.Ytgjcbcpedoihaaa

namespace Go.Proofs.Ytgjcbcpedoihaaa
open Go Go.RowKit
set_option maxRecDepth 100000
set_option linter.unusedVariables false
set_option linter.unusedSimpArgs false

theorem vR_parts {v : Vl} (h : vR v = true) : v = vSaid v ∧ fR v.n = true ∧ (0 ≤ v.i ∧ v.i < 8) ∧ near v.o = true := by
  unfold vR at h
  simp only [Bool.and_eq_true, decide_eq_true_eq] at h
  exact ⟨vEq_iff.mp h.1, h.2.1, ⟨h.2.2.1, h.2.2.2.1⟩, h.2.2.2.2⟩
set_option maxRecDepth 100000 in
set_option maxHeartbeats 8000000 in
theorem vp_is (v : Vl) (n : BitVec 64) (set : Bool) (w : World) (hv : vIn v) : Calls Try.prog 18 #[vV v, uV n, .bool set] w (Gives (.bool (vIs v n set)) w) := by
  have R := Lib.hid fun w => vp_right v w hv
  have hx := Lib.hid ((Blks.start w).new (vCells v) 30)
  obtain ⟨c0, c1, c2, c3, c4, c5, c6⟩ := vB.cells (hx.out.get (g := w.heap.size) (cs := vCells v) (t := 30) (by simp))
  unfold vIs
  cases hr : vR v
  · rw [hr] at R
    rw [Bool.false_and]
    go_enter Try.func18, Try.ntmps18
    go_wp2_with fail
    refine (R.out _).mono ?_; rintro e w2 ⟨rfl, b1⟩
    have x2 := Lib.hid (hx.out.after b1)
    clear b1 c0 c1 c2 c3 c4 c5 c6 hx
    go_wp2_with fail
    go_ret
    exact ⟨rfl, x2.out.1⟩
  · have H := Lib.hid fun w => vp_has v n w hv (vR_parts hr).2.2.1
    rw [hr] at R
    clear hr hv
    rw [Bool.true_and]
    generalize vHas v n = q at *
    cases h0 : (v.k == 0)
    · cases set
      · rw [Bool.false_and, Bool.or_false]
        go_enter Try.func18, Try.ntmps18
        go_wp2_with fail
        refine (R.out _).mono ?_; rintro e w2 ⟨rfl, b1⟩
        have x2 := Lib.hid (hx.out.after b1)
        have W2 : Hid (∀ u, Below w2.heap.size w2 u → Below w.heap.size w u) := Lib.hid fun u b => below_next' x2.out.1 b
        clear b1 c0 c1 c2 c3 c4 c5 c6
        obtain ⟨c0, c1, c2, c3, c4, c5, c6⟩ := vB.cells (x2.out.get (g := w.heap.size) (cs := vCells v) (t := 30) (by simp))
        clear hx
        go_wp2_with fail
        go_ret
        exact ⟨rfl, x2.out.1⟩
      · rw [Bool.true_and, Bool.false_or]
        go_enter Try.func18, Try.ntmps18
        go_wp2_with fail
        refine (R.out _).mono ?_; rintro e w2 ⟨rfl, b1⟩
        have x2 := Lib.hid (hx.out.after b1)
        have W2 : Hid (∀ u, Below w2.heap.size w2 u → Below w.heap.size w u) := Lib.hid fun u b => below_next' x2.out.1 b
        clear b1 c0 c1 c2 c3 c4 c5 c6
        obtain ⟨c0, c1, c2, c3, c4, c5, c6⟩ := vB.cells (x2.out.get (g := w.heap.size) (cs := vCells v) (t := 30) (by simp))
        clear hx
        go_wp2_with fail
        refine (H.out _).mono ?_; rintro e w3 ⟨rfl, b3⟩
        have W3 := Lib.hid (W2.out _ b3)
        clear c0 c1 c2 c3 c4 c5 c6 x2 b3
        go_wp2_with fail
        go_ret
        exact ⟨rfl, W3.out⟩
    · rw [Bool.true_or]
      go_enter Try.func18, Try.ntmps18
      go_wp2_with fail
      refine (R.out _).mono ?_; rintro e w2 ⟨rfl, b1⟩
      have x2 := Lib.hid (hx.out.after b1)
      have W2 : Hid (∀ u, Below w2.heap.size w2 u → Below w.heap.size w u) := Lib.hid fun u b => below_next' x2.out.1 b
      clear b1 c0 c1 c2 c3 c4 c5 c6
      obtain ⟨c0, c1, c2, c3, c4, c5, c6⟩ := vB.cells (x2.out.get (g := w.heap.size) (cs := vCells v) (t := 30) (by simp))
      clear hx
      go_wp2_with fail
      go_ret
      exact ⟨rfl, x2.out.1⟩

/-- Two boxes of Vals. -/
def VDuo (a b : Vl) (w u : World) : Prop := Below w.heap.size w u ∧ vB w.heap.size a u ∧ vB (w.heap.size + 1) b u
theorem VDuo.new (a b : Vl) (w : World) : VDuo a b w ((w.alloc (.cells (vCells a) 30)).alloc (.cells (vCells b) 30)) :=
  ⟨below_alloc (below_alloc (Below.refl _ _) _) _, (vB.new w a rfl).alloc _, vB.new _ b (by simp)⟩
theorem VDuo.after {a b : Vl} {w u u' : World} (h : VDuo a b w u) (k : Below u.heap.size u u') : VDuo a b w u' := ⟨below_next' h.1 k, h.2.1.after k, h.2.2.after k⟩
theorem VDuo.alloc {a b : Vl} {w u : World} (h : VDuo a b w u) (o : Obj) : VDuo a b w (u.alloc o) := h.after (below_alloc (Below.refl _ _) o)
set_option maxRecDepth 100000 in
set_option maxHeartbeats 8000000 in
theorem vp_bothRight (a b : Vl) (w : World) (ha : vIn a) (hb : vIn b) : Calls Try.prog 33 #[vV a, vV b] w (Gives (.bool (vR a && vR b)) w) := by
  have R1 := Lib.hid fun w => vp_right a w ha
  have R2 := Lib.hid fun w => vp_right b w hb
  have hx := Lib.hid (VDuo.new a b w)
  obtain ⟨c0, c1, c2, c3, c4, c5, c6⟩ := hx.out.2.1.cells
  generalize vR b = y at *
  cases h1 : vR a
  · rw [h1] at R1
    clear h1
    go_enter Try.func33, Try.ntmps33
    go_wp2_with fail
    refine (R1.out _).mono ?_; rintro e w1 ⟨rfl, b1⟩
    have x1 := Lib.hid (hx.out.after b1)
    clear hx b1 c0 c1 c2 c3 c4 c5 c6
    go_wp2_with fail
    go_ret
    exact ⟨rfl, x1.out.1⟩
  · rw [h1] at R1
    clear h1
    go_enter Try.func33, Try.ntmps33
    go_wp2_with fail
    refine (R1.out _).mono ?_; rintro e w1 ⟨rfl, b1⟩
    have x1 := Lib.hid (hx.out.after b1)
    clear hx b1 c0 c1 c2 c3 c4 c5 c6
    obtain ⟨c0, c1, c2, c3, c4, c5, c6⟩ := x1.out.2.2.cells
    go_wp2_with fail
    refine (R2.out _).mono ?_; rintro e w2 ⟨rfl, b2⟩
    have x2 := Lib.hid (x1.out.after b2)
    clear x1 b2 c0 c1 c2 c3 c4 c5 c6
    go_wp2_with fail
    go_ret
    exact ⟨rfl, x2.out.1⟩
set_option maxRecDepth 100000 in
set_option maxHeartbeats 8000000 in
theorem vp_bothNumbers (a b : Vl) (w : World) : Calls Try.prog 34 #[vV a, vV b] w (Gives (.bool (a.k == 1 && b.k == 1)) w) := by
  have hx := Lib.hid (VDuo.new a b w)
  have c0 := hx.out.2.1.cells.1
  have d0 := hx.out.2.2.cells.1
  cases h1 : (a.k == 1) <;> cases h2 : (b.k == 1) <;>
  (go_enter Try.func34, Try.ntmps34
   go_wp2_with fail
   go_ret
   exact ⟨rfl, hx.out.1⟩)

end Go.Proofs.Ytgjcbcpedoihaaa

namespace Go.Proofs.Ytgjcbcpedoihaaa
open Go Go.RowKit
set_option maxRecDepth 100000
set_option linter.unusedVariables false
set_option linter.unusedSimpArgs false

/-- Two Vals, compared. -/
theorem val_eql (a b : Vl) (u : World) : (binOp .eql 30 (vV a) (vV b)).run Try.prog u = .ok (.bool (vEq a b)) u := by
  go_simp
  exact (vEq_ite a b _ _).trans (by cases vEq a b <;> rfl)
/-- Two boxes of Vals, and what is besides. -/
def VTwo (a b : Vl) (P : World → Prop) (w u : World) : Prop := Below w.heap.size w u ∧ vB w.heap.size a u ∧ vB (w.heap.size + 1) b u ∧ P u
theorem VTwo.after {a b : Vl} {g : Nat} {cs : Array Value} {t : TypeId} {w u u' : World} (h : VTwo a b (Blk g cs t) w u) (k : Below u.heap.size u u') : VTwo a b (Blk g cs t) w u' := ⟨below_next' h.1 k, h.2.1.after k, h.2.2.1.after k, h.2.2.2.after k⟩
theorem VTwo.new (a b : Vl) (cs : Array Value) (t : TypeId) (w : World) : VTwo a b (Blk (w.heap.size + 2) cs t) w (((w.alloc (.cells (vCells a) 30)).alloc (.cells (vCells b) 30)).alloc (.cells cs t)) :=
  ⟨below_alloc (below_alloc (below_alloc (Below.refl _ _) _) _) _, ((vB.new w a rfl).alloc _).alloc _, (vB.new _ b (by simp)).alloc _, Blk.new _ cs t (by simp)⟩
theorem vj_free {g : Nat} {cs : Array Value} {t : TypeId} {w : World} (h : Blk g cs t w) : w.frozen? ⟨g, 0, none⟩ = false ∧ w.frozen? ⟨g, 1, none⟩ = false ∧ w.frozen? ⟨g, 2, none⟩ = false ∧ w.frozen? ⟨g, 3, none⟩ = false ∧ w.frozen? ⟨g, 4, none⟩ = false ∧ w.frozen? ⟨g, 5, none⟩ = false ∧ w.frozen? ⟨g, 6, none⟩ = false :=
  ⟨Blk.free h 0, Blk.free h 1, Blk.free h 2, Blk.free h 3, Blk.free h 4, Blk.free h 5, Blk.free h 6⟩
set_option maxRecDepth 100000 in
set_option maxHeartbeats 8000000 in
theorem vp_within (a b : Vl) (w : World) (ha : vIn a) (hb : vIn b) : Calls Try.prog 20 #[vV a, vV b] w (Gives (.bool (vW a b)) w) := by
  have R := Lib.hid fun w => vp_bothRight a b w ha hb
  have NN := Lib.hid fun w => vp_bothNumbers a b w
  have FW := Lib.hid fun w => fp_within a.n b.n w ha.2.1 hb.2.1
  have hx := Lib.hid (VDuo.new a b w)
  obtain ⟨c0, c1, c2, c3, c4, c5, c6⟩ := hx.out.2.1.cells
  obtain ⟨d0, d1, d2, d3, d4, d5, d6⟩ := hx.out.2.2.cells
  unfold vW
  generalize fWi a.n b.n = q at *
  generalize (vR a && vR b) = r at *
  generalize (a.k == 1 && b.k == 1) = nn at *
  cases r
  · skip
    go_enter Try.func20, Try.ntmps20
    go_wp2_with fail
    refine (R.out _).mono ?_; rintro e w1 ⟨rfl, b1⟩
    have x1 := Lib.hid (hx.out.after b1)
    clear hx b1 c0 c1 c2 c3 c4 c5 c6 d0 d1 d2 d3 d4 d5 d6
    obtain ⟨c0, c1, c2, c3, c4, c5, c6⟩ := x1.out.2.1.cells
    obtain ⟨d0, d1, d2, d3, d4, d5, d6⟩ := x1.out.2.2.cells
    go_wp2_with fail
    go_ret
    exact ⟨rfl, x1.out.1⟩
  cases h0 : (b.k == 0)
  rotate_left
  · skip
    go_enter Try.func20, Try.ntmps20
    go_wp2_with fail
    refine (R.out _).mono ?_; rintro e w1 ⟨rfl, b1⟩
    have x1 := Lib.hid (hx.out.after b1)
    clear hx b1 c0 c1 c2 c3 c4 c5 c6 d0 d1 d2 d3 d4 d5 d6
    obtain ⟨c0, c1, c2, c3, c4, c5, c6⟩ := x1.out.2.1.cells
    obtain ⟨d0, d1, d2, d3, d4, d5, d6⟩ := x1.out.2.2.cells
    go_wp2_with fail
    go_ret
    exact ⟨rfl, x1.out.1⟩
  cases he : vEq a b
  rotate_left
  · skip
    have EQ : ∀ u, (binOp .eql 30 (vV a) (vV b)).run Try.prog u = .ok (.bool true) u := fun u => by rw [val_eql, he]
    clear he
    go_enter Try.func20, Try.ntmps20
    go_wp2_with fail
    refine (R.out _).mono ?_; rintro e w1 ⟨rfl, b1⟩
    have x1 := Lib.hid (hx.out.after b1)
    clear hx b1 c0 c1 c2 c3 c4 c5 c6 d0 d1 d2 d3 d4 d5 d6
    obtain ⟨c0, c1, c2, c3, c4, c5, c6⟩ := x1.out.2.1.cells
    obtain ⟨d0, d1, d2, d3, d4, d5, d6⟩ := x1.out.2.2.cells
    go_wp2_with fail
    go_ret
    exact ⟨rfl, x1.out.1⟩
  cases nn
  · skip
    have EQ : ∀ u, (binOp .eql 30 (vV a) (vV b)).run Try.prog u = .ok (.bool false) u := fun u => by rw [val_eql, he]
    clear he
    go_enter Try.func20, Try.ntmps20
    go_wp2_with fail
    refine (R.out _).mono ?_; rintro e w1 ⟨rfl, b1⟩
    have x1 := Lib.hid (hx.out.after b1)
    clear hx b1 c0 c1 c2 c3 c4 c5 c6 d0 d1 d2 d3 d4 d5 d6
    obtain ⟨c0, c1, c2, c3, c4, c5, c6⟩ := x1.out.2.1.cells
    obtain ⟨d0, d1, d2, d3, d4, d5, d6⟩ := x1.out.2.2.cells
    go_wp2_with fail
    refine (NN.out _).mono ?_; rintro e w2 ⟨rfl, b2⟩
    have x2 := Lib.hid (x1.out.after b2)
    clear x1 b2 c0 c1 c2 c3 c4 c5 c6 d0 d1 d2 d3 d4 d5 d6
    obtain ⟨c0, c1, c2, c3, c4, c5, c6⟩ := x2.out.2.1.cells
    obtain ⟨d0, d1, d2, d3, d4, d5, d6⟩ := x2.out.2.2.cells
    go_wp2_with fail
    go_ret
    exact ⟨rfl, x2.out.1⟩
  · skip
    have EQ : ∀ u, (binOp .eql 30 (vV a) (vV b)).run Try.prog u = .ok (.bool false) u := fun u => by rw [val_eql, he]
    clear he
    go_enter Try.func20, Try.ntmps20
    go_wp2_with fail
    refine (R.out _).mono ?_; rintro e w1 ⟨rfl, b1⟩
    have x1 := Lib.hid (hx.out.after b1)
    clear hx b1 c0 c1 c2 c3 c4 c5 c6 d0 d1 d2 d3 d4 d5 d6
    obtain ⟨c0, c1, c2, c3, c4, c5, c6⟩ := x1.out.2.1.cells
    obtain ⟨d0, d1, d2, d3, d4, d5, d6⟩ := x1.out.2.2.cells
    go_wp2_with fail
    refine (NN.out _).mono ?_; rintro e w2 ⟨rfl, b2⟩
    have x2 := Lib.hid (x1.out.after b2)
    clear x1 b2 c0 c1 c2 c3 c4 c5 c6 d0 d1 d2 d3 d4 d5 d6
    obtain ⟨c0, c1, c2, c3, c4, c5, c6⟩ := x2.out.2.1.cells
    obtain ⟨d0, d1, d2, d3, d4, d5, d6⟩ := x2.out.2.2.cells
    go_wp2_with fail
    refine (FW.out _).mono ?_; rintro e w3 ⟨rfl, b3⟩
    have x3 := Lib.hid (x2.out.after b3)
    clear x2 b3 c0 c1 c2 c3 c4 c5 c6 d0 d1 d2 d3 d4 d5 d6
    obtain ⟨c0, c1, c2, c3, c4, c5, c6⟩ := x3.out.2.1.cells
    obtain ⟨d0, d1, d2, d3, d4, d5, d6⟩ := x3.out.2.2.cells
    go_wp2_with fail
    go_ret
    exact ⟨rfl, x3.out.1⟩
set_option maxRecDepth 100000 in
set_option maxHeartbeats 8000000 in
theorem vp_join (a b : Vl) (w : World) (ha : vIn a) (hb : vIn b) : Calls Try.prog 22 #[vV a, vV b] w (Gives (vV (vJ a b)) w) := by
  have R := Lib.hid fun w => vp_bothRight a b w ha hb
  have NN := Lib.hid fun w => vp_bothNumbers a b w
  have FW := Lib.hid fun w => fp_join a.n b.n w ha.2.1 hb.2.1
  have NM := Lib.hid fun w => vp_num (fJ a.n b.n) w (fJ_in' ha.2.1 hb.2.1)
  have hx := Lib.hid (VTwo.new a b vZc 30 w)
  obtain ⟨c0, c1, c2, c3, c4, c5, c6⟩ := hx.out.2.1.cells
  obtain ⟨d0, d1, d2, d3, d4, d5, d6⟩ := hx.out.2.2.1.cells
  unfold vJ
  generalize vNum (fJ a.n b.n) = nj at *
  generalize fJ a.n b.n = q at *
  generalize (vR a && vR b) = r at *
  generalize (a.k == 1 && b.k == 1) = nn at *
  cases r
  · rw [if_neg Bool.false_ne_true]
    go_enter Try.func22, Try.ntmps22
    go_wp2_with fail
    refine (R.out _).mono ?_; rintro e w1 ⟨rfl, b1⟩
    have x1 := Lib.hid (hx.out.after b1)
    clear hx b1 c0 c1 c2 c3 c4 c5 c6 d0 d1 d2 d3 d4 d5 d6
    obtain ⟨c0, c1, c2, c3, c4, c5, c6⟩ := x1.out.2.1.cells
    obtain ⟨d0, d1, d2, d3, d4, d5, d6⟩ := x1.out.2.2.1.cells
    obtain ⟨y0, y1, y2, y3, y4, y5, y6⟩ := Blk.seven x1.out.2.2.2
    obtain ⟨f0, f1, f2, f3, f4, f5, f6⟩ := vj_free x1.out.2.2.2
    have BB := Lib.hid fun a b c d e f g => below_vals (k := w.heap.size + 2) x1.out.1 (by omega) a b c d e f g
    go_wp2_with fail
    exact bodyPost_ret (v := vV vZ) (by simp [results, Try.results22, go_sem, y0, y1, y2, y3, y4, y5, y6, fZ, vZ]) rfl ⟨rfl, BB.out _ _ _ _ _ _ _⟩
  rw [if_pos rfl]
  cases nn
  rotate_left
  · rw [if_pos rfl]
    go_enter Try.func22, Try.ntmps22
    go_wp2_with fail
    refine (R.out _).mono ?_; rintro e w1 ⟨rfl, b1⟩
    have x1 := Lib.hid (hx.out.after b1)
    clear hx b1 c0 c1 c2 c3 c4 c5 c6 d0 d1 d2 d3 d4 d5 d6
    obtain ⟨c0, c1, c2, c3, c4, c5, c6⟩ := x1.out.2.1.cells
    obtain ⟨d0, d1, d2, d3, d4, d5, d6⟩ := x1.out.2.2.1.cells
    go_wp2_with fail
    refine (NN.out _).mono ?_; rintro e w2 ⟨rfl, b2⟩
    have x2 := Lib.hid (x1.out.after b2)
    clear x1 b2 c0 c1 c2 c3 c4 c5 c6 d0 d1 d2 d3 d4 d5 d6
    obtain ⟨c0, c1, c2, c3, c4, c5, c6⟩ := x2.out.2.1.cells
    obtain ⟨d0, d1, d2, d3, d4, d5, d6⟩ := x2.out.2.2.1.cells
    go_wp2_with fail
    refine (FW.out _).mono ?_; rintro e w3 ⟨rfl, b3⟩
    have x3 := Lib.hid (x2.out.after b3)
    clear x2 b3 c0 c1 c2 c3 c4 c5 c6 d0 d1 d2 d3 d4 d5 d6
    obtain ⟨c0, c1, c2, c3, c4, c5, c6⟩ := x3.out.2.1.cells
    obtain ⟨d0, d1, d2, d3, d4, d5, d6⟩ := x3.out.2.2.1.cells
    go_wp2_with fail
    refine (NM.out _).mono ?_; rintro e w4 ⟨rfl, b4⟩
    have x4 := Lib.hid (x3.out.after b4)
    clear x3 b4 c0 c1 c2 c3 c4 c5 c6 d0 d1 d2 d3 d4 d5 d6
    obtain ⟨c0, c1, c2, c3, c4, c5, c6⟩ := x4.out.2.1.cells
    obtain ⟨d0, d1, d2, d3, d4, d5, d6⟩ := x4.out.2.2.1.cells
    obtain ⟨y0, y1, y2, y3, y4, y5, y6⟩ := Blk.seven x4.out.2.2.2
    obtain ⟨f0, f1, f2, f3, f4, f5, f6⟩ := vj_free x4.out.2.2.2
    have BB := Lib.hid fun a b c d e f g => below_vals (k := w.heap.size + 2) x4.out.1 (by omega) a b c d e f g
    go_wp2_with fail
    exact bodyPost_ret (v := vV nj) (by simp [results, Try.results22, go_sem, y0, y1, y2, y3, y4, y5, y6, fZ, vZ]) rfl ⟨rfl, BB.out _ _ _ _ _ _ _⟩
  rw [if_neg Bool.false_ne_true]
  cases he : vEq a b
  · rw [if_neg Bool.false_ne_true]
    have EQ : ∀ u, (binOp .eql 30 (vV a) (vV b)).run Try.prog u = .ok (.bool false) u := fun u => by rw [val_eql, he]
    clear he
    go_enter Try.func22, Try.ntmps22
    go_wp2_with fail
    refine (R.out _).mono ?_; rintro e w1 ⟨rfl, b1⟩
    have x1 := Lib.hid (hx.out.after b1)
    clear hx b1 c0 c1 c2 c3 c4 c5 c6 d0 d1 d2 d3 d4 d5 d6
    obtain ⟨c0, c1, c2, c3, c4, c5, c6⟩ := x1.out.2.1.cells
    obtain ⟨d0, d1, d2, d3, d4, d5, d6⟩ := x1.out.2.2.1.cells
    go_wp2_with fail
    refine (NN.out _).mono ?_; rintro e w2 ⟨rfl, b2⟩
    have x2 := Lib.hid (x1.out.after b2)
    clear x1 b2 c0 c1 c2 c3 c4 c5 c6 d0 d1 d2 d3 d4 d5 d6
    obtain ⟨c0, c1, c2, c3, c4, c5, c6⟩ := x2.out.2.1.cells
    obtain ⟨d0, d1, d2, d3, d4, d5, d6⟩ := x2.out.2.2.1.cells
    obtain ⟨y0, y1, y2, y3, y4, y5, y6⟩ := Blk.seven x2.out.2.2.2
    obtain ⟨f0, f1, f2, f3, f4, f5, f6⟩ := vj_free x2.out.2.2.2
    have BB := Lib.hid fun a b c d e f g => below_vals (k := w.heap.size + 2) x2.out.1 (by omega) a b c d e f g
    go_wp2_with fail
    exact bodyPost_ret (v := vV vZ) (by simp [results, Try.results22, go_sem, y0, y1, y2, y3, y4, y5, y6, fZ, vZ]) rfl ⟨rfl, BB.out _ _ _ _ _ _ _⟩
  · rw [if_pos rfl]
    have EQ : ∀ u, (binOp .eql 30 (vV a) (vV b)).run Try.prog u = .ok (.bool true) u := fun u => by rw [val_eql, he]
    clear he
    go_enter Try.func22, Try.ntmps22
    go_wp2_with fail
    refine (R.out _).mono ?_; rintro e w1 ⟨rfl, b1⟩
    have x1 := Lib.hid (hx.out.after b1)
    clear hx b1 c0 c1 c2 c3 c4 c5 c6 d0 d1 d2 d3 d4 d5 d6
    obtain ⟨c0, c1, c2, c3, c4, c5, c6⟩ := x1.out.2.1.cells
    obtain ⟨d0, d1, d2, d3, d4, d5, d6⟩ := x1.out.2.2.1.cells
    go_wp2_with fail
    refine (NN.out _).mono ?_; rintro e w2 ⟨rfl, b2⟩
    have x2 := Lib.hid (x1.out.after b2)
    clear x1 b2 c0 c1 c2 c3 c4 c5 c6 d0 d1 d2 d3 d4 d5 d6
    obtain ⟨c0, c1, c2, c3, c4, c5, c6⟩ := x2.out.2.1.cells
    obtain ⟨d0, d1, d2, d3, d4, d5, d6⟩ := x2.out.2.2.1.cells
    obtain ⟨y0, y1, y2, y3, y4, y5, y6⟩ := Blk.seven x2.out.2.2.2
    obtain ⟨f0, f1, f2, f3, f4, f5, f6⟩ := vj_free x2.out.2.2.2
    have BB := Lib.hid fun a b c d e f g => below_vals (k := w.heap.size + 2) x2.out.1 (by omega) a b c d e f g
    go_wp2_with fail
    exact bodyPost_ret (v := vV a) (by simp [results, Try.results22, go_sem, y0, y1, y2, y3, y4, y5, y6, fZ, vZ]) rfl ⟨rfl, BB.out _ _ _ _ _ _ _⟩

end Go.Proofs.Ytgjcbcpedoihaaa

namespace Go.Proofs.Ytgjcbcpedoihaaa
open Go Go.RowKit
set_option maxRecDepth 100000
set_option linter.unusedVariables false
set_option linter.unusedSimpArgs false

theorem asI_wrap (n : BitVec 64) : IntKind.i64.wrap (n.toNat : Int) = asI n := by
  have := n.isLt
  rw [IntKind.wrap_i64]; unfold asI; split <;> omega
theorem near_iff {o : Int} : near o = true ↔ -1048576 ≤ o ∧ o ≤ 1048576 := by unfold near; simp
theorem vP_right {v : Vl} (h : vP v = true) : vR v = true := by unfold vP at h; exact (Bool.and_eq_true_iff.mp h).1
/-- A Val's box, and a result's. -/
def VMv (a : Vl) (cs : Array Value) (w u : World) : Prop := Below w.heap.size w u ∧ vB w.heap.size a u ∧ Blk (w.heap.size + 1) cs 30 u
theorem VMv.new (a : Vl) (cs : Array Value) (w : World) : VMv a cs w ((w.alloc (.cells (vCells a) 30)).alloc (.cells cs 30)) :=
  ⟨below_alloc (below_alloc (Below.refl _ _) _) _, (vB.new w a rfl).alloc _, Blk.new _ cs 30 (by simp)⟩
theorem VMv.after {a : Vl} {cs : Array Value} {w u u' : World} (h : VMv a cs w u) (k : Below u.heap.size u u') : VMv a cs w u' := ⟨below_next' h.1 k, h.2.1.after k, h.2.2.after k⟩
theorem VMv.off {a : Vl} {cs : Array Value} {w u : World} (h : VMv a cs w u) (o : Int) : VMv { a with o := o } cs w (u.setCell ⟨w.heap.size, 6, none⟩ (.int .i64 o)) :=
  ⟨h.1.setCell (p := ⟨w.heap.size, 6, none⟩) (Nat.le_refl _) _, Blk.set h.2.1 6 (.int .i64 o), Blk.other h.2.2 _ (by omega)⟩
theorem VMv.size {a : Vl} {cs : Array Value} {w u : World} (h : VMv a cs w u) : w.heap.size < u.heap.size ∧ w.heap.size + 1 < u.heap.size := ⟨h.2.1.lt, Blk.lt h.2.2⟩

set_option maxRecDepth 100000 in
set_option maxHeartbeats 4000000 in
theorem vp_move (v : Vl) (n : BitVec 64) (w : World) (hv : vIn v) : Calls Try.prog 9 #[vV v, uV n] w (Gives (.tuple #[vV ((vM v n).getD vZ), .bool (vM v n).isSome]) w) := by
  have P := Lib.hid fun w => vp_pointer v w hv
  have hw := asI_wrap n
  have N1 := Lib.hid fun w => vp_near (asI n) w
  have N2 := Lib.hid fun w => vp_near (v.o + asI n) w
  have hx := Lib.hid (VMv.new v vZc w)
  obtain ⟨c0, c1, c2, c3, c4, c5, c6⟩ := hx.out.2.1.cells
  unfold vM
  cases hp : vP v
  · rw [hp] at P
    rw [Bool.false_and, if_neg Bool.false_ne_true]
    go_enter Try.func9, Try.ntmps9
    go_wp2_with fail
    refine (P.out _).mono ?_; rintro e w2 ⟨rfl, b2⟩
    have x2 := Lib.hid (hx.out.after b2)
    clear hx b2 c0 c1 c2 c3 c4 c5 c6
    obtain ⟨y0, y1, y2, y3, y4, y5, y6⟩ := Blk.seven x2.out.2.2
    obtain ⟨f0, f1, f2, f3, f4, f5, f6⟩ := vj_free x2.out.2.2
    have BB := Lib.hid fun a b c d e f g => below_vals (k := w.heap.size + 1) x2.out.1 (by omega) a b c d e f g
    go_wp2_with fail
    exact bodyPost_ret (v := .tuple #[vV vZ, .bool false]) (by simp [results, Try.results9, go_sem, y0, y1, y2, y3, y4, y5, y6, fZ, vZ]) rfl ⟨rfl, BB.out _ _ _ _ _ _ _⟩
  · rw [hp] at P
    have ho := near_iff.mp (vR_parts (vP_right hp)).2.2.2
    rw [Bool.true_and]
    cases h1 : near (asI n)
    · rw [h1] at N1
      rw [Bool.false_and, if_neg Bool.false_ne_true]
      clear hp ho h1
      generalize asI n = x at *
      go_enter Try.func9, Try.ntmps9
      go_wp2_with fail
      refine (P.out _).mono ?_; rintro e w2 ⟨rfl, b2⟩
      have x2 := Lib.hid (hx.out.after b2)
      clear hx b2 c0 c1 c2 c3 c4 c5 c6
      go_wp2_with fail
      refine (N1.out _).mono ?_; rintro e w3 ⟨rfl, b3⟩
      have x3 := Lib.hid (x2.out.after b3)
      clear x2 b3
      obtain ⟨y0, y1, y2, y3, y4, y5, y6⟩ := Blk.seven x3.out.2.2
      obtain ⟨f0, f1, f2, f3, f4, f5, f6⟩ := vj_free x3.out.2.2
      have BB := Lib.hid fun a b c d e f g => below_vals (k := w.heap.size + 1) x3.out.1 (by omega) a b c d e f g
      go_wp2_with fail
      exact bodyPost_ret (v := .tuple #[vV vZ, .bool false]) (by simp [results, Try.results9, go_sem, y0, y1, y2, y3, y4, y5, y6, fZ, vZ]) rfl ⟨rfl, BB.out _ _ _ _ _ _ _⟩
    · rw [h1] at N1
      have hb := near_iff.mp h1
      obtain ⟨ho1, ho2⟩ := ho
      obtain ⟨hb1, hb2⟩ := hb
      rw [Bool.true_and]
      clear hp h1
      generalize asI n = x at *
      cases h2 : near (v.o + x)
      · rw [h2] at N2
        rw [if_neg Bool.false_ne_true]
        go_enter Try.func9, Try.ntmps9
        go_wp2_with fail
        refine (P.out _).mono ?_; rintro e w2 ⟨rfl, b2⟩
        have x2 := Lib.hid (hx.out.after b2)
        clear hx b2 c0 c1 c2 c3 c4 c5 c6
        go_wp2_with fail
        refine (N1.out _).mono ?_; rintro e w3 ⟨rfl, b3⟩
        have x3 := Lib.hid (x2.out.after b3)
        clear x2 b3
        obtain ⟨c0, c1, c2, c3, c4, c5, c6⟩ := x3.out.2.1.cells
        have g6 := vB.free x3.out.2.1 6
        have x4 := Lib.hid (x3.out.off (v.o + x))
        go_wp2_with fail
        refine (N2.out _).mono ?_; rintro e w4 ⟨rfl, b4⟩
        have x5 := Lib.hid (x4.out.after b4)
        clear x3 x4 b4 c0 c1 c2 c3 c4 c5 c6 g6
        obtain ⟨y0, y1, y2, y3, y4, y5, y6⟩ := Blk.seven x5.out.2.2
        obtain ⟨f0, f1, f2, f3, f4, f5, f6⟩ := vj_free x5.out.2.2
        have BB := Lib.hid fun a b c d e f g => below_vals (k := w.heap.size + 1) x5.out.1 (by omega) a b c d e f g
        go_wp2_with fail
        exact bodyPost_ret (v := .tuple #[vV vZ, .bool false]) (by simp [results, Try.results9, go_sem, y0, y1, y2, y3, y4, y5, y6, fZ, vZ]) rfl ⟨rfl, BB.out _ _ _ _ _ _ _⟩
      · rw [h2] at N2
        rw [if_pos rfl]
        go_enter Try.func9, Try.ntmps9
        go_wp2_with fail
        refine (P.out _).mono ?_; rintro e w2 ⟨rfl, b2⟩
        have x2 := Lib.hid (hx.out.after b2)
        clear hx b2 c0 c1 c2 c3 c4 c5 c6
        go_wp2_with fail
        refine (N1.out _).mono ?_; rintro e w3 ⟨rfl, b3⟩
        have x3 := Lib.hid (x2.out.after b3)
        clear x2 b3
        obtain ⟨c0, c1, c2, c3, c4, c5, c6⟩ := x3.out.2.1.cells
        have g6 := vB.free x3.out.2.1 6
        have x4 := Lib.hid (x3.out.off (v.o + x))
        go_wp2_with fail
        refine (N2.out _).mono ?_; rintro e w4 ⟨rfl, b4⟩
        have x5 := Lib.hid (x4.out.after b4)
        clear x3 x4 b4 c0 c1 c2 c3 c4 c5 c6 g6
        obtain ⟨c0, c1, c2, c3, c4, c5, c6⟩ := x5.out.2.1.cells
        obtain ⟨y0, y1, y2, y3, y4, y5, y6⟩ := Blk.seven x5.out.2.2
        obtain ⟨f0, f1, f2, f3, f4, f5, f6⟩ := vj_free x5.out.2.2
        have BB := Lib.hid fun a b c d e f g => below_vals (k := w.heap.size + 1) x5.out.1 (by omega) a b c d e f g
        go_wp2_with fail
        exact bodyPost_ret (v := .tuple #[vV { v with o := v.o + x }, .bool true]) (by simp [results, Try.results9, go_sem, y0, y1, y2, y3, y4, y5, y6]) rfl ⟨rfl, BB.out _ _ _ _ _ _ _⟩

end Go.Proofs.Ytgjcbcpedoihaaa
