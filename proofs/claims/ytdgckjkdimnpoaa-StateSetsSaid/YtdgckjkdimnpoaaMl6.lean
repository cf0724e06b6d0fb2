/-
  Texts, one behind the other: Val3, Val5, Val6, Val7, Vr1, Vr2, Vr3, ValOpen, StUse, StPlain.
  Conditions: those that each theorem states.
-/
import Derived.Test.YtdgckjkdimnpoaaMl5
import Derived.Deep.RegionHeld
import Derived.Deep.RegionHeld3
import Derived.Deep.DeepCutAuto
import Derived.WalkKit
import Derived.ProofKit
import Derived.OpenShut
import Derived.ChangeOld
import Derived.Below
import Derived.Carry
import Derived.Test.YtdgckjkdimnpoaaMl4
import Derived.Test.YtdgckjkdimnpoaaRows
import Derived.Test.YtdgckjkdimnpoaaMl1
import Derived.Lib.AppendZerosOnto
import Derived.Laws.OwnMore
import Derived.Deep.AppendLies
import Derived.Lib.AppendZeros

namespace Go.Proofs.Ytdgckjkdimnpoaa
open Go Go.RowKit
set_option maxRecDepth 100000
set_option linter.unusedVariables false
set_option linter.unusedSimpArgs false

set_option maxRecDepth 100000 in
set_option maxHeartbeats 4000000 in
theorem vp_num (f : Fc) (w : World) (hf : fIn f) : Calls Try.prog 56 #[fV f] w (Gives (vV (vNum f)) w) := by
  have F := Lib.hid fun w => fp_right f w hf
  have hx := Lib.hid (((Blks.start w).new (fCells f) 28).new vZc 30)
  unfold vNum
  cases h1 : fR f
  · rw [h1] at F
    rw [if_neg Bool.false_ne_true]
    obtain ⟨c0, c1, c2, c3⟩ := fB.cells (hx.out.get (g := w.heap.size) (cs := fCells f) (t := 28) (by simp))
    go_enter Try.func56, Try.ntmps56
    go_wp2_with fail
    refine (F.out _).mono ?_; rintro e w1 ⟨rfl, b1⟩
    have x1 := hx.out.after b1
    clear hx b1 c0 c1 c2 c3
    have y := x1.get (g := w.heap.size + 1) (cs := vZc) (t := 30) (by simp)
    obtain ⟨y0, y1, y2, y3, y4, y5, y6⟩ := Blk.seven y
    have fr := Lib.hid fun k => Blk.free y k
    have f0 := fr.out 0
    have f1 := fr.out 1
    have f2 := fr.out 2
    have f3 := fr.out 3
    have f4 := fr.out 4
    have f5 := fr.out 5
    have f6 := fr.out 6
    have BB := Lib.hid fun a b c d e f g => below_vals (k := w.heap.size + 1) x1.1 (by omega) a b c d e f g
    go_wp2_with fail
    exact bodyPost_ret (v := vV vZ) (by simp [results, Try.results56, go_sem, y0, y1, y2, y3, y4, y5, y6, fZ, vZ]) rfl ⟨rfl, BB.out _ _ _ _ _ _ _⟩
  · rw [h1] at F
    rw [if_pos rfl]
    obtain ⟨c0, c1, c2, c3⟩ := fB.cells (hx.out.get (g := w.heap.size) (cs := fCells f) (t := 28) (by simp))
    go_enter Try.func56, Try.ntmps56
    go_wp2_with fail
    refine (F.out _).mono ?_; rintro e w1 ⟨rfl, b1⟩
    have x1 := hx.out.after b1
    clear hx b1 c0 c1 c2 c3
    have y := x1.get (g := w.heap.size + 1) (cs := vZc) (t := 30) (by simp)
    obtain ⟨c0, c1, c2, c3⟩ := fB.cells (x1.get (g := w.heap.size) (cs := fCells f) (t := 28) (by simp))
    obtain ⟨y0, y1, y2, y3, y4, y5, y6⟩ := Blk.seven y
    have fr := Lib.hid fun k => Blk.free y k
    have f0 := fr.out 0
    have f1 := fr.out 1
    have f2 := fr.out 2
    have f3 := fr.out 3
    have f4 := fr.out 4
    have f5 := fr.out 5
    have f6 := fr.out 6
    have BB := Lib.hid fun a b c d e f g => below_vals (k := w.heap.size + 1) x1.1 (by omega) a b c d e f g
    go_wp2_with fail
    exact bodyPost_ret (v := vV ⟨1, f, 0, 0⟩) (by simp [results, Try.results56, go_sem, y0, y1, y2, y3, y4, y5, y6]) rfl ⟨rfl, BB.out _ _ _ _ _ _ _⟩

end Go.Proofs.Ytdgckjkdimnpoaa

namespace Go.Proofs.Ytdgckjkdimnpoaa
open Go Go.RowKit
set_option maxRecDepth 100000
set_option linter.unusedVariables false
set_option linter.unusedSimpArgs false

theorem vR_parts {v : Vl} (h : vR v = true) : v = vSaid v ∧ fR v.n = true ∧ (0 ≤ v.i ∧ v.i < 8) ∧ near v.o = true := by
  unfold vR at h
  simp only [Bool.and_eq_true, decide_eq_true_eq] at h
  exact ⟨vEq_iff.mp h.1, h.2.1, ⟨h.2.2.1, h.2.2.2.1⟩, h.2.2.2.2⟩
/-- Two boxes of Vals. -/
def VDuo (a b : Vl) (w u : World) : Prop := Below w.heap.size w u ∧ vB w.heap.size a u ∧ vB (w.heap.size + 1) b u
theorem VDuo.new (a b : Vl) (w : World) : VDuo a b w ((w.alloc (.cells (vCells a) 30)).alloc (.cells (vCells b) 30)) :=
  ⟨below_alloc (below_alloc (Below.refl _ _) _) _, (vB.new w a rfl).alloc _, vB.new _ b (by simp)⟩
theorem VDuo.after {a b : Vl} {w u u' : World} (h : VDuo a b w u) (k : Below u.heap.size u u') : VDuo a b w u' := ⟨below_next' h.1 k, h.2.1.after k, h.2.2.after k⟩
theorem VDuo.alloc {a b : Vl} {w u : World} (h : VDuo a b w u) (o : Obj) : VDuo a b w (u.alloc o) := h.after (below_alloc (Below.refl _ _) o)
set_option maxRecDepth 100000 in
set_option maxHeartbeats 8000000 in
theorem vp_bothRight (a b : Vl) (w : World) (ha : vIn a) (hb : vIn b) : Calls Try.prog 50 #[vV a, vV b] w (Gives (.bool (vR a && vR b)) w) := by
  have R1 := Lib.hid fun w => vp_right a w ha
  have R2 := Lib.hid fun w => vp_right b w hb
  have hx := Lib.hid (VDuo.new a b w)
  obtain ⟨c0, c1, c2, c3, c4, c5, c6⟩ := hx.out.2.1.cells
  generalize vR b = y at *
  cases h1 : vR a
  · rw [h1] at R1
    clear h1
    go_enter Try.func50, Try.ntmps50
    go_wp2_with fail
    refine (R1.out _).mono ?_; rintro e w1 ⟨rfl, b1⟩
    have x1 := Lib.hid (hx.out.after b1)
    clear hx b1 c0 c1 c2 c3 c4 c5 c6
    go_wp2_with fail
    go_ret
    exact ⟨rfl, x1.out.1⟩
  · rw [h1] at R1
    clear h1
    go_enter Try.func50, Try.ntmps50
    go_wp2_with fail
    refine (R1.out _).mono ?_; rintro e w1 ⟨rfl, b1⟩
    have x1 := Lib.hid (hx.out.after b1)
    clear hx b1 c0 c1 c2 c3 c4 c5 c6
    obtain ⟨c0, c1, c2, c3, c4, c5, c6⟩ := x1.out.2.2.cells
    go_wp2_with fail
    refine (R2.out _).mono ?_; rintro e w2 ⟨rfl, b2⟩
    have x2 := Lib.hid (x1.out.after b2)
    clear x1 b2 c0 c1 c2 c3 c4 c5 c6
    go_wp2_with fail
    go_ret
    exact ⟨rfl, x2.out.1⟩
set_option maxRecDepth 100000 in
set_option maxHeartbeats 8000000 in
theorem vp_bothNumbers (a b : Vl) (w : World) : Calls Try.prog 51 #[vV a, vV b] w (Gives (.bool (a.k == 1 && b.k == 1)) w) := by
  have hx := Lib.hid (VDuo.new a b w)
  have c0 := hx.out.2.1.cells.1
  have d0 := hx.out.2.2.cells.1
  cases h1 : (a.k == 1) <;> cases h2 : (b.k == 1) <;>
  (go_enter Try.func51, Try.ntmps51
   go_wp2_with fail
   go_ret
   exact ⟨rfl, hx.out.1⟩)

end Go.Proofs.Ytdgckjkdimnpoaa

namespace Go.Proofs.Ytdgckjkdimnpoaa
open Go Go.RowKit
set_option maxRecDepth 100000
set_option linter.unusedVariables false
set_option linter.unusedSimpArgs false

/-- Two Vals, compared. -/
theorem val_eql (a b : Vl) (u : World) : (binOp .eql 30 (vV a) (vV b)).run Try.prog u = .ok (.bool (vEq a b)) u := by
  go_simp
  exact (vEq_ite a b _ _).trans (by cases vEq a b <;> rfl)
/-- Two boxes of Vals, and what is besides. -/
def VTwo (a b : Vl) (P : World → Prop) (w u : World) : Prop := Below w.heap.size w u ∧ vB w.heap.size a u ∧ vB (w.heap.size + 1) b u ∧ P u
theorem VTwo.after {a b : Vl} {g : Nat} {cs : Array Value} {t : TypeId} {w u u' : World} (h : VTwo a b (Blk g cs t) w u) (k : Below u.heap.size u u') : VTwo a b (Blk g cs t) w u' := ⟨below_next' h.1 k, h.2.1.after k, h.2.2.1.after k, h.2.2.2.after k⟩
theorem VTwo.new (a b : Vl) (cs : Array Value) (t : TypeId) (w : World) : VTwo a b (Blk (w.heap.size + 2) cs t) w (((w.alloc (.cells (vCells a) 30)).alloc (.cells (vCells b) 30)).alloc (.cells cs t)) :=
  ⟨below_alloc (below_alloc (below_alloc (Below.refl _ _) _) _) _, ((vB.new w a rfl).alloc _).alloc _, (vB.new _ b (by simp)).alloc _, Blk.new _ cs t (by simp)⟩
theorem vj_free {g : Nat} {cs : Array Value} {t : TypeId} {w : World} (h : Blk g cs t w) : w.frozen? ⟨g, 0, none⟩ = false ∧ w.frozen? ⟨g, 1, none⟩ = false ∧ w.frozen? ⟨g, 2, none⟩ = false ∧ w.frozen? ⟨g, 3, none⟩ = false ∧ w.frozen? ⟨g, 4, none⟩ = false ∧ w.frozen? ⟨g, 5, none⟩ = false ∧ w.frozen? ⟨g, 6, none⟩ = false :=
  ⟨Blk.free h 0, Blk.free h 1, Blk.free h 2, Blk.free h 3, Blk.free h 4, Blk.free h 5, Blk.free h 6⟩
set_option maxRecDepth 100000 in
set_option maxHeartbeats 8000000 in
theorem vp_within (a b : Vl) (w : World) (ha : vIn a) (hb : vIn b) : Calls Try.prog 30 #[vV a, vV b] w (Gives (.bool (vW a b)) w) := by
  have R := Lib.hid fun w => vp_bothRight a b w ha hb
  have NN := Lib.hid fun w => vp_bothNumbers a b w
  have FW := Lib.hid fun w => fp_within a.n b.n w ha.2.1 hb.2.1
  have hx := Lib.hid (VDuo.new a b w)
  obtain ⟨c0, c1, c2, c3, c4, c5, c6⟩ := hx.out.2.1.cells
  obtain ⟨d0, d1, d2, d3, d4, d5, d6⟩ := hx.out.2.2.cells
  unfold vW
  generalize fWi a.n b.n = q at *
  generalize (vR a && vR b) = r at *
  generalize (a.k == 1 && b.k == 1) = nn at *
  cases r
  · skip
    go_enter Try.func30, Try.ntmps30
    go_wp2_with fail
    refine (R.out _).mono ?_; rintro e w1 ⟨rfl, b1⟩
    have x1 := Lib.hid (hx.out.after b1)
    clear hx b1 c0 c1 c2 c3 c4 c5 c6 d0 d1 d2 d3 d4 d5 d6
    obtain ⟨c0, c1, c2, c3, c4, c5, c6⟩ := x1.out.2.1.cells
    obtain ⟨d0, d1, d2, d3, d4, d5, d6⟩ := x1.out.2.2.cells
    go_wp2_with fail
    go_ret
    exact ⟨rfl, x1.out.1⟩
  cases h0 : (b.k == 0)
  rotate_left
  · skip
    go_enter Try.func30, Try.ntmps30
    go_wp2_with fail
    refine (R.out _).mono ?_; rintro e w1 ⟨rfl, b1⟩
    have x1 := Lib.hid (hx.out.after b1)
    clear hx b1 c0 c1 c2 c3 c4 c5 c6 d0 d1 d2 d3 d4 d5 d6
    obtain ⟨c0, c1, c2, c3, c4, c5, c6⟩ := x1.out.2.1.cells
    obtain ⟨d0, d1, d2, d3, d4, d5, d6⟩ := x1.out.2.2.cells
    go_wp2_with fail
    go_ret
    exact ⟨rfl, x1.out.1⟩
  cases he : vEq a b
  rotate_left
  · skip
    have EQ : ∀ u, (binOp .eql 30 (vV a) (vV b)).run Try.prog u = .ok (.bool true) u := fun u => by rw [val_eql, he]
    clear he
    go_enter Try.func30, Try.ntmps30
    go_wp2_with fail
    refine (R.out _).mono ?_; rintro e w1 ⟨rfl, b1⟩
    have x1 := Lib.hid (hx.out.after b1)
    clear hx b1 c0 c1 c2 c3 c4 c5 c6 d0 d1 d2 d3 d4 d5 d6
    obtain ⟨c0, c1, c2, c3, c4, c5, c6⟩ := x1.out.2.1.cells
    obtain ⟨d0, d1, d2, d3, d4, d5, d6⟩ := x1.out.2.2.cells
    go_wp2_with fail
    go_ret
    exact ⟨rfl, x1.out.1⟩
  cases nn
  · skip
    have EQ : ∀ u, (binOp .eql 30 (vV a) (vV b)).run Try.prog u = .ok (.bool false) u := fun u => by rw [val_eql, he]
    clear he
    go_enter Try.func30, Try.ntmps30
    go_wp2_with fail
    refine (R.out _).mono ?_; rintro e w1 ⟨rfl, b1⟩
    have x1 := Lib.hid (hx.out.after b1)
    clear hx b1 c0 c1 c2 c3 c4 c5 c6 d0 d1 d2 d3 d4 d5 d6
    obtain ⟨c0, c1, c2, c3, c4, c5, c6⟩ := x1.out.2.1.cells
    obtain ⟨d0, d1, d2, d3, d4, d5, d6⟩ := x1.out.2.2.cells
    go_wp2_with fail
    refine (NN.out _).mono ?_; rintro e w2 ⟨rfl, b2⟩
    have x2 := Lib.hid (x1.out.after b2)
    clear x1 b2 c0 c1 c2 c3 c4 c5 c6 d0 d1 d2 d3 d4 d5 d6
    obtain ⟨c0, c1, c2, c3, c4, c5, c6⟩ := x2.out.2.1.cells
    obtain ⟨d0, d1, d2, d3, d4, d5, d6⟩ := x2.out.2.2.cells
    go_wp2_with fail
    go_ret
    exact ⟨rfl, x2.out.1⟩
  · skip
    have EQ : ∀ u, (binOp .eql 30 (vV a) (vV b)).run Try.prog u = .ok (.bool false) u := fun u => by rw [val_eql, he]
    clear he
    go_enter Try.func30, Try.ntmps30
    go_wp2_with fail
    refine (R.out _).mono ?_; rintro e w1 ⟨rfl, b1⟩
    have x1 := Lib.hid (hx.out.after b1)
    clear hx b1 c0 c1 c2 c3 c4 c5 c6 d0 d1 d2 d3 d4 d5 d6
    obtain ⟨c0, c1, c2, c3, c4, c5, c6⟩ := x1.out.2.1.cells
    obtain ⟨d0, d1, d2, d3, d4, d5, d6⟩ := x1.out.2.2.cells
    go_wp2_with fail
    refine (NN.out _).mono ?_; rintro e w2 ⟨rfl, b2⟩
    have x2 := Lib.hid (x1.out.after b2)
    clear x1 b2 c0 c1 c2 c3 c4 c5 c6 d0 d1 d2 d3 d4 d5 d6
    obtain ⟨c0, c1, c2, c3, c4, c5, c6⟩ := x2.out.2.1.cells
    obtain ⟨d0, d1, d2, d3, d4, d5, d6⟩ := x2.out.2.2.cells
    go_wp2_with fail
    refine (FW.out _).mono ?_; rintro e w3 ⟨rfl, b3⟩
    have x3 := Lib.hid (x2.out.after b3)
    clear x2 b3 c0 c1 c2 c3 c4 c5 c6 d0 d1 d2 d3 d4 d5 d6
    obtain ⟨c0, c1, c2, c3, c4, c5, c6⟩ := x3.out.2.1.cells
    obtain ⟨d0, d1, d2, d3, d4, d5, d6⟩ := x3.out.2.2.cells
    go_wp2_with fail
    go_ret
    exact ⟨rfl, x3.out.1⟩
end Go.Proofs.Ytdgckjkdimnpoaa

namespace Go.Proofs.Ytdgckjkdimnpoaa
open Go Go.RowKit
set_option maxRecDepth 100000
set_option linter.unusedVariables false
set_option linter.unusedSimpArgs false

/-- A Val's box, and a result's. -/
def VMv (a : Vl) (cs : Array Value) (w u : World) : Prop := Below w.heap.size w u ∧ vB w.heap.size a u ∧ Blk (w.heap.size + 1) cs 30 u
theorem VMv.new (a : Vl) (cs : Array Value) (w : World) : VMv a cs w ((w.alloc (.cells (vCells a) 30)).alloc (.cells cs 30)) :=
  ⟨below_alloc (below_alloc (Below.refl _ _) _) _, (vB.new w a rfl).alloc _, Blk.new _ cs 30 (by simp)⟩
theorem VMv.after {a : Vl} {cs : Array Value} {w u u' : World} (h : VMv a cs w u) (k : Below u.heap.size u u') : VMv a cs w u' := ⟨below_next' h.1 k, h.2.1.after k, h.2.2.after k⟩
theorem VMv.size {a : Vl} {cs : Array Value} {w u : World} (h : VMv a cs w u) : w.heap.size < u.heap.size ∧ w.heap.size + 1 < u.heap.size := ⟨h.2.1.lt, Blk.lt h.2.2⟩

end Go.Proofs.Ytdgckjkdimnpoaa

namespace Go.Proofs.Ytdgckjkdimnpoaa
open Go Go.RowKit
set_option maxRecDepth 100000
set_option linter.unusedVariables false
set_option linter.unusedSimpArgs false

theorem vR_of {v s : Vl} (hs : vSaid v = s) : vR v = (vEq v s && (fR s.n && (decide (0 ≤ s.i) && (decide (s.i < 8) && near s.o)))) := by
  unfold vR
  rw [hs]
  cases he : vEq v s
  · rfl
  · rw [vEq_iff.mp he]
theorem fR_Z : fR fZ = true := fR_iff.mpr (fOf_fix 0#64)
theorem near_0 : near 0 = true := by decide
theorem said0 {v : Vl} (h : (v.k == 0) = true) : vSaid v = ⟨v.k, fZ, 0, 0⟩ := by
  have h' := beq_iff_eq.mp h
  unfold vSaid vZ; simp [h']
theorem said1 {v : Vl} (h : (v.k == 1) = true) : vSaid v = ⟨v.k, v.n, 0, 0⟩ := by
  have h' := beq_iff_eq.mp h
  unfold vSaid; simp [h']
theorem said2 {v : Vl} (h : (v.k == 2) = true) : vSaid v = ⟨v.k, fZ, 0, v.o⟩ := by
  have h' := beq_iff_eq.mp h
  unfold vSaid; simp [h']
theorem said3 {v : Vl} (h : (v.k == 3) = true) : vSaid v = ⟨v.k, fZ, 0, v.o⟩ := by
  have h' := beq_iff_eq.mp h
  unfold vSaid; simp [h']
theorem said4 {v : Vl} (h : (v.k == 4) = true) : vSaid v = ⟨v.k, fZ, v.i, 0⟩ := by
  have h' := beq_iff_eq.mp h
  unfold vSaid; simp [h']
theorem said6 {v : Vl} (h : (v.k == 6) = true) : vSaid v = ⟨v.k, fZ, v.i, 0⟩ := by
  have h' := beq_iff_eq.mp h
  unfold vSaid; simp [h']
theorem said5 {v : Vl} (h : (v.k == 5) = true) : vSaid v = ⟨v.k, fZ, v.i, v.o⟩ := by
  have h' := beq_iff_eq.mp h
  unfold vSaid; simp [h']
theorem vR_no {v : Vl} (h0 : (v.k == 0) = false) (h1 : (v.k == 1) = false) (h2 : (v.k == 2) = false) (h3 : (v.k == 3) = false) (h4 : (v.k == 4) = false) (h6 : (v.k == 6) = false) (h5 : (v.k == 5) = false) : vR v = false := by
  have hs : vSaid v = vZ := by
    unfold vSaid
    simp only [beq_eq_false_iff_ne] at *
    simp [h1, h2, h3, h4, h5, h6]
  rw [vR_of hs]
  have : vEq v vZ = false := by
    cases he : vEq v vZ
    · rfl
    · rw [vEq_iff.mp he] at h0; exact absurd h0 (by decide)
  rw [this]; rfl
theorem val_eqlB (a b : Vl) (B : Value) (e : Bool) (hB : B = vV b) (he : vEq a b = e) (u : World) : (binOp .eql 30 (vV a) B).run Try.prog u = .ok (.bool e) u := by rw [hB, val_eql, he]
set_option maxRecDepth 100000 in
set_option maxHeartbeats 8000000 in
theorem rv_right (v : Vl) (w : World) (hv : vIn v) : Calls Try.prog 26 #[vV v] w (Gives (.bool (vR v)) w) := by
  have F := Lib.hid fun w => rf_right v.n w hv.2.1
  have hx := Lib.hid (VMv.new v #[.int .u8 v.k, .int .u64 0, .int .u64 0, .int .u64 0, .int .u64 0, .int .i64 0, .int .i64 0] w)
  obtain ⟨c0, c1, c2, c3, c4, c5, c6⟩ := vB.cells (VMv.new v vZc w).2.1
  generalize hR : vR v = R at *
  replace hR := Lib.hid hR
  go_enter Try.func26, Try.ntmps26
  go_upto_region 2 with fail
  clear c0 c1 c2 c3 c4 c5 c6
  generalize ((w.alloc (.cells (vCells v) 30)).alloc (.cells #[.int .u8 v.k, .int .u64 0, .int .u64 0, .int .u64 0, .int .u64 0, .int .i64 0, .int .i64 0] 30)) = w2 at *
  go_cut [4] (fun s wx => s = .bool (decide (0 ≤ v.i) && decide (v.i < 8)) ∧ Hid (VMv v #[.int .u8 v.k, .int .u64 0, .int .u64 0, .int .u64 0, .int .u64 0, .int .i64 0, .int .i64 0] w wx))
  case first =>
    obtain ⟨c0, c1, c2, c3, c4, c5, c6⟩ := hx.out.2.1.cells
    by_cases i1 : 0 ≤ v.i
    · by_cases i2 : v.i < 8
      · go_wp2_with fail
        go_meet
        exact ⟨by rw [decide_eq_true i1, decide_eq_true i2]; rfl, hx⟩
      · have i2' : 8 ≤ v.i := by omega
        go_wp2_with fail
        go_meet
        exact ⟨by rw [decide_eq_true i1, decide_eq_false (by omega)]; rfl, hx⟩
    · have i1' : v.i < 0 := by omega
      go_wp2_with fail
      go_meet
      exact ⟨by rw [decide_eq_false (by omega)]; rfl, hx⟩
  case rest =>
    obtain ⟨rfl, X⟩ := hcut
    clear hx
    generalize hqi : (decide (0 ≤ v.i) && decide (v.i < 8)) = qi at *
    replace hqi := Lib.hid hqi
    go_upto_region 3 with fail
    go_cut [5] (fun s wx => s = .bool (near v.o) ∧ Hid (VMv v #[.int .u8 v.k, .int .u64 0, .int .u64 0, .int .u64 0, .int .u64 0, .int .i64 0, .int .i64 0] w wx))
    case first =>
      obtain ⟨c0, c1, c2, c3, c4, c5, c6⟩ := X.out.2.1.cells
      by_cases i1 : -1048576 ≤ v.o
      · by_cases i2 : v.o ≤ 1048576
        · go_wp2_with fail
          go_meet
          exact ⟨by unfold near; rw [decide_eq_true i1, decide_eq_true i2]; rfl, X⟩
        · have i2' : 1048576 < v.o := by omega
          go_wp2_with fail
          go_meet
          exact ⟨by unfold near; rw [decide_eq_true i1, decide_eq_false (by omega)]; rfl, X⟩
      · have i1' : v.o < -1048576 := by omega
        go_wp2_with fail
        go_meet
        exact ⟨by unfold near; rw [decide_eq_false (by omega)]; rfl, X⟩
    case rest =>
      obtain ⟨rfl, Y⟩ := hcut
      clear X
      generalize hqo : near v.o = qo at *
      replace hqo := Lib.hid hqo
      obtain ⟨c0, c1, c2, c3, c4, c5, c6⟩ := Y.out.2.1.cells
      obtain ⟨y0, y1, y2, y3, y4, y5, y6⟩ := Blk.seven Y.out.2.2
      obtain ⟨f0, f1, f2, f3, f4, f5, f6⟩ := vj_free Y.out.2.2
      have BY := Lib.hid Y.out.1
      cases h0 : (v.k == 0)
      rotate_left
      · have hS := vR_of (said0 h0)
        generalize he : vEq v ⟨v.k, fZ, 0, 0⟩ = e at *
        have EQ : ∀ u, (binOp .eql 30 (vV v) (.agg #[.int .u8 v.k, .int .u64 0, .int .u64 0, .int .u64 0, .int .u64 0, .int .i64 0, .int .i64 0])).run Try.prog u = .ok (.bool e) u := val_eqlB v ⟨v.k, fZ, 0, 0⟩ _ e rfl he
        have hR2 : Hid (R = (e && true)) := Lib.hid (by rw [← hR.out, hS]; simp [fR_Z, near_0, Bool.and_assoc, ← hqi.out, ← hqo.out])
        clear hS he
        cases e
        · have hR3 : Hid (R = false) := Lib.hid (by rw [hR2.out]; rfl)
          clear hR2
          go_wp2_with fail
          go_ret
          exact ⟨end_bool hR3.out.symm, BY.out⟩
        · have hR3 : Hid (R = true) := Lib.hid (by rw [hR2.out]; rfl)
          clear hR2
          go_wp2_with fail
          go_ret
          exact ⟨end_bool hR3.out.symm, BY.out⟩
      cases h1 : (v.k == 1)
      rotate_left
      · have hS := vR_of (said1 h1)
        generalize he : vEq v ⟨v.k, v.n, 0, 0⟩ = e at *
        have EQ : ∀ u, (binOp .eql 30 (vV v) (.agg #[.int .u8 v.k, uV v.n.1.1, uV v.n.1.2, .int .u64 v.n.2.1, .int .u64 v.n.2.2, .int .i64 0, .int .i64 0])).run Try.prog u = .ok (.bool e) u := val_eqlB v ⟨v.k, v.n, 0, 0⟩ _ e rfl he
        have hR2 : Hid (R = (e && fR v.n)) := Lib.hid (by rw [← hR.out, hS]; simp [fR_Z, near_0, Bool.and_assoc, ← hqi.out, ← hqo.out])
        clear hS he
        cases e
        · have hR3 : Hid (R = false) := Lib.hid (by rw [hR2.out]; rfl)
          clear hR2
          go_wp2_with fail
          go_ret
          exact ⟨end_bool hR3.out.symm, ((((BY.out.setCell (p := ⟨w.heap.size + 1, 1, none⟩) (Nat.le_succ _) _).setCell (p := ⟨w.heap.size + 1, 2, none⟩) (Nat.le_succ _) _).setCell (p := ⟨w.heap.size + 1, 3, none⟩) (Nat.le_succ _) _).setCell (p := ⟨w.heap.size + 1, 4, none⟩) (Nat.le_succ _) _)⟩
        · have hR3 : Hid (R = fR v.n) := Lib.hid (by rw [hR2.out]; rfl)
          clear hR2
          generalize fR v.n = r at *
          go_wp2_with fail
          refine (F.out _).mono ?_; rintro e w3 ⟨rfl, b3⟩
          have B3 := Lib.hid (below_next' ((((BY.out.setCell (p := ⟨w.heap.size + 1, 1, none⟩) (Nat.le_succ _) _).setCell (p := ⟨w.heap.size + 1, 2, none⟩) (Nat.le_succ _) _).setCell (p := ⟨w.heap.size + 1, 3, none⟩) (Nat.le_succ _) _).setCell (p := ⟨w.heap.size + 1, 4, none⟩) (Nat.le_succ _) _) b3)
          clear b3 c0 c1 c2 c3 c4 c5 c6 y0 y1 y2 y3 y4 y5 y6
          go_wp2_with fail
          go_ret
          exact ⟨end_bool hR3.out.symm, B3.out⟩
      cases h2 : (v.k == 2)
      rotate_left
      · have hS := vR_of (said2 h2)
        generalize he : vEq v ⟨v.k, fZ, 0, v.o⟩ = e at *
        have EQ : ∀ u, (binOp .eql 30 (vV v) (.agg #[.int .u8 v.k, .int .u64 0, .int .u64 0, .int .u64 0, .int .u64 0, .int .i64 0, .int .i64 v.o])).run Try.prog u = .ok (.bool e) u := val_eqlB v ⟨v.k, fZ, 0, v.o⟩ _ e rfl he
        have hR2 : Hid (R = (e && qo)) := Lib.hid (by rw [← hR.out, hS]; simp [fR_Z, near_0, Bool.and_assoc, ← hqi.out, ← hqo.out])
        clear hS he
        cases e
        · have hR3 : Hid (R = false) := Lib.hid (by rw [hR2.out]; rfl)
          clear hR2
          go_wp2_with fail
          go_ret
          exact ⟨end_bool hR3.out.symm, (BY.out.setCell (p := ⟨w.heap.size + 1, 6, none⟩) (Nat.le_succ _) _)⟩
        · have hR3 : Hid (R = qo) := Lib.hid (by rw [hR2.out]; rfl)
          clear hR2
          go_wp2_with fail
          go_ret
          exact ⟨end_bool hR3.out.symm, (BY.out.setCell (p := ⟨w.heap.size + 1, 6, none⟩) (Nat.le_succ _) _)⟩
      cases h3 : (v.k == 3)
      rotate_left
      · have hS := vR_of (said3 h3)
        generalize he : vEq v ⟨v.k, fZ, 0, v.o⟩ = e at *
        have EQ : ∀ u, (binOp .eql 30 (vV v) (.agg #[.int .u8 v.k, .int .u64 0, .int .u64 0, .int .u64 0, .int .u64 0, .int .i64 0, .int .i64 v.o])).run Try.prog u = .ok (.bool e) u := val_eqlB v ⟨v.k, fZ, 0, v.o⟩ _ e rfl he
        have hR2 : Hid (R = (e && qo)) := Lib.hid (by rw [← hR.out, hS]; simp [fR_Z, near_0, Bool.and_assoc, ← hqi.out, ← hqo.out])
        clear hS he
        cases e
        · have hR3 : Hid (R = false) := Lib.hid (by rw [hR2.out]; rfl)
          clear hR2
          go_wp2_with fail
          go_ret
          exact ⟨end_bool hR3.out.symm, (BY.out.setCell (p := ⟨w.heap.size + 1, 6, none⟩) (Nat.le_succ _) _)⟩
        · have hR3 : Hid (R = qo) := Lib.hid (by rw [hR2.out]; rfl)
          clear hR2
          go_wp2_with fail
          go_ret
          exact ⟨end_bool hR3.out.symm, (BY.out.setCell (p := ⟨w.heap.size + 1, 6, none⟩) (Nat.le_succ _) _)⟩
      cases h4 : (v.k == 4)
      rotate_left
      · have hS := vR_of (said4 h4)
        generalize he : vEq v ⟨v.k, fZ, v.i, 0⟩ = e at *
        have EQ : ∀ u, (binOp .eql 30 (vV v) (.agg #[.int .u8 v.k, .int .u64 0, .int .u64 0, .int .u64 0, .int .u64 0, .int .i64 v.i, .int .i64 0])).run Try.prog u = .ok (.bool e) u := val_eqlB v ⟨v.k, fZ, v.i, 0⟩ _ e rfl he
        have hR2 : Hid (R = (e && qi)) := Lib.hid (by rw [← hR.out, hS]; simp [fR_Z, near_0, Bool.and_assoc, ← hqi.out, ← hqo.out])
        clear hS he
        cases e
        · have hR3 : Hid (R = false) := Lib.hid (by rw [hR2.out]; rfl)
          clear hR2
          go_wp2_with fail
          go_ret
          exact ⟨end_bool hR3.out.symm, (BY.out.setCell (p := ⟨w.heap.size + 1, 5, none⟩) (Nat.le_succ _) _)⟩
        · have hR3 : Hid (R = qi) := Lib.hid (by rw [hR2.out]; rfl)
          clear hR2
          go_wp2_with fail
          go_ret
          exact ⟨end_bool hR3.out.symm, (BY.out.setCell (p := ⟨w.heap.size + 1, 5, none⟩) (Nat.le_succ _) _)⟩
      cases h6 : (v.k == 6)
      rotate_left
      · have hS := vR_of (said6 h6)
        generalize he : vEq v ⟨v.k, fZ, v.i, 0⟩ = e at *
        have EQ : ∀ u, (binOp .eql 30 (vV v) (.agg #[.int .u8 v.k, .int .u64 0, .int .u64 0, .int .u64 0, .int .u64 0, .int .i64 v.i, .int .i64 0])).run Try.prog u = .ok (.bool e) u := val_eqlB v ⟨v.k, fZ, v.i, 0⟩ _ e rfl he
        have hR2 : Hid (R = (e && qi)) := Lib.hid (by rw [← hR.out, hS]; simp [fR_Z, near_0, Bool.and_assoc, ← hqi.out, ← hqo.out])
        clear hS he
        cases e
        · have hR3 : Hid (R = false) := Lib.hid (by rw [hR2.out]; rfl)
          clear hR2
          go_wp2_with fail
          go_ret
          exact ⟨end_bool hR3.out.symm, (BY.out.setCell (p := ⟨w.heap.size + 1, 5, none⟩) (Nat.le_succ _) _)⟩
        · have hR3 : Hid (R = qi) := Lib.hid (by rw [hR2.out]; rfl)
          clear hR2
          go_wp2_with fail
          go_ret
          exact ⟨end_bool hR3.out.symm, (BY.out.setCell (p := ⟨w.heap.size + 1, 5, none⟩) (Nat.le_succ _) _)⟩
      cases h5 : (v.k == 5)
      rotate_left
      · have hS := vR_of (said5 h5)
        generalize he : vEq v ⟨v.k, fZ, v.i, v.o⟩ = e at *
        have EQ : ∀ u, (binOp .eql 30 (vV v) (.agg #[.int .u8 v.k, .int .u64 0, .int .u64 0, .int .u64 0, .int .u64 0, .int .i64 v.i, .int .i64 v.o])).run Try.prog u = .ok (.bool e) u := val_eqlB v ⟨v.k, fZ, v.i, v.o⟩ _ e rfl he
        have hR2 : Hid (R = (e && (qi && qo))) := Lib.hid (by rw [← hR.out, hS]; simp [fR_Z, near_0, Bool.and_assoc, ← hqi.out, ← hqo.out])
        clear hS he
        cases e
        · have hR3 : Hid (R = false) := Lib.hid (by rw [hR2.out]; rfl)
          clear hR2
          go_wp2_with fail
          go_ret
          exact ⟨end_bool hR3.out.symm, ((BY.out.setCell (p := ⟨w.heap.size + 1, 5, none⟩) (Nat.le_succ _) _).setCell (p := ⟨w.heap.size + 1, 6, none⟩) (Nat.le_succ _) _)⟩
        · have hR3 : Hid (R = (qi && qo)) := Lib.hid (by rw [hR2.out]; rfl)
          clear hR2
          cases qi
          · go_wp2_with fail
            go_ret
            exact ⟨end_bool hR3.out.symm, ((BY.out.setCell (p := ⟨w.heap.size + 1, 5, none⟩) (Nat.le_succ _) _).setCell (p := ⟨w.heap.size + 1, 6, none⟩) (Nat.le_succ _) _)⟩
          · go_wp2_with fail
            go_ret
            exact ⟨end_bool hR3.out.symm, ((BY.out.setCell (p := ⟨w.heap.size + 1, 5, none⟩) (Nat.le_succ _) _).setCell (p := ⟨w.heap.size + 1, 6, none⟩) (Nat.le_succ _) _)⟩
      have hR3 : Hid (R = false) := Lib.hid (by rw [← hR.out]; exact vR_no h0 h1 h2 h3 h4 h6 h5)
      go_wp2_with fail
      go_ret
      exact ⟨end_bool hR3.out.symm, BY.out⟩

end Go.Proofs.Ytdgckjkdimnpoaa

namespace Go.Proofs.Ytdgckjkdimnpoaa
open Go Go.RowKit
set_option maxRecDepth 100000
set_option linter.unusedVariables false
set_option linter.unusedSimpArgs false

set_option maxRecDepth 100000 in
set_option maxHeartbeats 4000000 in
theorem rv_num (f : Fc) (w : World) (hf : fIn f) : Calls Try.prog 58 #[fV f] w (Gives (vV (vNum f)) w) := by
  have F := Lib.hid fun w => rf_right f w hf
  have hx := Lib.hid (((Blks.start w).new (fCells f) 28).new vZc 30)
  unfold vNum
  cases h1 : fR f
  · rw [h1] at F
    rw [if_neg Bool.false_ne_true]
    obtain ⟨c0, c1, c2, c3⟩ := fB.cells (hx.out.get (g := w.heap.size) (cs := fCells f) (t := 28) (by simp))
    go_enter Try.func58, Try.ntmps58
    go_wp2_with fail
    refine (F.out _).mono ?_; rintro e w1 ⟨rfl, b1⟩
    have x1 := hx.out.after b1
    clear hx b1 c0 c1 c2 c3
    have y := x1.get (g := w.heap.size + 1) (cs := vZc) (t := 30) (by simp)
    obtain ⟨y0, y1, y2, y3, y4, y5, y6⟩ := Blk.seven y
    have fr := Lib.hid fun k => Blk.free y k
    have f0 := fr.out 0
    have f1 := fr.out 1
    have f2 := fr.out 2
    have f3 := fr.out 3
    have f4 := fr.out 4
    have f5 := fr.out 5
    have f6 := fr.out 6
    have BB := Lib.hid fun a b c d e f g => below_vals (k := w.heap.size + 1) x1.1 (by omega) a b c d e f g
    go_wp2_with fail
    exact bodyPost_ret (v := vV vZ) (by simp [results, Try.results58, go_sem, y0, y1, y2, y3, y4, y5, y6, fZ, vZ]) rfl ⟨rfl, BB.out _ _ _ _ _ _ _⟩
  · rw [h1] at F
    rw [if_pos rfl]
    obtain ⟨c0, c1, c2, c3⟩ := fB.cells (hx.out.get (g := w.heap.size) (cs := fCells f) (t := 28) (by simp))
    go_enter Try.func58, Try.ntmps58
    go_wp2_with fail
    refine (F.out _).mono ?_; rintro e w1 ⟨rfl, b1⟩
    have x1 := hx.out.after b1
    clear hx b1 c0 c1 c2 c3
    have y := x1.get (g := w.heap.size + 1) (cs := vZc) (t := 30) (by simp)
    obtain ⟨c0, c1, c2, c3⟩ := fB.cells (x1.get (g := w.heap.size) (cs := fCells f) (t := 28) (by simp))
    obtain ⟨y0, y1, y2, y3, y4, y5, y6⟩ := Blk.seven y
    have fr := Lib.hid fun k => Blk.free y k
    have f0 := fr.out 0
    have f1 := fr.out 1
    have f2 := fr.out 2
    have f3 := fr.out 3
    have f4 := fr.out 4
    have f5 := fr.out 5
    have f6 := fr.out 6
    have BB := Lib.hid fun a b c d e f g => below_vals (k := w.heap.size + 1) x1.1 (by omega) a b c d e f g
    go_wp2_with fail
    exact bodyPost_ret (v := vV ⟨1, f, 0, 0⟩) (by simp [results, Try.results58, go_sem, y0, y1, y2, y3, y4, y5, y6]) rfl ⟨rfl, BB.out _ _ _ _ _ _ _⟩

end Go.Proofs.Ytdgckjkdimnpoaa

namespace Go.Proofs.Ytdgckjkdimnpoaa
open Go Go.RowKit
set_option maxRecDepth 100000
set_option linter.unusedVariables false
set_option linter.unusedSimpArgs false

theorem fWi_self {f : Fc} (h : fR f = true) : fWi f f = true := by
  unfold fWi
  rw [h]
  exact fS_le (of_decide_eq_true h)
theorem vW_nums {a b : Vl} (h : (a.k == 1 && b.k == 1) = true) (hr : (vR a && vR b) = true) : vW a b = fWi a.n b.n := by
  unfold vW
  rw [hr, h]
  have hb : (b.k == 0) = false := by
    have := (Bool.and_eq_true_iff.mp h).2
    rw [beq_iff_eq] at this
    rw [this]; rfl
  rw [hb, Bool.true_and, Bool.false_or, Bool.true_and]
  cases he : vEq a b
  · rfl
  · rw [vEq_iff.mp he]
    rw [fWi_self (vR_parts (Bool.and_eq_true_iff.mp hr).2).2.1]
    rfl
theorem vW_none {a b : Vl} (h : (vR a && vR b) = false) : vW a b = false := by unfold vW; rw [h]; rfl
theorem vW_else {a b : Vl} (h : (a.k == 1 && b.k == 1) = false) (hr : (vR a && vR b) = true) : vW a b = (b.k == 0 || vEq a b) := by
  unfold vW
  rw [hr, h, Bool.true_and, Bool.false_and, Bool.or_false]
set_option maxRecDepth 100000 in
set_option maxHeartbeats 8000000 in
theorem rv_within (a b : Vl) (w : World) (ha : vIn a) (hb : vIn b) : Calls Try.prog 32 #[vV a, vV b] w (Gives (.bool (vW a b)) w) := by
  have R1 := Lib.hid fun w => rv_right a w ha
  have R2 := Lib.hid fun w => rv_right b w hb
  have FW := Lib.hid fun w => rf_within a.n b.n w ha.2.1 hb.2.1
  have hx := Lib.hid (VDuo.new a b w)
  obtain ⟨c0, c1, c2, c3, c4, c5, c6⟩ := hx.out.2.1.cells
  obtain ⟨d0, d1, d2, d3, d4, d5, d6⟩ := hx.out.2.2.cells
  have HW : Hid ((vR a && vR b) = false → vW a b = false) := Lib.hid vW_none
  have HN : Hid ((vR a && vR b) = true → (a.k == 1 && b.k == 1) = true → vW a b = fWi a.n b.n) := Lib.hid fun h1 h2 => vW_nums h2 h1
  have HE : Hid ((vR a && vR b) = true → (a.k == 1 && b.k == 1) = false → vW a b = (b.k == 0 || vEq a b)) := Lib.hid fun h1 h2 => vW_else h2 h1
  generalize vW a b = R at *
  generalize fWi a.n b.n = q at *
  generalize vR a = r1 at *
  generalize vR b = r2 at *
  cases r1
  · have HR := Lib.hid (HW.out rfl)
    clear HW HN HE
    go_enter Try.func32, Try.ntmps32
    go_wp2_with fail
    refine (R1.out _).mono ?_; rintro e w1 ⟨rfl, b1⟩
    have x1 := Lib.hid (hx.out.after b1)
    clear hx b1 c0 c1 c2 c3 c4 c5 c6 d0 d1 d2 d3 d4 d5 d6
    obtain ⟨c0, c1, c2, c3, c4, c5, c6⟩ := x1.out.2.1.cells
    obtain ⟨d0, d1, d2, d3, d4, d5, d6⟩ := x1.out.2.2.cells
    go_wp2_with fail
    go_ret
    exact ⟨end_bool HR.out.symm, x1.out.1⟩
  cases r2
  · have HR := Lib.hid (HW.out rfl)
    clear HW HN HE
    go_enter Try.func32, Try.ntmps32
    go_wp2_with fail
    refine (R1.out _).mono ?_; rintro e w1 ⟨rfl, b1⟩
    have x1 := Lib.hid (hx.out.after b1)
    clear hx b1 c0 c1 c2 c3 c4 c5 c6 d0 d1 d2 d3 d4 d5 d6
    obtain ⟨c0, c1, c2, c3, c4, c5, c6⟩ := x1.out.2.1.cells
    obtain ⟨d0, d1, d2, d3, d4, d5, d6⟩ := x1.out.2.2.cells
    go_wp2_with fail
    refine (R2.out _).mono ?_; rintro e w2 ⟨rfl, b2⟩
    have x2 := Lib.hid (x1.out.after b2)
    clear x1 b2 c0 c1 c2 c3 c4 c5 c6 d0 d1 d2 d3 d4 d5 d6
    obtain ⟨c0, c1, c2, c3, c4, c5, c6⟩ := x2.out.2.1.cells
    obtain ⟨d0, d1, d2, d3, d4, d5, d6⟩ := x2.out.2.2.cells
    go_wp2_with fail
    go_ret
    exact ⟨end_bool HR.out.symm, x2.out.1⟩
  clear HW
  cases h1 : (a.k == 1)
  rotate_left
  cases h2 : (b.k == 1)
  rotate_left
  · have HR := Lib.hid (HN.out rfl (by rw [h1, h2]; rfl))
    clear HN HE
    go_enter Try.func32, Try.ntmps32
    go_wp2_with fail
    refine (R1.out _).mono ?_; rintro e w1 ⟨rfl, b1⟩
    have x1 := Lib.hid (hx.out.after b1)
    clear hx b1 c0 c1 c2 c3 c4 c5 c6 d0 d1 d2 d3 d4 d5 d6
    obtain ⟨c0, c1, c2, c3, c4, c5, c6⟩ := x1.out.2.1.cells
    obtain ⟨d0, d1, d2, d3, d4, d5, d6⟩ := x1.out.2.2.cells
    go_wp2_with fail
    refine (R2.out _).mono ?_; rintro e w2 ⟨rfl, b2⟩
    have x2 := Lib.hid (x1.out.after b2)
    clear x1 b2 c0 c1 c2 c3 c4 c5 c6 d0 d1 d2 d3 d4 d5 d6
    obtain ⟨c0, c1, c2, c3, c4, c5, c6⟩ := x2.out.2.1.cells
    obtain ⟨d0, d1, d2, d3, d4, d5, d6⟩ := x2.out.2.2.cells
    go_wp2_with fail
    refine (FW.out _).mono ?_; rintro e w3 ⟨rfl, b3⟩
    have x3 := Lib.hid (x2.out.after b3)
    clear x2 b3 c0 c1 c2 c3 c4 c5 c6 d0 d1 d2 d3 d4 d5 d6
    obtain ⟨c0, c1, c2, c3, c4, c5, c6⟩ := x3.out.2.1.cells
    obtain ⟨d0, d1, d2, d3, d4, d5, d6⟩ := x3.out.2.2.cells
    go_wp2_with fail
    go_ret
    exact ⟨end_bool HR.out.symm, x3.out.1⟩
  · have HR := Lib.hid (HE.out rfl (by rw [h1]; rfl))
    clear HN HE
    cases h0 : (b.k == 0)
    · rw [h0] at HR
      cases he : vEq a b
      · rw [he] at HR
        have EQ : ∀ u, (binOp .eql 30 (vV a) (vV b)).run Try.prog u = .ok (.bool false) u := fun u => by rw [val_eql, he]
        clear he
        go_enter Try.func32, Try.ntmps32
        go_wp2_with fail
        refine (R1.out _).mono ?_; rintro e w1 ⟨rfl, b1⟩
        have x1 := Lib.hid (hx.out.after b1)
        clear hx b1 c0 c1 c2 c3 c4 c5 c6 d0 d1 d2 d3 d4 d5 d6
        obtain ⟨c0, c1, c2, c3, c4, c5, c6⟩ := x1.out.2.1.cells
        obtain ⟨d0, d1, d2, d3, d4, d5, d6⟩ := x1.out.2.2.cells
        go_wp2_with fail
        refine (R2.out _).mono ?_; rintro e w2 ⟨rfl, b2⟩
        have x2 := Lib.hid (x1.out.after b2)
        clear x1 b2 c0 c1 c2 c3 c4 c5 c6 d0 d1 d2 d3 d4 d5 d6
        obtain ⟨c0, c1, c2, c3, c4, c5, c6⟩ := x2.out.2.1.cells
        obtain ⟨d0, d1, d2, d3, d4, d5, d6⟩ := x2.out.2.2.cells
        go_wp2_with fail
        go_ret
        exact ⟨end_bool HR.out.symm, x2.out.1⟩
      · rw [he] at HR
        have EQ : ∀ u, (binOp .eql 30 (vV a) (vV b)).run Try.prog u = .ok (.bool true) u := fun u => by rw [val_eql, he]
        clear he
        go_enter Try.func32, Try.ntmps32
        go_wp2_with fail
        refine (R1.out _).mono ?_; rintro e w1 ⟨rfl, b1⟩
        have x1 := Lib.hid (hx.out.after b1)
        clear hx b1 c0 c1 c2 c3 c4 c5 c6 d0 d1 d2 d3 d4 d5 d6
        obtain ⟨c0, c1, c2, c3, c4, c5, c6⟩ := x1.out.2.1.cells
        obtain ⟨d0, d1, d2, d3, d4, d5, d6⟩ := x1.out.2.2.cells
        go_wp2_with fail
        refine (R2.out _).mono ?_; rintro e w2 ⟨rfl, b2⟩
        have x2 := Lib.hid (x1.out.after b2)
        clear x1 b2 c0 c1 c2 c3 c4 c5 c6 d0 d1 d2 d3 d4 d5 d6
        obtain ⟨c0, c1, c2, c3, c4, c5, c6⟩ := x2.out.2.1.cells
        obtain ⟨d0, d1, d2, d3, d4, d5, d6⟩ := x2.out.2.2.cells
        go_wp2_with fail
        go_ret
        exact ⟨end_bool HR.out.symm, x2.out.1⟩
    · rw [h0, Bool.true_or] at HR
      go_enter Try.func32, Try.ntmps32
      go_wp2_with fail
      refine (R1.out _).mono ?_; rintro e w1 ⟨rfl, b1⟩
      have x1 := Lib.hid (hx.out.after b1)
      clear hx b1 c0 c1 c2 c3 c4 c5 c6 d0 d1 d2 d3 d4 d5 d6
      obtain ⟨c0, c1, c2, c3, c4, c5, c6⟩ := x1.out.2.1.cells
      obtain ⟨d0, d1, d2, d3, d4, d5, d6⟩ := x1.out.2.2.cells
      go_wp2_with fail
      refine (R2.out _).mono ?_; rintro e w2 ⟨rfl, b2⟩
      have x2 := Lib.hid (x1.out.after b2)
      clear x1 b2 c0 c1 c2 c3 c4 c5 c6 d0 d1 d2 d3 d4 d5 d6
      obtain ⟨c0, c1, c2, c3, c4, c5, c6⟩ := x2.out.2.1.cells
      obtain ⟨d0, d1, d2, d3, d4, d5, d6⟩ := x2.out.2.2.cells
      go_wp2_with fail
      go_ret
      exact ⟨end_bool HR.out.symm, x2.out.1⟩
  · have HR := Lib.hid (HE.out rfl (by rw [h1, h2]; rfl))
    clear HN HE
    cases h0 : (b.k == 0)
    · rw [h0] at HR
      cases he : vEq a b
      · rw [he] at HR
        have EQ : ∀ u, (binOp .eql 30 (vV a) (vV b)).run Try.prog u = .ok (.bool false) u := fun u => by rw [val_eql, he]
        clear he
        go_enter Try.func32, Try.ntmps32
        go_wp2_with fail
        refine (R1.out _).mono ?_; rintro e w1 ⟨rfl, b1⟩
        have x1 := Lib.hid (hx.out.after b1)
        clear hx b1 c0 c1 c2 c3 c4 c5 c6 d0 d1 d2 d3 d4 d5 d6
        obtain ⟨c0, c1, c2, c3, c4, c5, c6⟩ := x1.out.2.1.cells
        obtain ⟨d0, d1, d2, d3, d4, d5, d6⟩ := x1.out.2.2.cells
        go_wp2_with fail
        refine (R2.out _).mono ?_; rintro e w2 ⟨rfl, b2⟩
        have x2 := Lib.hid (x1.out.after b2)
        clear x1 b2 c0 c1 c2 c3 c4 c5 c6 d0 d1 d2 d3 d4 d5 d6
        obtain ⟨c0, c1, c2, c3, c4, c5, c6⟩ := x2.out.2.1.cells
        obtain ⟨d0, d1, d2, d3, d4, d5, d6⟩ := x2.out.2.2.cells
        go_wp2_with fail
        go_ret
        exact ⟨end_bool HR.out.symm, x2.out.1⟩
      · rw [he] at HR
        have EQ : ∀ u, (binOp .eql 30 (vV a) (vV b)).run Try.prog u = .ok (.bool true) u := fun u => by rw [val_eql, he]
        clear he
        go_enter Try.func32, Try.ntmps32
        go_wp2_with fail
        refine (R1.out _).mono ?_; rintro e w1 ⟨rfl, b1⟩
        have x1 := Lib.hid (hx.out.after b1)
        clear hx b1 c0 c1 c2 c3 c4 c5 c6 d0 d1 d2 d3 d4 d5 d6
        obtain ⟨c0, c1, c2, c3, c4, c5, c6⟩ := x1.out.2.1.cells
        obtain ⟨d0, d1, d2, d3, d4, d5, d6⟩ := x1.out.2.2.cells
        go_wp2_with fail
        refine (R2.out _).mono ?_; rintro e w2 ⟨rfl, b2⟩
        have x2 := Lib.hid (x1.out.after b2)
        clear x1 b2 c0 c1 c2 c3 c4 c5 c6 d0 d1 d2 d3 d4 d5 d6
        obtain ⟨c0, c1, c2, c3, c4, c5, c6⟩ := x2.out.2.1.cells
        obtain ⟨d0, d1, d2, d3, d4, d5, d6⟩ := x2.out.2.2.cells
        go_wp2_with fail
        go_ret
        exact ⟨end_bool HR.out.symm, x2.out.1⟩
    · rw [h0, Bool.true_or] at HR
      go_enter Try.func32, Try.ntmps32
      go_wp2_with fail
      refine (R1.out _).mono ?_; rintro e w1 ⟨rfl, b1⟩
      have x1 := Lib.hid (hx.out.after b1)
      clear hx b1 c0 c1 c2 c3 c4 c5 c6 d0 d1 d2 d3 d4 d5 d6
      obtain ⟨c0, c1, c2, c3, c4, c5, c6⟩ := x1.out.2.1.cells
      obtain ⟨d0, d1, d2, d3, d4, d5, d6⟩ := x1.out.2.2.cells
      go_wp2_with fail
      refine (R2.out _).mono ?_; rintro e w2 ⟨rfl, b2⟩
      have x2 := Lib.hid (x1.out.after b2)
      clear x1 b2 c0 c1 c2 c3 c4 c5 c6 d0 d1 d2 d3 d4 d5 d6
      obtain ⟨c0, c1, c2, c3, c4, c5, c6⟩ := x2.out.2.1.cells
      obtain ⟨d0, d1, d2, d3, d4, d5, d6⟩ := x2.out.2.2.cells
      go_wp2_with fail
      go_ret
      exact ⟨end_bool HR.out.symm, x2.out.1⟩
end Go.Proofs.Ytdgckjkdimnpoaa

namespace Go.Proofs.Ytdgckjkdimnpoaa
open Go.ChangeShapes Go.WideShapes Go.RowKit
set_option maxRecDepth 100000
set_option linter.unusedVariables false

section
variable {H : Type} {enc : TypeId × Value → H} {w : World} {base : Nat} {spare : Nat → Bool} {held : Bool}
set_option maxRecDepth 100000 in
theorem open_val {r : Reach} {b0 : Nat} {v : Value} {d : DataW H} {p : List MemPlace} (hv : Value.okWide Try.prog w r b0 30 v) (h : DataW.Trod enc Try.prog w base spare held 30 v d p) :
    ∃ a : Vl, v = vV a ∧ vIn a := by
  obtain ⟨l, rfl, hl⟩ := agg_of_struct Try.underlying30 hv
  have hc : Try.prog.cellsOf 30 = 7 := by kernel_rfl
  rw [hc] at hl
  obtain ⟨n0, e0, w0⟩ := LeafOk.int_ (leaf_of_Trod h 8 0 (L := some .u8) (by kernel_rfl))
  obtain ⟨n1, e1, w1⟩ := LeafOk.int_ (leaf_of_Trod h 8 1 (L := some .u64) (by kernel_rfl))
  obtain ⟨n2, e2, w2⟩ := LeafOk.int_ (leaf_of_Trod h 8 2 (L := some .u64) (by kernel_rfl))
  obtain ⟨n3, e3, w3⟩ := LeafOk.int_ (leaf_of_Trod h 8 3 (L := some .u64) (by kernel_rfl))
  obtain ⟨n4, e4, w4⟩ := LeafOk.int_ (leaf_of_Trod h 8 4 (L := some .u64) (by kernel_rfl))
  obtain ⟨n5, e5, w5⟩ := LeafOk.int_ (leaf_of_Trod h 8 5 (L := some .i64) (by kernel_rfl))
  obtain ⟨n6, e6, w6⟩ := LeafOk.int_ (leaf_of_Trod h 8 6 (L := some .i64) (by kernel_rfl))
  match l, hl with
  | [c0, c1, c2, c3, c4, c5, c6], _ =>
    simp [Value.cells] at e0 e1 e2 e3 e4 e5 e6
    subst e0 e1 e2 e3 e4 e5 e6
    obtain ⟨x, rfl⟩ := bv_of (bounds_u64 w1)
    obtain ⟨y, rfl⟩ := bv_of (bounds_u64 w2)
    exact ⟨⟨n0, ((x, y), (n3, n4)), n5, n6⟩, rfl, bounds_u8 w0, ⟨bounds_u64 w3, bounds_u64 w4⟩, bounds_i64 w5, bounds_i64 w6⟩
end

end Go.Proofs.Ytdgckjkdimnpoaa

namespace Go.Proofs.Ytdgckjkdimnpoaa
open Go Go.RowKit
set_option maxRecDepth 100000
set_option linter.unusedVariables false

theorem st_use : True := by
  first
  | trivial
  | exact absurd (vp_right, vp_within, vp_num, rv_right, rv_within, rv_num, fp_any, fp_settle, rf_settle, rf_of, val_eql, open_val) (by trivial)

end Go.Proofs.Ytdgckjkdimnpoaa

namespace Go.Proofs.Ytdgckjkdimnpoaa
open Go Go.RowKit
set_option maxRecDepth 100000
set_option linter.unusedVariables false

/-! ### Rows of parts of c cells -/
def gL (n : Nat) (f : Nat → List Value) : List Value := (List.range n).flatMap f
theorem gL_succ (n : Nat) (f : Nat → List Value) : gL (n + 1) f = gL n f ++ f n := by
  unfold gL
  rw [List.range_succ, List.flatMap_append]
  simp
theorem gL_len {f : Nat → List Value} {c : Nat} (h : ∀ i, (f i).length = c) : ∀ n, (gL n f).length = n * c
  | 0 => by simp [gL]
  | n + 1 => by rw [gL_succ, List.length_append, gL_len h n, h, Nat.succ_mul]
theorem gL_get {f : Nat → List Value} {c : Nat} (h : ∀ i, (f i).length = c) : ∀ (n k : Nat), k < n * c → (gL n f)[k]? = (f (k / c))[k % c]?
  | 0, k, hk => by simp at hk
  | n + 1, k, hk => by
    have hc : 0 < c := by
      rcases Nat.eq_zero_or_pos c with h0 | h0
      · rw [h0] at hk; simp at hk
      · exact h0
    rw [gL_succ]
    rcases Nat.lt_or_ge k (n * c) with h1 | h1
    · rw [List.getElem?_append_left (by rw [gL_len h]; exact h1)]
      exact gL_get h n k h1
    · rw [List.getElem?_append_right (by rw [gL_len h]; exact h1), gL_len h]
      rw [Nat.succ_mul] at hk
      have e : k / c = n := by
        apply Nat.div_eq_of_lt_le
        · exact h1
        · rw [Nat.succ_mul]; exact hk
      have e2 : k % c = k - n * c := by
        have := Nat.div_add_mod k c
        rw [e, Nat.mul_comm] at this
        omega
      rw [e, e2]
theorem gL_ext {n c : Nat} {f g : Nat → List Value} (h : ∀ i, i < n → f i = g i) : gL n f = gL n g := by
  unfold gL
  induction n with
  | zero => rfl
  | succ n ih =>
    rw [List.range_succ, List.flatMap_append, List.flatMap_append, ih fun i hi => h i (by omega)]
    simp [h n (by omega)]
/-- Cells, one behind the other, stored into a row. -/
def setA : Array Value → Nat → List Value → Array Value
  | cs, _, [] => cs
  | cs, o, v :: r => setA (cs.setIfInBounds o v) (o + 1) r
theorem setA_get : ∀ (vs : List Value) (cs : Array Value) (o k : Nat), o + vs.length ≤ cs.size → (setA cs o vs)[k]? = if o ≤ k ∧ k < o + vs.length then vs[k - o]? else cs[k]?
  | [], cs, o, k, h => by
    rw [if_neg (by simp)]; rfl
  | v :: r, cs, o, k, h => by
    simp only [List.length_cons] at h ⊢
    rw [setA, setA_get r _ _ _ (by simp; omega)]
    by_cases h1 : o + 1 ≤ k ∧ k < o + 1 + r.length
    · rw [if_pos h1, if_pos (by omega), show k - o = (k - (o + 1)) + 1 by omega, List.getElem?_cons_succ]
    · rw [if_neg h1, Array.getElem?_setIfInBounds]
      by_cases h2 : o = k
      · subst h2
        rw [if_pos rfl, if_pos (by omega), if_pos (by omega)]
        simp
      · rw [if_neg h2, if_neg (by omega)]
theorem Blk.sets {g : Nat} {t : TypeId} : ∀ (vs : List Value) (cs : Array Value) (o : Nat) (w : World), Blk g cs t w → Blk g (setA cs o vs) t (w.setCells g o vs)
  | [], cs, o, w, h => h
  | v :: r, cs, o, w, h => Blk.sets r _ (o + 1) _ (h.set o v)
theorem below_sets {B k : Nat} {w : World} (hk : B ≤ k) : ∀ (vs : List Value) (o : Nat) (u : World), Below B w u → Below B w (u.setCells k o vs)
  | [], o, u, h => h
  | v :: r, o, u, h => below_sets hk r (o + 1) _ (h.setCell (p := ⟨k, o, none⟩) hk v)

/-! ### What is known -/
abbrev bV (p : BitVec 8) : Value := .int .u8 p.toNat
def vL (v : Vl) : List Value := [.int .u8 v.k, uV v.n.1.1, uV v.n.1.2, .int .u64 v.n.2.1, .int .u64 v.n.2.2, .int .i64 v.i, .int .i64 v.o]
theorem vL_len (v : Vl) : (vL v).length = 7 := rfl
theorem vL_V (v : Vl) : vV v = .agg (vL v).toArray := rfl
theorem vL_C (v : Vl) : vCells v = (vL v).toArray := rfl
structure Sl where
  v : Vl
  p : BitVec 8
def slL (x : Sl) : List Value := [.int .u8 x.v.k, uV x.v.n.1.1, uV x.v.n.1.2, .int .u64 x.v.n.2.1, .int .u64 x.v.n.2.2, .int .i64 x.v.i, .int .i64 x.v.o, bV x.p]
theorem slL_len (x : Sl) : (slL x).length = 8 := rfl
abbrev slV (x : Sl) : Value := .agg #[.int .u8 x.v.k, uV x.v.n.1.1, uV x.v.n.1.2, .int .u64 x.v.n.2.1, .int .u64 x.v.n.2.2, .int .i64 x.v.i, .int .i64 x.v.o, bV x.p]
abbrev slC (x : Sl) : Array Value := #[.int .u8 x.v.k, uV x.v.n.1.1, uV x.v.n.1.2, .int .u64 x.v.n.2.1, .int .u64 x.v.n.2.2, .int .i64 x.v.i, .int .i64 x.v.o, bV x.p]
theorem slL_V (x : Sl) : slV x = .agg (slL x).toArray := rfl
structure St where
  r : Nat → Vl
  s : Nat → Sl
def rL (x : St) : List Value := gL 11 fun i => vL (x.r i)
def zL (x : St) : List Value := gL 64 fun i => slL (x.s i)
def stL (x : St) : List Value := rL x ++ zL x
theorem rL_len (x : St) : (rL x).length = 77 := gL_len (fun i => vL_len (x.r i)) 11
theorem zL_len (x : St) : (zL x).length = 512 := gL_len (fun i => slL_len (x.s i)) 64
theorem stL_len (x : St) : (stL x).length = 589 := by unfold stL; rw [List.length_append, rL_len, zL_len]
def rC (x : St) : Array Value := (rL x).toArray
def zC (x : St) : Array Value := (zL x).toArray
def stC (x : St) : Array Value := (stL x).toArray
theorem stC_size (x : St) : (stC x).size = 589 := by unfold stC; simp [stL_len]
theorem rC_size (x : St) : (rC x).size = 77 := by unfold rC; simp [rL_len]
theorem zC_size (x : St) : (zC x).size = 512 := by unfold zC; simp [zL_len]
theorem stC_toList (x : St) : (stC x).toList = stL x := rfl
theorem rL_get (x : St) {k : Nat} (h : k < 77) : (rL x)[k]? = (vL (x.r (k / 7)))[k % 7]? := gL_get (fun i => vL_len (x.r i)) 11 k (by omega)
theorem zL_get (x : St) {k : Nat} (h : k < 512) : (zL x)[k]? = (slL (x.s (k / 8)))[k % 8]? := gL_get (fun i => slL_len (x.s i)) 64 k (by omega)
theorem stL_lo (x : St) {k : Nat} (h : k < 77) : (stL x)[k]? = (vL (x.r (k / 7)))[k % 7]? := by
  unfold stL
  rw [List.getElem?_append_left (by rw [rL_len]; exact h), rL_get x h]
theorem stL_hi (x : St) {k : Nat} (h : 77 ≤ k) (h2 : k < 589) : (stL x)[k]? = (slL (x.s ((k - 77) / 8)))[(k - 77) % 8]? := by
  unfold stL
  rw [List.getElem?_append_right (by rw [rL_len]; exact h), rL_len, zL_get x (by omega)]
theorem stL_out (x : St) {k : Nat} (h : 589 ≤ k) : (stL x)[k]? = none := List.getElem?_eq_none (by rw [stL_len]; exact h)
theorem stC_get (x : St) (k : Nat) : (stC x)[k]? = (stL x)[k]? := by unfold stC; simp
/-- With a register, with a slot. -/
def St.reg (x : St) (i : Nat) (v : Vl) : St := { x with r := fun k => if k = i then v else x.r k }
def St.slot (x : St) (i : Nat) (y : Sl) : St := { x with s := fun k => if k = i then y else x.s k }
theorem stC_reg (x : St) {i : Nat} (hi : i < 11) (v : Vl) : setA (stC x) (7 * i) (vL v) = stC (x.reg i v) := by
  apply Array.ext_getElem?
  intro k
  rw [setA_get _ _ _ _ (by rw [stC_size, vL_len]; omega), vL_len, stC_get, stC_get]
  by_cases h1 : k < 77
  · rw [stL_lo x h1, stL_lo _ h1]
    show _ = (vL (if k / 7 = i then v else x.r (k / 7)))[k % 7]?
    by_cases h2 : k / 7 = i
    · rw [if_pos h2, if_pos (by omega), show k - 7 * i = k % 7 by omega]
    · rw [if_neg h2, if_neg (by omega)]
  · rw [if_neg (by omega)]
    by_cases h3 : k < 589
    · rw [stL_hi x (by omega) h3, stL_hi _ (by omega) h3]; rfl
    · rw [stL_out x (by omega), stL_out _ (by omega)]
theorem stC_slot (x : St) {i : Nat} (hi : i < 64) (y : Sl) : setA (stC x) (77 + 8 * i) (slL y) = stC (x.slot i y) := by
  apply Array.ext_getElem?
  intro k
  rw [setA_get _ _ _ _ (by rw [stC_size, slL_len]; omega), slL_len, stC_get, stC_get]
  by_cases h1 : k < 77
  · rw [stL_lo x h1, stL_lo _ h1, if_neg (by omega)]; rfl
  · by_cases h3 : k < 589
    · rw [stL_hi x (by omega) h3, stL_hi _ (by omega) h3]
      show _ = (slL (if (k - 77) / 8 = i then y else x.s ((k - 77) / 8)))[(k - 77) % 8]?
      by_cases h2 : (k - 77) / 8 = i
      · rw [if_pos h2, if_pos (by omega), show k - (77 + 8 * i) = (k - 77) % 8 by omega]
      · rw [if_neg h2, if_neg (by omega)]
    · rw [if_neg (by omega), stL_out x (by omega), stL_out _ (by omega)]
theorem getElem?_ext' {l m : List Value} {c : Nat} (h1 : l.length = c) (h2 : m.length = c) (h : ∀ k, k < c → l[k]? = m[k]?) : l = m := by
  apply List.ext_getElem?
  intro k
  rcases Nat.lt_or_ge k c with hk | hk
  · exact h k hk
  · rw [List.getElem?_eq_none (by omega), List.getElem?_eq_none (by omega)]
theorem rC_part (x : St) {i : Nat} (hi : i < 11) : (rC x).extract (i * 7) (i * 7 + 7) = (vL (x.r i)).toArray := by
  apply Array.ext_getElem?
  intro k
  rw [Array.getElem?_extract]
  unfold rC
  simp only [List.size_toArray, rL_len, List.getElem?_toArray]
  by_cases h : k < 7
  · rw [if_pos (by omega), rL_get x (by omega), show (i * 7 + k) / 7 = i by omega, show (i * 7 + k) % 7 = k by omega]
  · rw [if_neg (by omega), List.getElem?_eq_none (by rw [vL_len]; omega)]
theorem zC_part (x : St) {i : Nat} (hi : i < 64) : (zC x).extract (i * 8) (i * 8 + 8) = (slL (x.s i)).toArray := by
  apply Array.ext_getElem?
  intro k
  rw [Array.getElem?_extract]
  unfold zC
  simp only [List.size_toArray, zL_len, List.getElem?_toArray]
  by_cases h : k < 8
  · rw [if_pos (by omega), zL_get x (by omega), show (i * 8 + k) / 8 = i by omega, show (i * 8 + k) % 8 = k by omega]
  · rw [if_neg (by omega), List.getElem?_eq_none (by rw [slL_len]; omega)]

/-! ### The document's words -/
def slZ : Sl := ⟨vZ, 0#8⟩
def stZ : St := ⟨fun _ => vZ, fun _ => slZ⟩
def stF : St := (stZ.reg 1 ⟨2, fZ, 0, 0⟩).reg 10 ⟨3, fZ, 0, 512⟩
def slR (y : Sl) : Bool := vR y.v && (y.v.k == 0 || y.p == 255#8)
def sRr (x : St) : Bool := (List.range 11).all fun i => vR (x.r i)
def sRs (x : St) : Bool := (List.range 64).all fun i => slR (x.s i)
def stR (x : St) : Bool := sRr x && sRs x
def slW (a b : Sl) : Bool := if b.v.k == 0 then b.p &&& ~~~a.p == 0#8 else vW a.v b.v
def sWr (a b : St) : Bool := (List.range 11).all fun i => vW (a.r i) (b.r i)
def sWs (a b : St) : Bool := (List.range 64).all fun i => slW (a.s i) (b.s i)
def stW (a b : St) : Bool := (stR a && stR b) && (sWr a b && sWs a b)
def isSz (n : Int) : Bool := n == 1 || n == 2 || n == 4 || n == 8
def there (off size : Int) : Bool := decide (0 ≤ off) && decide (0 ≤ size) && decide (off ≤ 512 - size)
def rch (off size : Int) : Int := if there off size then (if off % size = 0 then 0 else 130) else 80
def pBits (off size : Int) : BitVec 8 := ((1#8 <<< size.toNat) - 1#8) <<< (off % 8).toNat
def pAll (p b : BitVec 8) : Bool := p &&& b == b
def mayP (size : Int) (v : Vl) : Bool := !(v.k == 0) && (vR v && (size == 8 || v.k == 1))
def putE (x : St) (off size : Int) (v : Vl) : Int := if stR x && (isSz size && mayP size v) then rch off size else 1
def putS (y : Sl) (off size : Int) (v : Vl) : Sl := ⟨if size == 8 then v else vZ, y.p ||| pBits off size⟩
def putX (x : St) (off size : Int) (v : Vl) : St := x.slot (off / 8).toNat (putS (x.s (off / 8).toNat) off size v)
def setE (x : St) (i : Int) (v : Vl) : Int := if stR x && (decide (0 ≤ i) && decide (i < 11)) && vR v then 0 else 1
def belF (size : Int) : Fc := ((0#64, 18446744073709551615#64), (0, 256 ^ size.toNat - 1))
def bel (size : Int) : Vl := vNum ((fS (belF size)).getD fZ)
def getE (x : St) (off size : Int) : Int := if stR x && isSz size then (if rch off size = 0 then (if pAll (x.s (off / 8).toNat).p (pBits off size) then 0 else 81) else rch off size) else 1
def getV (x : St) (off size : Int) : Vl := if size == 8 && !((x.s (off / 8).toNat).v.k == 0) then (x.s (off / 8).toNat).v else bel size
def pAt (x : St) (o : Nat) : Bool := pAll (x.s (o / 8)).p (pBits o 1)
def full (x : St) (off size : Int) : Bool := stR x && there off size && (List.range size.toNat).all fun i => pAt x (off.toNat + i)

end Go.Proofs.Ytdgckjkdimnpoaa
