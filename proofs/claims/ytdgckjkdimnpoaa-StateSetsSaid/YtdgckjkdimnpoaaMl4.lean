/-
  Texts, one behind the other: Ref06k, Ref06w, Ref06j, Fact4, Fact5, Byt, MemPlain, Turn, Areas, TabPlain, ValPlain, Leaf, Val1.
  Conditions: those that each theorem states.
-/
import Derived.Test.YtdgckjkdimnpoaaMl3
import Derived.StillTailTactics
import Derived.Deep.RegionHeld3
import Derived.Test.YtdgckjkdimnpoaaMl2
import Derived.Laws.OwnMore
import Derived.Laws.MakeOwn
import Derived.Deep.AppendLies
import Derived.Maps.AppendAt
import Derived.OwnWalk
import Derived.Test.YtdgckjkdimnpoaaMl1
import Derived.Laws.BitsAllLaws
import Derived.Laws.BytesArg
import Derived.Lib.Strings
import Derived.LoopTactic
import Derived.Deep.RegionWith
import Derived.Laws.Externs
import Derived.Shelf.Bits.Mul64
import Derived.WalkKit
import Derived.ProofKit
import Derived.OpenShut
import Derived.Test.YtdgckjkdimnpoaaRows
import Derived.ChangeOld
import Derived.Below
import Derived.Carry

namespace Go.Proofs.Ytdgckjkdimnpoaa
open Go.RowKit
set_option maxRecDepth 100000
set_option linter.unusedVariables false

/-- Known bits' block, a span's, and a result's. -/
def TSF (t : Tn) (s : Sp) (r : Fc) (w u : World) : Prop := Below w.heap.size w u ∧ Box w.heap.size t u ∧ sB (w.heap.size + 1) s u ∧ fB (w.heap.size + 1 + 1) r u
theorem TSF.new (t : Tn) (s : Sp) (w : World) : TSF t s fZ w (((w.alloc (.cells #[uV t.1, uV t.2] 24)).alloc (.cells #[.int .u64 s.1, .int .u64 s.2] 26)).alloc (.cells (fCells fZ) 28)) :=
  ⟨below_alloc (below_alloc (below_alloc (Below.refl _ _) _) _) _, ((Box.new w t rfl).alloc _).alloc _, (sB.new _ s (by simp)).alloc _, fB.new _ fZ (by simp)⟩
theorem TSF.after {t : Tn} {s : Sp} {r : Fc} {w u u' : World} (h : TSF t s r w u) (k : Below u.heap.size u u') : TSF t s r w u' := ⟨below_next' h.1 k, h.2.1.after k, h.2.2.1.after k, h.2.2.2.after k⟩

end Go.Proofs.Ytdgckjkdimnpoaa

namespace Go.Proofs.Ytdgckjkdimnpoaa
open Go.RowKit
set_option maxRecDepth 100000
set_option linter.unusedVariables false

set_option maxHeartbeats 2000000 in
theorem rf_within (a b : Fc) (w : World) (ha : fIn a) (hb : fIn b) : Calls Try.prog 53 #[fV a, fV b] w (Gives (.bool (fWi a b)) w) := by
  have R1 := Lib.hid fun w => rf_right a w ha
  have R2 := Lib.hid fun w => rf_right b w hb
  have W1 := Lib.hid (rwithin_says a.1 b.1)
  have W2 := Lib.hid (rs_within a.2 b.2)
  have hx := Lib.hid (FDuo.new a b w)
  unfold fWi fLe
  generalize sW a.2 b.2 = q at *
  cases h1 : fR a
  · rw [h1] at R1
    clear h1
    go_enter Try.func53, Try.ntmps53
    go_wp2_with fail
    refine (R1.out _).mono ?_; rintro e w1 ⟨rfl, b1⟩
    have x1 := hx.out.after b1
    clear hx b1
    obtain ⟨p0, p1, p2, p3⟩ := x1.2.1.cells
    obtain ⟨q0, q1, q2, q3⟩ := x1.2.2.cells
    go_wp2_with fail
    go_ret
    exact ⟨rfl, x1.1⟩
  · rw [h1] at R1
    clear h1
    cases h2 : fR b
    · rw [h2] at R2
      clear h2
      go_enter Try.func53, Try.ntmps53
      go_wp2_with fail
      refine (R1.out _).mono ?_; rintro e w1 ⟨rfl, b1⟩
      have x1 := hx.out.after b1
      clear hx b1
      obtain ⟨p0, p1, p2, p3⟩ := x1.2.1.cells
      obtain ⟨q0, q1, q2, q3⟩ := x1.2.2.cells
      go_wp2_with fail
      refine (R2.out _).mono ?_; rintro e w2 ⟨rfl, b2⟩
      have x2 := x1.after b2
      clear x1 b2
      clear p0 p1 p2 p3 q0 q1 q2 q3
      obtain ⟨p0, p1, p2, p3⟩ := x2.2.1.cells
      obtain ⟨q0, q1, q2, q3⟩ := x2.2.2.cells
      go_wp2_with fail
      go_ret
      exact ⟨rfl, x2.1⟩
    · rw [h2] at R2
      clear h2
      cases h3 : tW a.1 b.1
      · rw [h3] at W1
        clear h3
        go_enter Try.func53, Try.ntmps53
        go_wp2_with fail
        refine (R1.out _).mono ?_; rintro e w1 ⟨rfl, b1⟩
        have x1 := hx.out.after b1
        clear hx b1
        obtain ⟨p0, p1, p2, p3⟩ := x1.2.1.cells
        obtain ⟨q0, q1, q2, q3⟩ := x1.2.2.cells
        go_wp2_with fail
        refine (R2.out _).mono ?_; rintro e w2 ⟨rfl, b2⟩
        have x2 := x1.after b2
        clear x1 b2
        clear p0 p1 p2 p3 q0 q1 q2 q3
        obtain ⟨p0, p1, p2, p3⟩ := x2.2.1.cells
        obtain ⟨q0, q1, q2, q3⟩ := x2.2.2.cells
        go_wp2_with fail
        refine (W1.out _).mono ?_; rintro e w3 ⟨rfl, b3⟩
        have x3 := x2.after b3
        clear x2 b3
        clear p0 p1 p2 p3 q0 q1 q2 q3
        obtain ⟨p0, p1, p2, p3⟩ := x3.2.1.cells
        obtain ⟨q0, q1, q2, q3⟩ := x3.2.2.cells
        go_wp2_with fail
        go_ret
        exact ⟨rfl, x3.1⟩
      · rw [h3] at W1
        clear h3
        go_enter Try.func53, Try.ntmps53
        go_wp2_with fail
        refine (R1.out _).mono ?_; rintro e w1 ⟨rfl, b1⟩
        have x1 := hx.out.after b1
        clear hx b1
        obtain ⟨p0, p1, p2, p3⟩ := x1.2.1.cells
        obtain ⟨q0, q1, q2, q3⟩ := x1.2.2.cells
        go_wp2_with fail
        refine (R2.out _).mono ?_; rintro e w2 ⟨rfl, b2⟩
        have x2 := x1.after b2
        clear x1 b2
        clear p0 p1 p2 p3 q0 q1 q2 q3
        obtain ⟨p0, p1, p2, p3⟩ := x2.2.1.cells
        obtain ⟨q0, q1, q2, q3⟩ := x2.2.2.cells
        go_wp2_with fail
        refine (W1.out _).mono ?_; rintro e w3 ⟨rfl, b3⟩
        have x3 := x2.after b3
        clear x2 b3
        clear p0 p1 p2 p3 q0 q1 q2 q3
        obtain ⟨p0, p1, p2, p3⟩ := x3.2.1.cells
        obtain ⟨q0, q1, q2, q3⟩ := x3.2.2.cells
        go_wp2_with fail
        refine (W2.out _).mono ?_; rintro e w4 ⟨rfl, b4⟩
        have x4 := x3.after b4
        clear x3 b4
        clear p0 p1 p2 p3 q0 q1 q2 q3
        obtain ⟨p0, p1, p2, p3⟩ := x4.2.1.cells
        obtain ⟨q0, q1, q2, q3⟩ := x4.2.2.cells
        go_wp2_with fail
        go_ret
        exact ⟨rfl, x4.1⟩

/-- A fact's block, a result's, and a span's variable. -/
def FDS (f r : Fc) (s : Sp) (w u : World) : Prop := FDuo f r w u ∧ sB (w.heap.size + 1 + 1) s u
theorem FDS.after {f r : Fc} {s : Sp} {w u u' : World} (h : FDS f r s w u) (k : Below u.heap.size u u') : FDS f r s w u' := ⟨h.1.after k, h.2.after k⟩

end Go.Proofs.Ytdgckjkdimnpoaa

namespace Go.Proofs.Ytdgckjkdimnpoaa
open Go.RowKit
set_option maxRecDepth 100000
set_option linter.unusedVariables false

/-- Two facts' blocks, and behind them a result's. -/
def FTri (a b r : Fc) (w u : World) : Prop := FDuo a b w u ∧ fB (w.heap.size + 1 + 1) r u
theorem FTri.new (a b r : Fc) (w : World) : FTri a b r w (((w.alloc (.cells (fCells a) 28)).alloc (.cells (fCells b) 28)).alloc (.cells (fCells r) 28)) :=
  ⟨(FDuo.new a b w).alloc _, fB.new _ r (by simp)⟩
theorem FTri.after {a b r : Fc} {w u u' : World} (h : FTri a b r w u) (k : Below u.heap.size u u') : FTri a b r w u' := ⟨h.1.after k, h.2.after k⟩
theorem FTri.set {a b r : Fc} {w u : World} (h : FTri a b r w u) (s : Fc) :
    FTri a b s w ((((u.setCell ⟨w.heap.size + 1 + 1, 0, none⟩ (uV s.1.1)).setCell ⟨w.heap.size + 1 + 1, 1, none⟩ (uV s.1.2)).setCell ⟨w.heap.size + 1 + 1, 2, none⟩ (.int .u64 s.2.1)).setCell ⟨w.heap.size + 1 + 1, 3, none⟩ (.int .u64 s.2.2)) :=
  ⟨⟨below_four h.1.1 (by omega) s, h.1.2.1.others (by omega), h.1.2.2.others (by omega)⟩, h.2.set s⟩

end Go.Proofs.Ytdgckjkdimnpoaa

namespace Go.Proofs.Ytdgckjkdimnpoaa
open Go.RowKit
set_option maxRecDepth 100000
set_option linter.unusedVariables false

set_option maxHeartbeats 1000000 in
theorem fp_right (f : Fc) (w : World) (hf : fIn f) : Calls Try.prog 48 #[fV f] w (Gives (.bool (fR f)) w) := by
  have S := Lib.hid fun w => fp_settle f w hf
  have hx := Lib.hid (show Blks w [(w.heap.size, fCells f, 28)] (w.alloc (.cells (fCells f) 28)) from (Blks.start w).new (fCells f) 28)
  cases hs : fS f with
  | none =>
    have e : fR f = false := by unfold fR; rw [hs]; exact decide_eq_false (fun h => by cases h)
    rw [hs] at S
    rw [e]
    replace S : Hid (∀ w, Calls Try.prog 55 #[fV f] w (Gives (fBV fZ false) w)) := S
    go_enter Try.func48, Try.ntmps48
    go_wp2_with fail
    refine (S.out _).mono ?_; rintro e w1 ⟨rfl, b1⟩
    have x1 := hx.out.after b1
    clear hx b1
    go_wp2_with fail
    go_ret
    exact ⟨rfl, below_alloc x1.1 _⟩
  | some g =>
    rw [hs] at S
    replace S : Hid (∀ w, Calls Try.prog 55 #[fV f] w (Gives (fBV g true) w)) := S
    by_cases hg : g = f
    · subst hg
      have e : fR g = true := decide_eq_true hs
      rw [e]
      go_enter Try.func48, Try.ntmps48
      go_wp2_with fail
      refine (S.out _).mono ?_; rintro e w1 ⟨rfl, b1⟩
      have x1 := hx.out.after b1
      have y1 : fB w.heap.size g w1 := x1.get (by simp)
      obtain ⟨c0, c1, c2, c3⟩ := y1.cells
      have k1 := y1.lt
      clear hx b1 y1
      go_wp2_with fail
      go_ret
      exact ⟨rfl, below_alloc x1.1 _⟩
    · have e : fR f = false := by unfold fR; rw [hs]; exact decide_eq_false (fun h => hg (Option.some.inj h))
      rw [e]
      rcases fc_ne hg with a1 | ⟨a1, a2⟩ | ⟨a1, a2, a3⟩ | ⟨a1, a2, a3, a4⟩
      all_goals
        go_enter Try.func48, Try.ntmps48
        go_wp2_with fail
        refine (S.out _).mono ?_; rintro e w1 ⟨rfl, b1⟩
        have x1 := hx.out.after b1
        have y1 : fB w.heap.size f w1 := x1.get (by simp)
        obtain ⟨c0, c1, c2, c3⟩ := y1.cells
        have k1 := y1.lt
        clear hx b1 y1
        go_wp2_with fail
        go_ret
        exact ⟨rfl, below_alloc x1.1 _⟩

theorem fp_unknown (w : World) : Calls Try.prog 64 #[] w (Gives (.agg #[.int .u64 0, .int .u64 18446744073709551615]) w) := by
  go_enter Try.func64, Try.ntmps64
  go_wp2_with fail
  exact bodyPost_ret (v := .agg #[.int .u64 0, .int .u64 18446744073709551615]) (by simp [results, Try.results64, go_sem]) rfl ⟨rfl, below_alloc (Below.refl _ _) _⟩
theorem fp_any (w : World) : Calls Try.prog 54 #[] w (Gives (fV fAny) w) := by
  have U := Lib.hid fp_unknown
  have A : Hid (∀ w, Calls Try.prog 65 #[] w (Gives (.agg #[.int .u64 0, .int .u64 18446744073709551615]) w)) := Lib.hid sall_says
  have hx := Lib.hid (fB.new w fZ rfl)
  have ha : fV fAny = .agg #[.int .u64 0, .int .u64 18446744073709551615, .int .u64 0, .int .u64 18446744073709551615] := by
    unfold fAny sAll
    simp
  rw [ha]
  go_enter Try.func54, Try.ntmps54
  go_wp2_with fail
  refine (U.out _).mono ?_; rintro e w1 ⟨rfl, b1⟩
  have x1 := fB.after hx.out b1
  have bw := below_next' (below_alloc (Below.refl w.heap.size w) (.cells (fCells fZ) 28)) b1
  clear hx b1
  go_wp2_with fail
  refine (A.out _).mono ?_; rintro e w2 ⟨rfl, b2⟩
  have x2 := fB.after x1 b2
  have bw2 := below_next' bw b2
  clear x1 bw b2
  obtain ⟨c0, c1, c2, c3⟩ := x2.cells
  obtain ⟨f0, f1, f2, f3⟩ := x2.free
  have X1 := Lib.hid ((((bw2.setCell (p := ⟨w.heap.size, 0, none⟩) (Nat.le_refl _) (.int .u64 0)).setCell (p := ⟨w.heap.size, 1, none⟩) (Nat.le_refl _) (.int .u64 18446744073709551615)).setCell (p := ⟨w.heap.size, 2, none⟩) (Nat.le_refl _) (.int .u64 0)).setCell (p := ⟨w.heap.size, 3, none⟩) (Nat.le_refl _) (.int .u64 18446744073709551615))
  clear x2 bw2
  go_wp2_with fail
  exact bodyPost_ret (v := .agg #[.int .u64 0, .int .u64 18446744073709551615, .int .u64 0, .int .u64 18446744073709551615]) (by simp [results, Try.results54, go_sem, c0, c1, c2, c3]) rfl ⟨rfl, X1.out⟩

set_option maxHeartbeats 1000000 in
theorem fp_both (a b : Fc) (w : World) (ha : fIn a) (hb : fIn b) : Calls Try.prog 59 #[fV a, fV b] w (Gives (.bool (fR a && fR b)) w) := by
  have R1 := Lib.hid fun w => fp_right a w ha
  have R2 := Lib.hid fun w => fp_right b w hb
  have hx := Lib.hid (FDuo.new a b w)
  generalize fR b = y at *
  cases h1 : fR a
  · rw [h1] at R1
    clear h1
    go_enter Try.func59, Try.ntmps59
    go_wp2_with fail
    refine (R1.out _).mono ?_; rintro e w1 ⟨rfl, b1⟩
    have x1 := hx.out.after b1
    clear hx b1
    go_wp2_with fail
    go_ret
    exact ⟨rfl, x1.1⟩
  · rw [h1] at R1
    clear h1
    go_enter Try.func59, Try.ntmps59
    go_wp2_with fail
    refine (R1.out _).mono ?_; rintro e w1 ⟨rfl, b1⟩
    have x1 := hx.out.after b1
    clear hx b1
    obtain ⟨q0, q1, q2, q3⟩ := x1.2.2.cells
    go_wp2_with fail
    refine (R2.out _).mono ?_; rintro e w2 ⟨rfl, b2⟩
    have x2 := x1.after b2
    clear x1 b2 q0 q1 q2 q3
    go_wp2_with fail
    go_ret
    exact ⟨rfl, x2.1⟩

set_option maxHeartbeats 2000000 in
theorem fp_within (a b : Fc) (w : World) (ha : fIn a) (hb : fIn b) : Calls Try.prog 52 #[fV a, fV b] w (Gives (.bool (fWi a b)) w) := by
  have R1 := Lib.hid fun w => fp_both a b w ha hb
  have W1 := Lib.hid (within_says a.1 b.1)
  have W2 := Lib.hid (swithin_says a.2 b.2)
  have hx := Lib.hid (FDuo.new a b w)
  unfold fWi fLe
  generalize sW a.2 b.2 = q at *
  cases h1 : (fR a && fR b)
  · rw [h1] at R1
    clear h1
    go_enter Try.func52, Try.ntmps52
    go_wp2_with fail
    refine (R1.out _).mono ?_; rintro e w1 ⟨rfl, b1⟩
    have x1 := hx.out.after b1
    clear hx b1
    go_wp2_with fail
    go_ret
    exact ⟨rfl, x1.1⟩
  · rw [h1] at R1
    clear h1
    cases h3 : tW a.1 b.1
    · rw [h3] at W1
      clear h3
      go_enter Try.func52, Try.ntmps52
      go_wp2_with fail
      refine (R1.out _).mono ?_; rintro e w1 ⟨rfl, b1⟩
      have x1 := hx.out.after b1
      clear hx b1
      obtain ⟨p0, p1, p2, p3⟩ := x1.2.1.cells
      obtain ⟨q0, q1, q2, q3⟩ := x1.2.2.cells
      go_wp2_with fail
      refine (W1.out _).mono ?_; rintro e w2 ⟨rfl, b2⟩
      have x2 := x1.after b2
      clear x1 b2 p0 p1 p2 p3 q0 q1 q2 q3
      go_wp2_with fail
      go_ret
      exact ⟨rfl, x2.1⟩
    · rw [h3] at W1
      clear h3
      go_enter Try.func52, Try.ntmps52
      go_wp2_with fail
      refine (R1.out _).mono ?_; rintro e w1 ⟨rfl, b1⟩
      have x1 := hx.out.after b1
      clear hx b1
      obtain ⟨p0, p1, p2, p3⟩ := x1.2.1.cells
      obtain ⟨q0, q1, q2, q3⟩ := x1.2.2.cells
      go_wp2_with fail
      refine (W1.out _).mono ?_; rintro e w2 ⟨rfl, b2⟩
      have x2 := x1.after b2
      clear x1 b2 p0 p1 p2 p3 q0 q1 q2 q3
      obtain ⟨p0, p1, p2, p3⟩ := x2.2.1.cells
      obtain ⟨q0, q1, q2, q3⟩ := x2.2.2.cells
      go_wp2_with fail
      refine (W2.out _).mono ?_; rintro e w3 ⟨rfl, b3⟩
      have x3 := x2.after b3
      clear x2 b3 p0 p1 p2 p3 q0 q1 q2 q3
      go_wp2_with fail
      go_ret
      exact ⟨rfl, x3.1⟩

end Go.Proofs.Ytdgckjkdimnpoaa

namespace Go.Proofs.Ytdgckjkdimnpoaa
open Go.RowKit
set_option maxRecDepth 100000
set_option linter.unusedVariables false

/-- A new block of a fact. -/
def nB (g : Nat) (w : World) : Prop := Blk g #[.int .u64 0, .int .u64 0, .int .u64 0, .int .u64 0] 28 w
theorem nB.after {g : Nat} {w w' : World} (h : nB g w) (b : Below w.heap.size w w') : nB g w' := Blk.after h b
theorem nB.made {w w' : World} (b : Below (w.alloc (.cells #[.int .u64 0, .int .u64 0, .int .u64 0, .int .u64 0] 28)).heap.size (w.alloc (.cells #[.int .u64 0, .int .u64 0, .int .u64 0, .int .u64 0] 28)) w') : nB w.heap.size w' := nB.after (Blk.new w _ _ rfl) b
theorem nB.cells {g : Nat} {w : World} (h : nB g w) : w.cell? ⟨g, 0, none⟩ = some (.int .u64 0) ∧ w.cell? ⟨g, 1, none⟩ = some (.int .u64 0) ∧ w.cell? ⟨g, 2, none⟩ = some (.int .u64 0) ∧ w.cell? ⟨g, 3, none⟩ = some (.int .u64 0) :=
  ⟨Blk.cell h 0, Blk.cell h 1, Blk.cell h 2, Blk.cell h 3⟩
theorem nB.free {g : Nat} {w : World} (h : nB g w) : w.frozen? ⟨g, 0, none⟩ = false ∧ w.frozen? ⟨g, 1, none⟩ = false ∧ w.frozen? ⟨g, 2, none⟩ = false ∧ w.frozen? ⟨g, 3, none⟩ = false :=
  ⟨Blk.free h 0, Blk.free h 1, Blk.free h 2, Blk.free h 3⟩
theorem FTri.alloc {a b r : Fc} {w u : World} (h : FTri a b r w u) (o : Obj) : FTri a b r w (u.alloc o) := h.after (below_alloc (Below.refl _ _) o)
theorem FTri.far {a b r : Fc} {w u : World} {k : Nat} (h : FTri a b r w u) (hk : w.heap.size + 1 + 1 < k) (s : Fc) :
    FTri a b r w ((((u.setCell ⟨k, 0, none⟩ (uV s.1.1)).setCell ⟨k, 1, none⟩ (uV s.1.2)).setCell ⟨k, 2, none⟩ (.int .u64 s.2.1)).setCell ⟨k, 3, none⟩ (.int .u64 s.2.2)) :=
  ⟨⟨below_four h.1.1 (by omega) s, h.1.2.1.others (by omega), h.1.2.2.others (by omega)⟩, h.2.others (by omega)⟩
theorem nB.fB {g : Nat} {w : World} (h : nB g w) : fB g fZ w := h

end Go.Proofs.Ytdgckjkdimnpoaa

namespace Go.Proofs.Ytdgckjkdimnpoaa
open Go Go.RowKit
set_option linter.unusedVariables false
set_option linter.unusedSimpArgs false

def bAt (b : List Int) (k : Nat) : Int := b.getD k 0
/-- Each is a byte. -/
def OkB (b : List Int) : Prop := ∀ k, k < b.length → 0 ≤ bAt b k ∧ bAt b k ≤ 255
/-- A slice's address reads as a row of bytes. -/
def BytS (w : World) (A : Option Addr) (b : List Int) : Prop :=
  0 < b.length → ∃ g o, A = some ⟨g, o, none⟩ ∧ g < w.heap.size ∧ ∀ k, k < b.length → w.cell? ⟨g, o + k, none⟩ = some (.int .u8 (bAt b k))
theorem BytS.none_ (w : World) (A : Option Addr) : BytS w A [] := fun h => absurd h (by simp)
theorem BytS.after {w w' : World} {A : Option Addr} {b : List Int} (h : BytS w A b) (k : Below w.heap.size w w') : BytS w' A b := fun hl => by
  obtain ⟨g, o, e, hg, hc⟩ := h hl
  exact ⟨g, o, e, Nat.lt_of_lt_of_le hg k.size, fun j hj => (k.cell (p := ⟨g, o + j, none⟩) hg).trans (hc j hj)⟩
/-- Bytes of a row, in a world. -/
def BytAt (w : World) (g o : Nat) (b : List Int) : Prop := g < w.heap.size ∧ ∀ k, k < b.length → w.cell? ⟨g, o + k, none⟩ = some (.int .u8 (bAt b k))
theorem BytAt.after {w w' : World} {g o : Nat} {b : List Int} (h : BytAt w g o b) (k : Below w.heap.size w w') : BytAt w' g o b :=
  ⟨Nat.lt_of_lt_of_le h.1 k.size, fun j hj => (k.cell (p := ⟨g, o + j, none⟩) h.1).trans (h.2 j hj)⟩
section
variable {w w' : World} {base : Nat} {e : TypeId} {c : Nat} {A : Option Addr}
end
end Go.Proofs.Ytdgckjkdimnpoaa

namespace Go.Proofs.Ytdgckjkdimnpoaa
open Go Go.RowKit
set_option linter.unusedVariables false
set_option linter.unusedSimpArgs false

/-- An area: its number, its bytes, which of them are blank, whether it is fixed. -/
structure PA where
  id : Int
  b : List Int
  bl : List Bool
  fx : Bool
def PA.zero : PA := ⟨0, [], [], false⟩
/-- An area as it may be. -/
def PA.ok (a : PA) : Prop := OkB a.b ∧ a.bl.length = a.b.length ∧ a.b.length ≤ 1024 ∧ 1 ≤ a.id ∧ a.id < 2147483648
end Go.Proofs.Ytdgckjkdimnpoaa

namespace Go.Proofs.Ytdgckjkdimnpoaa
open Go Go.RowKit
set_option linter.unusedVariables false
set_option linter.unusedSimpArgs false

/-- Blocks that are not of F are as they were; no block has gone. -/
structure Turn (F : Nat → Prop) (w w' : World) : Prop where
  os : w'.os = w.os
  tape : w'.tape = w.tape
  output : w'.output = w.output
  size : w.heap.size ≤ w'.heap.size
  block : ∀ k, k < w.heap.size → ¬ F k → w'.heap[k]? = w.heap[k]?
theorem Turn.refl (F : Nat → Prop) (w : World) : Turn F w w := ⟨rfl, rfl, rfl, Nat.le_refl _, fun _ _ _ => rfl⟩
theorem Turn.trans {F G : Nat → Prop} {a b c : World} (h : Turn F a b) (k : Turn G b c) (hG : ∀ x, G x → F x ∨ a.heap.size ≤ x) : Turn F a c :=
  ⟨k.os.trans h.os, k.tape.trans h.tape, k.output.trans h.output, Nat.le_trans h.size k.size, fun i hi hF => (k.block i (Nat.lt_of_lt_of_le hi h.size) (fun g => (hG i g).elim hF (fun x => by omega))).trans (h.block i hi hF)⟩
theorem Turn.mono {F G : Nat → Prop} {a b : World} (h : Turn F a b) (hG : ∀ x, F x → G x ∨ a.heap.size ≤ x) : Turn G a b :=
  ⟨h.os, h.tape, h.output, h.size, fun i hi hn => h.block i hi (fun f => (hG i f).elim hn (fun x => by omega))⟩
theorem Turn.drew {F : Nat → Prop} {a b : World} (h : Turn F a b) : Turn F a b.drew := ⟨h.os, h.tape, h.output, h.size, h.block⟩
theorem Turn.alloc {F : Nat → Prop} {a b : World} (h : Turn F a b) (o : Obj) : Turn F a (b.alloc o) :=
  ⟨h.os, h.tape, h.output, Nat.le_trans h.size (by simp), fun k hk hn => (Below.heap_alloc _ _ _ (Nat.lt_of_lt_of_le hk h.size)).trans (h.block k hk hn)⟩
theorem Turn.setCell {F : Nat → Prop} {a b : World} (h : Turn F a b) {p : Addr} (hp : F p.block ∨ a.heap.size ≤ p.block) (u : Value) : Turn F a (b.setCell p u) :=
  ⟨h.os, h.tape, h.output, Nat.le_trans h.size (by simp [World.setCell]), fun k hk hn => (Below.heap_setCell _ _ _ _ (fun e => by subst e; exact hp.elim hn (fun x => by omega))).trans (h.block k hk hn)⟩
theorem Turn.below {F : Nat → Prop} {B : Nat} {a b : World} (h : Turn F a b) (hB : B ≤ a.heap.size) (hF : ∀ k, k < B → ¬ F k) : Below B a b := ⟨h.os, h.tape, h.output, h.size, fun k hk => h.block k (Nat.lt_of_lt_of_le hk hB) (hF k hk)⟩
/-- On from a world that has come of the first one. -/
theorem Turn.on {F : Nat → Prop} {B : Nat} {w a b : World} (h : Below B w a) (k : Turn F a b) (hB : B ≤ a.heap.size) (hF : ∀ k, F k → B ≤ k) : Below B w b :=
  h.trans (k.below hB (fun i hi f => by have := hF i f; omega))
theorem Blk.same {g : Nat} {cs : Array Value} {t : TypeId} {w w' : World} (h : Blk g cs t w) (hs : w'.heap[g]? = w.heap[g]?) : Blk g cs t w' := hs.trans h
end Go.Proofs.Ytdgckjkdimnpoaa

namespace Go.Proofs.Ytdgckjkdimnpoaa
open Go Go.RowKit
set_option linter.unusedVariables false
set_option linter.unusedSimpArgs false

/-- An area, and the slices that hold it. -/
structure AR where
  a : PA
  vb : Value
  vk : Value
def AR.zero : AR := ⟨PA.zero, .slice none 0 0, .slice none 0 0⟩
end Go.Proofs.Ytdgckjkdimnpoaa

namespace Go.Proofs.Ytdgckjkdimnpoaa
open Go Go.RowKit
set_option maxRecDepth 100000
set_option linter.unusedVariables false
set_option linter.unusedSimpArgs false

/-- What a map is. -/
structure Df where
  hash : Bool
  key : Int
  val : Int
  max : Int
def Df.zero : Df := ⟨false, 0, 0, 0⟩
def Df.good (d : Df) : Bool := (if d.hash then decide (1 ≤ d.key) && decide (d.key ≤ 16) else d.key == 4) && decide (8 ≤ d.val) && decide (d.val ≤ 64) && (d.val % 8 == 0) && decide (1 ≤ d.max) && decide (d.max ≤ 16)
/-- A key, and its slot. -/
structure TK where
  k : List Int
  s : Nat
def TK.zero : TK := ⟨[], 0⟩
/-- A map: its keys by rising ones, how many slots came to be. -/
structure TM where
  d : Df
  L : List TK
  made : Nat
def TM.zero : TM := ⟨Df.zero, [], 0⟩
/-- Which of two keys stands ahead. -/
def kLt : List Int → List Int → Bool
  | _, [] => false
  | [], _ :: _ => true
  | a :: x, b :: y => decide (a < b) || (a == b && kLt x y)
/-- Maps as they may be. -/
structure TM.ok (m : TM) : Prop where
  good : m.d.good = true
  keys : ∀ x ∈ m.L, OkB x.k ∧ (x.k.length : Int) = m.d.key ∧ x.s < m.made
  rise : m.L.Pairwise fun x y => kLt x.k y.k = true
  few : (m.L.length : Int) ≤ m.d.max
  made : m.made ≤ 1024
/-! Keys, one ahead of the other. -/
/-! Keys as strings. -/
end Go.Proofs.Ytdgckjkdimnpoaa

namespace Go.Proofs.Ytdgckjkdimnpoaa
open Go Go.RowKit
set_option maxRecDepth 100000
set_option linter.unusedVariables false

structure Vl where
  k : Int
  n : Fc
  i : Int
  o : Int
theorem Vl.ext' {a b : Vl} (h1 : a.k = b.k) (h2 : a.n = b.n) (h3 : a.i = b.i) (h4 : a.o = b.o) : a = b := by
  cases a; cases b; simp_all
/-- A Val as a value; its cells. -/
abbrev vV (v : Vl) : Value := .agg #[.int .u8 v.k, uV v.n.1.1, uV v.n.1.2, .int .u64 v.n.2.1, .int .u64 v.n.2.2, .int .i64 v.i, .int .i64 v.o]
abbrev vCells (v : Vl) : Array Value := #[.int .u8 v.k, uV v.n.1.1, uV v.n.1.2, .int .u64 v.n.2.1, .int .u64 v.n.2.2, .int .i64 v.i, .int .i64 v.o]
abbrev vZc : Array Value := #[.int .u8 0, .int .u64 0, .int .u64 0, .int .u64 0, .int .u64 0, .int .i64 0, .int .i64 0]
def vB (g : Nat) (v : Vl) (w : World) : Prop := Blk g (vCells v) 30 w
theorem vB.new (w : World) (v : Vl) {g : Nat} (hg : g = w.heap.size) : vB g v (w.alloc (.cells (vCells v) 30)) := Blk.new w _ _ hg
theorem vB.lt {g : Nat} {v : Vl} {w : World} (h : vB g v w) : g < w.heap.size := Blk.lt h
theorem vB.after {g : Nat} {v : Vl} {w w' : World} (h : vB g v w) (b : Below w.heap.size w w') : vB g v w' := Blk.after h b
theorem vB.alloc {g : Nat} {v : Vl} {w : World} (h : vB g v w) (o : Obj) : vB g v (w.alloc o) := h.after (below_alloc (Below.refl _ _) o)
theorem vB.cells {g : Nat} {v : Vl} {w : World} (h : vB g v w) : w.cell? ⟨g, 0, none⟩ = some (.int .u8 v.k) ∧ w.cell? ⟨g, 1, none⟩ = some (uV v.n.1.1) ∧ w.cell? ⟨g, 2, none⟩ = some (uV v.n.1.2) ∧ w.cell? ⟨g, 3, none⟩ = some (.int .u64 v.n.2.1) ∧ w.cell? ⟨g, 4, none⟩ = some (.int .u64 v.n.2.2) ∧ w.cell? ⟨g, 5, none⟩ = some (.int .i64 v.i) ∧ w.cell? ⟨g, 6, none⟩ = some (.int .i64 v.o) :=
  ⟨Blk.cell h 0, Blk.cell h 1, Blk.cell h 2, Blk.cell h 3, Blk.cell h 4, Blk.cell h 5, Blk.cell h 6⟩
theorem vB.free {g : Nat} {v : Vl} {w : World} (h : vB g v w) (k : Nat) : w.frozen? ⟨g, k, none⟩ = false := Blk.free h k

theorem Blk.seven {g : Nat} {c0 c1 c2 c3 c4 c5 c6 : Value} {w : World} (h : Blk g #[c0, c1, c2, c3, c4, c5, c6] 30 w) : w.cell? ⟨g, 0, none⟩ = some c0 ∧ w.cell? ⟨g, 1, none⟩ = some c1 ∧ w.cell? ⟨g, 2, none⟩ = some c2 ∧ w.cell? ⟨g, 3, none⟩ = some c3 ∧ w.cell? ⟨g, 4, none⟩ = some c4 ∧ w.cell? ⟨g, 5, none⟩ = some c5 ∧ w.cell? ⟨g, 6, none⟩ = some c6 :=
  ⟨Blk.cell h 0, Blk.cell h 1, Blk.cell h 2, Blk.cell h 3, Blk.cell h 4, Blk.cell h 5, Blk.cell h 6⟩
theorem below_vals {B k : Nat} {w u : World} (h : Below B w u) (hk : B ≤ k) (a b c d e f g : Value) :
    Below B w (((((((u.setCell ⟨k, 0, none⟩ a).setCell ⟨k, 1, none⟩ b).setCell ⟨k, 2, none⟩ c).setCell ⟨k, 3, none⟩ d).setCell ⟨k, 4, none⟩ e).setCell ⟨k, 5, none⟩ f).setCell ⟨k, 6, none⟩ g) :=
  ((((((h.setCell (p := ⟨k, 0, none⟩) hk _).setCell (p := ⟨k, 1, none⟩) hk _).setCell (p := ⟨k, 2, none⟩) hk _).setCell (p := ⟨k, 3, none⟩) hk _).setCell (p := ⟨k, 4, none⟩) hk _).setCell (p := ⟨k, 5, none⟩) hk _).setCell (p := ⟨k, 6, none⟩) hk _

def vIn (v : Vl) : Prop := (0 ≤ v.k ∧ v.k ≤ 255) ∧ fIn v.n ∧ (-9223372036854775808 ≤ v.i ∧ v.i ≤ 9223372036854775807) ∧ (-9223372036854775808 ≤ v.o ∧ v.o ≤ 9223372036854775807)
def vZ : Vl := ⟨0, fZ, 0, 0⟩
/-- Are both the same? -/
def vEq (a b : Vl) : Bool := a.k == b.k && (a.n.1.1 == b.n.1.1 && (a.n.1.2 == b.n.1.2 && (a.n.2.1 == b.n.2.1 && (a.n.2.2 == b.n.2.2 && (a.i == b.i && a.o == b.o)))))
theorem vEq_iff {a b : Vl} : vEq a b = true ↔ a = b := by
  unfold vEq
  simp only [Bool.and_eq_true, beq_iff_eq]
  constructor
  · rintro ⟨h1, h2, h3, h4, h5, h6, h7⟩
    exact Vl.ext' h1 (Prod.ext (Prod.ext h2 h3) (Prod.ext h4 h5)) h6 h7
  · rintro rfl
    exact ⟨rfl, rfl, rfl, rfl, rfl, rfl, rfl⟩
theorem toNat_eq {x y : BitVec 64} : ((x.toNat : Int) = (y.toNat : Int)) = (x = y) := by
  rw [← BitVec.toNat_inj]; exact propext ⟨fun h => by omega, fun h => by omega⟩
theorem vEq_ite {α : Type} (a b : Vl) (x y : α) : (if a.k = b.k then if (a.n.1.1.toNat : Int) = b.n.1.1.toNat then if (a.n.1.2.toNat : Int) = b.n.1.2.toNat then if a.n.2.1 = b.n.2.1 then if a.n.2.2 = b.n.2.2 then if a.i = b.i then if a.o = b.o then x else y else y else y else y else y else y else y) = if vEq a b then x else y := by
  unfold vEq
  by_cases h1 : a.k = b.k <;> by_cases h2 : a.n.1.1 = b.n.1.1 <;> by_cases h3 : a.n.1.2 = b.n.1.2 <;> by_cases h4 : a.n.2.1 = b.n.2.1 <;> by_cases h5 : a.n.2.2 = b.n.2.2 <;> by_cases h6 : a.i = b.i <;> by_cases h7 : a.o = b.o <;> simp [h1, h2, h3, h4, h5, h6, h7, toNat_eq]
/-- With the fields alone that are said with its kind. -/
def vSaid (v : Vl) : Vl := if v.k = 1 then ⟨v.k, v.n, 0, 0⟩ else if v.k = 2 ∨ v.k = 3 then ⟨v.k, fZ, 0, v.o⟩ else if v.k = 4 ∨ v.k = 6 then ⟨v.k, fZ, v.i, 0⟩ else if v.k = 5 then ⟨v.k, fZ, v.i, v.o⟩ else vZ
def near (o : Int) : Bool := decide (-1048576 ≤ o) && decide (o ≤ 1048576)
def vR (v : Vl) : Bool := vEq v (vSaid v) && (fR v.n && (decide (0 ≤ v.i) && (decide (v.i < 8) && near v.o)))
def vNum (f : Fc) : Vl := if fR f then ⟨1, f, 0, 0⟩ else vZ
def vW (a b : Vl) : Bool := (vR a && vR b) && (b.k == 0 || (vEq a b || ((a.k == 1 && b.k == 1) && fWi a.n b.n)))
end Go.Proofs.Ytdgckjkdimnpoaa

namespace Go.Proofs.Ytdgckjkdimnpoaa
open Go.ChangeShapes Go.WideShapes Go.RowKit

/-- A cell's kind: a number's, or (none) a bool. -/
def LeafOk : Option IntKind → Value → Prop
  | some k, v => ∃ n, v = .int k n ∧ (Lit.int k n).wf = true
  | none, v => ∃ b, v = .bool b

/-- Cell j of a value of type t, looked for n deep. -/
def leafAt (P : Program) : Nat → TypeId → Nat → Option (Option IntKind)
  | 0, _, _ => none
  | n + 1, t, j =>
    match P.underlying t with
    | some (.int k) => if j = 0 then some (some k) else none
    | some .bool => if j = 0 then some none else none
    | some (.struct fs) => (fs.toList.find? fun f => decide (f.offset ≤ j ∧ j < f.offset + P.cellsOf f.type)).bind fun f => leafAt P n f.type (j - f.offset)
    | some (.array m e) => if P.cellsOf e = 0 then none else if j < m * P.cellsOf e then leafAt P n e (j % P.cellsOf e) else none
    | _ => none

section
variable {H : Type} {enc : TypeId × Value → H} {P : Program} {w : World} {base : Nat} {spare : Nat → Bool} {held : Bool}

theorem leaf_of_trod : ∀ (n fuel : Nat) (t : TypeId) (cs : List Value) (x : DataW H × List MemPlace) (j : Nat) (L : Option IntKind),
    DataW.trod enc P w base spare held fuel t cs = some x → leafAt P n t j = some L → ∃ v, cs[j]? = some v ∧ LeafOk L v := by
  intro n
  induction n with
  | zero => intro fuel t cs x j L _ hl; simp [leafAt] at hl
  | succ n ih =>
    intro fuel t cs x j L h hl
    unfold leafAt at hl
    split at hl
    · rename_i k hk
      obtain ⟨m, rfl, _, hw⟩ := DataW.trod_int hk h
      split at hl
      · rename_i hj
        subst hj
        cases hl
        exact ⟨_, rfl, m, rfl, hw⟩
      · cases hl
    · rename_i hk
      obtain ⟨b, rfl, _⟩ := DataW.trod_bool hk h
      split at hl
      · rename_i hj
        subst hj
        cases hl
        exact ⟨_, rfl, b, rfl⟩
      · cases hl
    · rename_i fs hk
      obtain ⟨xs, m, _, _, _, hlen, hf⟩ := DataW.trod_struct hk h
      obtain ⟨f, hfind, hrest⟩ := Option.bind_eq_some_iff.1 hl
      have hmem := List.mem_of_find?_eq_some hfind
      have hp := List.find?_some hfind
      simp only [decide_eq_true_eq] at hp
      obtain ⟨i, hi, hget⟩ := List.getElem_of_mem hmem
      have hif : fs[i]? = some f := by
        have : i < fs.size := by simpa using hi
        rw [Array.getElem?_eq_getElem this]
        simpa using hget
      have hx : xs[i]? = some (xs[i]'(by rw [hlen]; simpa using hi)) := List.getElem?_eq_getElem _
      have h1 := (hf i f hif).trans hx
      obtain ⟨v, hv, hok⟩ := ih _ _ _ _ _ _ h1 hrest
      refine ⟨v, ?_, hok⟩
      rw [List.getElem?_take, if_pos (by omega), List.getElem?_drop] at hv
      rw [← hv]
      congr 1
      omega
    · rename_i m e hk
      obtain ⟨xs, k, _, _, _, hlen, hf⟩ := DataW.trod_array hk h
      split at hl
      · cases hl
      · rename_i hne
        split at hl
        · rename_i hlt
          have hpos : 0 < P.cellsOf e := Nat.pos_of_ne_zero hne
          have hdm := Nat.div_add_mod j (P.cellsOf e)
          have hq : j / P.cellsOf e < m := (Nat.div_lt_iff_lt_mul hpos).2 hlt
          have hr := Nat.mod_lt j hpos
          have hx : xs[j / P.cellsOf e]? = some (xs[j / P.cellsOf e]'(by omega)) := List.getElem?_eq_getElem _
          have h1 := (hf _ hq).trans hx
          obtain ⟨v, hv, hok⟩ := ih _ _ _ _ _ _ h1 hl
          refine ⟨v, ?_, hok⟩
          rw [List.getElem?_take, if_pos hr, List.getElem?_drop] at hv
          rw [← hv]
          congr 1
          rw [Nat.mul_comm] at hdm
          omega
        · cases hl
    · cases hl

/-- A value that reads: cell j of it. -/
theorem leaf_of_Trod {t : TypeId} {v : Value} {d : DataW H} {p : List MemPlace} (h : DataW.Trod enc P w base spare held t v d p) (n j : Nat) {L : Option IntKind} (hl : leafAt P n t j = some L) :
    ∃ u, v.cells.toList[j]? = some u ∧ LeafOk L u := by
  obtain ⟨fuel, hf⟩ := h
  exact leaf_of_trod n fuel t _ _ j L hf hl

theorem agg_of_struct {r : Reach} {b0 : Nat} {t : TypeId} {fs : Array Field} {v : Value} (ht : P.underlying t = some (.struct fs)) (hv : Value.okWide P w r b0 t v) :
    ∃ l : List Value, v = .agg ⟨l⟩ ∧ l.length = P.cellsOf t := by
  obtain ⟨cs, rfl, hs⟩ := okWide_struct ht hv
  exact ⟨cs.toList, by simp, by simpa using hs⟩
end

theorem LeafOk.int_ {k : IntKind} {l : List Value} {j : Nat} (h : ∃ u, l[j]? = some u ∧ LeafOk (some k) u) : ∃ n, l[j]? = some (.int k n) ∧ (Lit.int k n).wf = true := by
  obtain ⟨u, hu, n, rfl, hw⟩ := h
  exact ⟨n, hu, hw⟩
end Go.Proofs.Ytdgckjkdimnpoaa

namespace Go.Proofs.Ytdgckjkdimnpoaa
open Go Go.RowKit
set_option maxRecDepth 100000
set_option linter.unusedVariables false
set_option linter.unusedSimpArgs false

set_option maxRecDepth 100000 in
set_option maxHeartbeats 4000000 in
theorem vp_said (v : Vl) (w : World) : Calls Try.prog 47 #[vV v] w (Gives (vV (vSaid v)) w) := by
  have hx := Lib.hid (((Blks.start w).new (vCells v) 30).new vZc 30)
  obtain ⟨c0, c1, c2, c3, c4, c5, c6⟩ := vB.cells (hx.out.get (g := w.heap.size) (cs := vCells v) (t := 30) (by simp))
  have y := hx.out.get (g := w.heap.size + 1) (cs := vZc) (t := 30) (by simp)
  obtain ⟨y0, y1, y2, y3, y4, y5, y6⟩ := Blk.seven y
  clear y hx
  cases h1 : (v.k == 1)
  rotate_left
  · have e : vSaid v = ⟨v.k, v.n, 0, 0⟩ := by unfold vSaid; simp [beq_iff_eq] at h1; simp [h1]
    rw [e]
    clear e
    go_enter Try.func47, Try.ntmps47
    go_wp2_with fail
    exact bodyPost_ret (v := vV ⟨v.k, v.n, 0, 0⟩) (by simp [results, Try.results47, go_sem, y0, y1, y2, y3, y4, y5, y6, fZ, vZ]) rfl ⟨rfl, below_alloc (below_alloc (Below.refl _ _) _) _⟩
  cases h2 : (v.k == 2)
  rotate_left
  · have e : vSaid v = ⟨v.k, fZ, 0, v.o⟩ := by unfold vSaid; simp [beq_iff_eq] at h1 h2; simp [h1, h2]
    rw [e]
    clear e
    go_enter Try.func47, Try.ntmps47
    go_wp2_with fail
    exact bodyPost_ret (v := vV ⟨v.k, fZ, 0, v.o⟩) (by simp [results, Try.results47, go_sem, y0, y1, y2, y3, y4, y5, y6, fZ, vZ]) rfl ⟨rfl, below_alloc (below_alloc (Below.refl _ _) _) _⟩
  cases h3 : (v.k == 3)
  rotate_left
  · have e : vSaid v = ⟨v.k, fZ, 0, v.o⟩ := by unfold vSaid; simp [beq_iff_eq] at h1 h2 h3; simp [h1, h2, h3]
    rw [e]
    clear e
    go_enter Try.func47, Try.ntmps47
    go_wp2_with fail
    exact bodyPost_ret (v := vV ⟨v.k, fZ, 0, v.o⟩) (by simp [results, Try.results47, go_sem, y0, y1, y2, y3, y4, y5, y6, fZ, vZ]) rfl ⟨rfl, below_alloc (below_alloc (Below.refl _ _) _) _⟩
  cases h4 : (v.k == 4)
  rotate_left
  · have e : vSaid v = ⟨v.k, fZ, v.i, 0⟩ := by unfold vSaid; simp [beq_iff_eq] at h1 h2 h3 h4; simp [h1, h2, h3, h4]
    rw [e]
    clear e
    go_enter Try.func47, Try.ntmps47
    go_wp2_with fail
    exact bodyPost_ret (v := vV ⟨v.k, fZ, v.i, 0⟩) (by simp [results, Try.results47, go_sem, y0, y1, y2, y3, y4, y5, y6, fZ, vZ]) rfl ⟨rfl, below_alloc (below_alloc (Below.refl _ _) _) _⟩
  cases h6 : (v.k == 6)
  rotate_left
  · have e : vSaid v = ⟨v.k, fZ, v.i, 0⟩ := by unfold vSaid; simp [beq_iff_eq] at h1 h2 h3 h4 h6; simp [h1, h2, h3, h4, h6]
    rw [e]
    clear e
    go_enter Try.func47, Try.ntmps47
    go_wp2_with fail
    exact bodyPost_ret (v := vV ⟨v.k, fZ, v.i, 0⟩) (by simp [results, Try.results47, go_sem, y0, y1, y2, y3, y4, y5, y6, fZ, vZ]) rfl ⟨rfl, below_alloc (below_alloc (Below.refl _ _) _) _⟩
  cases h5 : (v.k == 5)
  rotate_left
  · have e : vSaid v = ⟨v.k, fZ, v.i, v.o⟩ := by unfold vSaid; simp [beq_iff_eq] at h1 h2 h3 h4 h6 h5; simp [h1, h2, h3, h4, h6, h5]
    rw [e]
    clear e
    go_enter Try.func47, Try.ntmps47
    go_wp2_with fail
    exact bodyPost_ret (v := vV ⟨v.k, fZ, v.i, v.o⟩) (by simp [results, Try.results47, go_sem, y0, y1, y2, y3, y4, y5, y6, fZ, vZ]) rfl ⟨rfl, below_alloc (below_alloc (Below.refl _ _) _) _⟩
  · have e : vSaid v = vZ := by unfold vSaid; simp [beq_iff_eq] at h1 h2 h3 h4 h6 h5; simp [h1, h2, h3, h4, h6, h5]
    rw [e]
    clear e
    go_enter Try.func47, Try.ntmps47
    go_wp2_with fail
    exact bodyPost_ret (v := vV vZ) (by simp [results, Try.results47, go_sem, y0, y1, y2, y3, y4, y5, y6, fZ, vZ]) rfl ⟨rfl, below_alloc (below_alloc (Below.refl _ _) _) _⟩
theorem vp_near (n : Int) (w : World) : Calls Try.prog 49 #[.int .i64 n] w (Gives (.bool (near n)) w) := by
  unfold near
  by_cases h1 : -1048576 ≤ n
  · by_cases h2 : n ≤ 1048576
    · rw [decide_eq_true h1, decide_eq_true h2]
      go_enter Try.func49, Try.ntmps49
      go_wp2_with fail
      go_ret
      exact ⟨rfl, Below.refl _ _⟩
    · rw [decide_eq_true h1, decide_eq_false h2]
      go_enter Try.func49, Try.ntmps49
      go_wp2_with fail
      go_ret
      exact ⟨rfl, Below.refl _ _⟩
  · rw [decide_eq_false h1]
    go_enter Try.func49, Try.ntmps49
    go_wp2_with fail
    go_ret
    exact ⟨rfl, Below.refl _ _⟩

end Go.Proofs.Ytdgckjkdimnpoaa
