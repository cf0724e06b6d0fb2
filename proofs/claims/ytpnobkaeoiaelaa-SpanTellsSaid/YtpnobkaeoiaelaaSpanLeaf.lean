/-
  What span's small functions answer, as contracts over their translated bodies.
  Conditions: none.
-/
import Derived.Test.YtpnobkaeoiaelaaSpanPlain
import Derived.Test.YtpnobkaeoiaelaaGives
namespace Go.Proofs.Ytpnobkaeoiaelaa
open Go.RowKit
set_option linter.unusedVariables false

/-- A span, and whether there is one. -/
abbrev sBV (s : Sp) (b : Bool) : Value := .tuple #[sV s, .bool b]
/-- A block that holds a span. -/
def sB (g : Nat) (s : Sp) (w : World) : Prop := Blk g #[.int .u64 s.1, .int .u64 s.2] 24 w
theorem sB.new (w : World) (s : Sp) {g : Nat} (hg : g = w.heap.size) : sB g s (w.alloc (.cells #[.int .u64 s.1, .int .u64 s.2] 24)) := Blk.new w _ _ hg
theorem sB.lt {g : Nat} {s : Sp} {w : World} (h : sB g s w) : g < w.heap.size := Blk.lt h
theorem sB.after {g : Nat} {s : Sp} {w w' : World} (h : sB g s w) (b : Below w.heap.size w w') : sB g s w' := Blk.after h b
theorem sB.alloc {g : Nat} {s : Sp} {w : World} (h : sB g s w) (o : Obj) : sB g s (w.alloc o) := h.after (below_alloc (Below.refl _ _) o)
theorem sB.cells {g : Nat} {s : Sp} {w : World} (h : sB g s w) : w.cell? ⟨g, 0, none⟩ = some (.int .u64 s.1) ∧ w.cell? ⟨g, 1, none⟩ = some (.int .u64 s.2) := ⟨Blk.cell h 0, Blk.cell h 1⟩
theorem sB.free {g : Nat} {s : Sp} {w : World} (h : sB g s w) : w.frozen? ⟨g, 0, none⟩ = false ∧ w.frozen? ⟨g, 1, none⟩ = false := ⟨Blk.free h 0, Blk.free h 1⟩
theorem sB.set {g : Nat} {s : Sp} {w : World} (h : sB g s w) (t : Sp) : sB g t ((w.setCell ⟨g, 0, none⟩ (.int .u64 t.1)).setCell ⟨g, 1, none⟩ (.int .u64 t.2)) :=
  Blk.set (Blk.set h 0 (.int .u64 t.1)) 1 (.int .u64 t.2)
theorem sB.other {g k o : Nat} {s : Sp} {w : World} (h : sB g s w) (v : Value) (hk : g ≠ k) : sB g s (w.setCell ⟨k, o, none⟩ v) := Blk.other h v hk

/-- The blocks of two arguments, in whatever world has come of them; and behind them a result's. -/
def SPair (a b : Sp) (w u : World) : Prop := Below w.heap.size w u ∧ sB w.heap.size a u ∧ sB (w.heap.size + 1) b u
theorem SPair.new (a b : Sp) (w : World) : SPair a b w ((w.alloc (.cells #[.int .u64 a.1, .int .u64 a.2] 24)).alloc (.cells #[.int .u64 b.1, .int .u64 b.2] 24)) :=
  ⟨below_alloc (below_alloc (Below.refl _ _) _) _, (sB.new w a rfl).alloc _, sB.new _ b (by simp)⟩
theorem SPair.after {a b : Sp} {w u u' : World} (h : SPair a b w u) (k : Below u.heap.size u u') : SPair a b w u' := ⟨below_next' h.1 k, h.2.1.after k, h.2.2.after k⟩
theorem SPair.alloc {a b : Sp} {w u : World} (h : SPair a b w u) (o : Obj) : SPair a b w (u.alloc o) := h.after (below_alloc (Below.refl _ _) o)
def STrio (a b t : Sp) (w u : World) : Prop := SPair a b w u ∧ sB (w.heap.size + 1 + 1) t u
theorem STrio.new (a b : Sp) (w : World) : STrio a b (0, 0) w (((w.alloc (.cells #[.int .u64 a.1, .int .u64 a.2] 24)).alloc (.cells #[.int .u64 b.1, .int .u64 b.2] 24)).alloc (.cells #[.int .u64 0, .int .u64 0] 24)) :=
  ⟨(SPair.new a b w).alloc _, sB.new _ (0, 0) (by simp)⟩
theorem STrio.after {a b t : Sp} {w u u' : World} (h : STrio a b t w u) (k : Below u.heap.size u u') : STrio a b t w u' := ⟨h.1.after k, h.2.after k⟩
theorem STrio.set {a b t : Sp} {w u : World} (h : STrio a b t w u) (s : Sp) : STrio a b s w ((u.setCell ⟨w.heap.size + 1 + 1, 0, none⟩ (.int .u64 s.1)).setCell ⟨w.heap.size + 1 + 1, 1, none⟩ (.int .u64 s.2)) :=
  ⟨⟨(h.1.1.setCell (by simp; omega) _).setCell (by simp; omega) _, (h.1.2.1.other _ (by omega)).other _ (by omega), (h.1.2.2.other _ (by omega)).other _ (by omega)⟩, h.2.set s⟩
theorem STrio.setA {a b t : Sp} {w u : World} (h : STrio a b t w u) (v : Int) : STrio (v, a.2) b t w (u.setCell ⟨w.heap.size, 0, none⟩ (.int .u64 v)) :=
  ⟨⟨h.1.1.setCell (by simp) _, Blk.set h.1.2.1 0 (.int .u64 v), h.1.2.2.other _ (by omega)⟩, h.2.other _ (by omega)⟩
theorem STrio.setB {a b t : Sp} {w u : World} (h : STrio a b t w u) (v : Int) : STrio (a.1, v) b t w (u.setCell ⟨w.heap.size, 1, none⟩ (.int .u64 v)) :=
  ⟨⟨h.1.1.setCell (by simp) _, Blk.set h.1.2.1 1 (.int .u64 v), h.1.2.2.other _ (by omega)⟩, h.2.other _ (by omega)⟩

theorem sright_says (s : Sp) (w : World) : Calls Try.prog 11 #[sV s] w (Gives (.bool (sR s)) w) := by
  go_enter Try.func11, Try.ntmps11
  go_wp2
  go_ret
  exact ⟨end_bool rfl, below_alloc (Below.refl _ _) _⟩
theorem sall_says (w : World) : Calls Try.prog 13 #[] w (Gives (sV sAll) w) := by
  go_enter Try.func13, Try.ntmps13
  go_wp2
  refine bodyPost_ret (v := sV sAll) (by simp [results, Try.results13, go_sem, sAll]) rfl ⟨rfl, ?_⟩
  exact below_alloc (Below.refl _ _) _
theorem shas_says (s : Sp) (n : Int) (w : World) : Calls Try.prog 15 #[sV s, .int .u64 n] w (Gives (.bool (sH s n)) w) := by
  unfold sH
  rcases int_lt_or n s.1 with h | h
  · have e1 : decide (s.1 ≤ n) = false := decide_eq_false (by omega)
    rw [e1]
    clear e1
    go_enter Try.func15, Try.ntmps15
    go_wp2
    go_ret
    exact ⟨rfl, below_alloc (Below.refl _ _) _⟩
  · have e1 : decide (s.1 ≤ n) = true := decide_eq_true (by omega)
    rw [e1]
    clear e1
    go_enter Try.func15, Try.ntmps15
    go_wp2
    go_ret
    exact ⟨rfl, below_alloc (Below.refl _ _) _⟩
theorem stold_says (l h : Int) (w : World) : Calls Try.prog 27 #[.int .u64 l, .int .u64 h] w (Gives (sBV (sT l h) (sTok l h)) w) := by
  unfold sT sTok
  rcases int_lt_or h l with k | k
  · rw [if_pos k, decide_eq_false (by omega)]
    go_enter Try.func27, Try.ntmps27
    go_wp2
    exact bodyPost_ret (v := sBV (0, 0) false) (by simp [results, Try.results27, go_sem]) rfl ⟨rfl, below_alloc (Below.refl _ _) _⟩
  · rw [if_neg (by omega), decide_eq_true (by omega)]
    go_enter Try.func27, Try.ntmps27
    go_wp2
    exact bodyPost_ret (v := sBV (l, h) true) (by simp [results, Try.results27, go_sem]) rfl ⟨rfl, below_alloc (Below.refl _ _) _⟩
set_option maxHeartbeats 1000000 in
theorem smeet_says (a b : Sp) (w : World) : Calls Try.prog 8 #[sV a, sV b] w (Gives (sBV (sM a b) (sMok a b)) w) := by
  unfold sM sMok
  have hx := Lib.hid (STrio.new a b w)
  have T := Lib.hid (stold_says (max a.1 b.1) (min a.2 b.2))
  generalize sT (max a.1 b.1) (min a.2 b.2) = t at *
  generalize sTok (max a.1 b.1) (min a.2 b.2) = k at *
  have e1 : max a.1 b.1 = if a.1 < b.1 then b.1 else a.1 := by split <;> omega
  have e2 : min a.2 b.2 = if b.2 < a.2 then b.2 else a.2 := by split <;> omega
  rw [e1, e2] at T
  clear e1 e2
  rcases int_lt_or a.1 b.1 with h1 | h1
  all_goals
    rcases int_lt_or b.2 a.2 with h2 | h2
  all_goals
    first | rw [if_pos h1] at T | rw [if_neg (by omega)] at T
    first | rw [if_pos h2] at T | rw [if_neg (by omega)] at T
    go_enter Try.func8, Try.ntmps8
    go_wp2_with fail
    refine (T.out _).mono ?_; rintro e w1 ⟨rfl, b1⟩
    have x1 := hx.out.after b1
    obtain ⟨c0, c1⟩ := x1.2.cells
    obtain ⟨f0, f1⟩ := x1.2.free
    have X1 := Lib.hid (x1.set t)
    clear x1 hx b1
    go_wp2_with fail
    exact bodyPost_ret (v := sBV t k) (by simp [results, Try.results8, go_sem, c0, c1]) rfl ⟨rfl, X1.out.1.1⟩
theorem sboth_says (a b : Sp) (w : World) : Calls Try.prog 29 #[sV a, sV b] w (Gives (.bool (sRR a b)) w) := by
  have h1 := Lib.hid (sright_says a)
  have h2 := Lib.hid (sright_says b)
  have hx := Lib.hid (SPair.new a b w)
  unfold sRR
  generalize sR b = y at *
  cases ha : sR a
  · rw [ha] at h1
    clear ha
    go_enter Try.func29, Try.ntmps29
    go_wp2_with fail
    refine (h1.out _).mono ?_; rintro e w1 ⟨rfl, b1⟩
    go_wp2_with fail
    go_ret
    exact ⟨rfl, (hx.out.after b1).1⟩
  · rw [ha] at h1
    clear ha
    go_enter Try.func29, Try.ntmps29
    go_wp2_with fail
    refine (h1.out _).mono ?_; rintro e w1 ⟨rfl, b1⟩
    have x1 := hx.out.after b1
    obtain ⟨p0, p1⟩ := x1.2.2.cells
    have X1 := Lib.hid x1
    clear x1 hx b1
    go_wp2_with fail
    refine (h2.out _).mono ?_; rintro e w2 ⟨rfl, b2⟩
    go_wp2_with fail
    go_ret
    exact ⟨rfl, (X1.out.after b2).1⟩
set_option maxHeartbeats 1000000 in
theorem swithin_says (a b : Sp) (w : World) : Calls Try.prog 17 #[sV a, sV b] w (Gives (.bool (sW a b)) w) := by
  have h1 := Lib.hid (sboth_says a b)
  have hx := Lib.hid (SPair.new a b w)
  unfold sW
  cases ha : sRR a b
  · rw [ha] at h1
    clear ha
    go_enter Try.func17, Try.ntmps17
    go_wp2_with fail
    refine (h1.out _).mono ?_; rintro e w1 ⟨rfl, b1⟩
    go_wp2_with fail
    go_ret
    exact ⟨rfl, (hx.out.after b1).1⟩
  · rw [ha] at h1
    clear ha
    rcases int_lt_or a.1 b.1 with h | h
    · rw [decide_eq_false (p := b.1 ≤ a.1) (by omega)]
      go_enter Try.func17, Try.ntmps17
      go_wp2_with fail
      refine (h1.out _).mono ?_; rintro e w1 ⟨rfl, b1⟩
      have x1 := hx.out.after b1
      obtain ⟨p0, p1⟩ := x1.2.2.cells
      obtain ⟨q0, q1⟩ := x1.2.1.cells
      have X1 := Lib.hid x1
      clear x1 hx b1
      go_wp2_with fail
      go_ret
      exact ⟨rfl, X1.out.1⟩
    · rw [decide_eq_true (p := b.1 ≤ a.1) (by omega)]
      go_enter Try.func17, Try.ntmps17
      go_wp2_with fail
      refine (h1.out _).mono ?_; rintro e w1 ⟨rfl, b1⟩
      have x1 := hx.out.after b1
      obtain ⟨p0, p1⟩ := x1.2.2.cells
      obtain ⟨q0, q1⟩ := x1.2.1.cells
      have X1 := Lib.hid x1
      clear x1 hx b1
      go_wp2_with fail
      go_ret
      exact ⟨rfl, X1.out.1⟩
set_option maxHeartbeats 1000000 in
theorem sjoin_says (a b : Sp) (w : World) : Calls Try.prog 19 #[sV a, sV b] w (Gives (sV (sJ a b)) w) := by
  have h1 := Lib.hid (sboth_says a b)
  have hx := Lib.hid (STrio.new a b w)
  unfold sJ
  cases ha : sRR a b
  · rw [ha] at h1
    clear ha
    go_enter Try.func19, Try.ntmps19
    go_wp2_with fail
    refine (h1.out _).mono ?_; rintro e w1 ⟨rfl, b1⟩
    have x1 := hx.out.after b1
    obtain ⟨c0, c1⟩ := x1.2.cells
    obtain ⟨f0, f1⟩ := x1.2.free
    have X1 := Lib.hid (x1.set (0, 0))
    clear x1 hx b1
    go_wp2_with fail
    exact bodyPost_ret (v := sV (0, 0)) (by simp [results, Try.results19, go_sem, c0, c1]) rfl ⟨rfl, X1.out.1.1⟩
  · rw [ha] at h1
    rw [if_pos rfl]
    clear ha
    have e1 : min a.1 b.1 = if b.1 < a.1 then b.1 else a.1 := by split <;> omega
    have e2 : max a.2 b.2 = if a.2 < b.2 then b.2 else a.2 := by split <;> omega
    rw [e1, e2]
    clear e1 e2
    rcases int_lt_or b.1 a.1 with k1 | k1
    all_goals
      rcases int_lt_or a.2 b.2 with k2 | k2
    all_goals
      first | rw [if_pos k1] | rw [if_neg (by omega)]
      first | rw [if_pos k2] | rw [if_neg (by omega)]
      go_enter Try.func19, Try.ntmps19
      go_wp2_with fail
      refine (h1.out _).mono ?_; rintro e w1 ⟨rfl, b1⟩
      have x1 := hx.out.after b1
      obtain ⟨c0, c1⟩ := x1.2.cells
      obtain ⟨p0, p1⟩ := x1.1.2.2.cells
      obtain ⟨q0, q1⟩ := x1.1.2.1.cells
      obtain ⟨f0, f1⟩ := x1.2.free
      have X1 := Lib.hid x1
      clear x1 hx b1
      go_wp2_with fail
      first
        | exact bodyPost_ret (v := sV (a.1, a.2)) (by simp [results, Try.results19, go_sem, c0, c1]) rfl ⟨rfl, (X1.out.set (a.1, a.2)).1.1⟩
        | exact bodyPost_ret (v := sV (a.1, b.2)) (by simp [results, Try.results19, go_sem, c0, c1]) rfl ⟨rfl, (X1.out.set (a.1, b.2)).1.1⟩
        | exact bodyPost_ret (v := sV (b.1, a.2)) (by simp [results, Try.results19, go_sem, c0, c1]) rfl ⟨rfl, (X1.out.set (b.1, a.2)).1.1⟩
        | exact bodyPost_ret (v := sV (b.1, b.2)) (by simp [results, Try.results19, go_sem, c0, c1]) rfl ⟨rfl, (X1.out.set (b.1, b.2)).1.1⟩

end Go.Proofs.Ytpnobkaeoiaelaa
