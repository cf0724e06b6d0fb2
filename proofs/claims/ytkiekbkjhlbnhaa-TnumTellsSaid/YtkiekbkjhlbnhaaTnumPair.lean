/-
  What tnum's functions of two answer: add, sub, Within, and Cut.
  Conditions: none.
-/
import Derived.Test.YtkiekbkjhlbnhaaTnumLeaf
import Derived.Test.YtkiekbkjhlbnhaaAluMath
namespace Go.Proofs.Ytkiekbkjhlbnhaa
open Go.RowKit
set_option linter.unusedVariables false

/-- The boxes of two arguments, in whatever world has come of them. -/
def Pair (a b : Tn) (w u : World) : Prop := Below w.heap.size w u ∧ Box w.heap.size a u ∧ Box (w.heap.size + 1) b u
theorem Pair.new (a b : Tn) (w : World) : Pair a b w ((w.alloc (.cells #[uV a.1, uV a.2] 24)).alloc (.cells #[uV b.1, uV b.2] 24)) :=
  ⟨below_alloc (below_alloc (Below.refl _ _) _) _, (Box.new w a rfl).alloc _, Box.new _ b (by simp)⟩
theorem Pair.after {a b : Tn} {w u u' : World} (h : Pair a b w u) (k : Below u.heap.size u u') : Pair a b w u' := ⟨below_next' h.1 k, h.2.1.after k, h.2.2.after k⟩
theorem Pair.alloc {a b : Tn} {w u : World} (h : Pair a b w u) (o : Obj) : Pair a b w (u.alloc o) := h.after (below_alloc (Below.refl _ _) o)
theorem Pair.cells {a b : Tn} {w u : World} (h : Pair a b w u) : u.cell? ⟨w.heap.size, 0, none⟩ = some (uV a.1) ∧ u.cell? ⟨w.heap.size, 1, none⟩ = some (uV a.2) ∧
    u.cell? ⟨w.heap.size + 1, 0, none⟩ = some (uV b.1) ∧ u.cell? ⟨w.heap.size + 1, 1, none⟩ = some (uV b.2) := ⟨h.2.1.cells.1, h.2.1.cells.2, h.2.2.cells.1, h.2.2.cells.2⟩
/-- The same, and behind them a third box, a result's. -/
def Trio (a b t : Tn) (w u : World) : Prop := Pair a b w u ∧ Box (w.heap.size + 1 + 1) t u
theorem Trio.new (a b : Tn) (w : World) : Trio a b (0#64, 0#64) w (((w.alloc (.cells #[uV a.1, uV a.2] 24)).alloc (.cells #[uV b.1, uV b.2] 24)).alloc (.cells #[.int .u64 0, .int .u64 0] 24)) :=
  ⟨(Pair.new a b w).alloc _, Box.new _ (0#64, 0#64) (by simp)⟩
theorem Trio.after {a b t : Tn} {w u u' : World} (h : Trio a b t w u) (k : Below u.heap.size u u') : Trio a b t w u' := ⟨h.1.after k, h.2.after k⟩
theorem Trio.alloc {a b t : Tn} {w u : World} (h : Trio a b t w u) (o : Obj) : Trio a b t w (u.alloc o) := h.after (below_alloc (Below.refl _ _) o)
theorem Trio.set {a b t : Tn} {w u : World} (h : Trio a b t w u) (s : Tn) : Trio a b s w ((u.setCell ⟨w.heap.size + 1 + 1, 0, none⟩ (uV s.1)).setCell ⟨w.heap.size + 1 + 1, 1, none⟩ (uV s.2)) :=
  ⟨⟨(h.1.1.setCell (by simp; omega) _).setCell (by simp; omega) _, (h.1.2.1.other _ (by omega)).other _ (by omega), (h.1.2.2.other _ (by omega)).other _ (by omega)⟩, h.2.set s⟩

theorem bv_add' (x y : BitVec 64) : IntKind.u64.wrap ((x.toNat : Int) + (y.toNat : Int)) = ((x + y).toNat : Int) := by rw [IntKind.wrap_u64, bv_add]
theorem bv_sub' (x y : BitVec 64) : IntKind.u64.wrap ((x.toNat : Int) - (y.toNat : Int)) = ((x - y).toNat : Int) := by rw [IntKind.wrap_u64, bv_sub]

theorem low_int (x : BitVec 64) (k : Nat) : ((tLow x k).toNat : Int) = (x.toNat : Int) % 2 ^ k := by
  unfold tLow
  rw [BitVec.toNat_ofNat, Nat.mod_eq_of_lt (Nat.lt_of_le_of_lt (Nat.mod_le _ _) x.isLt)]
  simp
theorem mask_int (k : Nat) (h : k ≤ 63) : IntKind.u64.wrap (IntKind.u64.wrap (2 ^ k) - 1) = 2 ^ k - 1 := by
  have h1 := pow_lt_64 k h
  have h2 := pow_le_64 k (by omega)
  rw [IntKind.wrap_u64, IntKind.wrap_u64, h1]
  omega
theorem low_and (x : BitVec 64) (k : Nat) (h : k ≤ 63) : bits .and .u64 (x.toNat : Int) (IntKind.u64.wrap (IntKind.u64.wrap (2 ^ k) - 1)) = ((tLow x k).toNat : Int) := by
  rw [mask_int k h, and_mask _ k (by omega) (bv_rng x).1 (bv_rng x).2, low_int]

set_option maxHeartbeats 1000000 in
theorem add_says (a b : Tn) (w : World) : Calls Try.prog 33 #[tV a, tV b] w (Gives (tV (tAdd a b)) w) := by
  have hx := Lib.hid (Trio.new a b w)
  have ht := Lib.hid (show tMade (a.1 + b.1) (((a.2 + b.2 + (a.1 + b.1)) ^^^ (a.1 + b.1)) ||| a.2 ||| b.2) = tAdd a b from rfl)
  go_enter Try.func33, Try.ntmps33
  go_wp2_with fail
  simp only [bv_add', bv_xor, bv_or]
  refine (made_says _ _ _).mono ?_; rintro e w1 ⟨rfl, b1⟩
  rw [ht.out]
  have x1 := hx.out.after b1
  clear ht hx b1
  generalize tAdd a b = t at *
  obtain ⟨c0, c1⟩ := x1.2.cells
  obtain ⟨f0, f1⟩ := x1.2.free
  have X1 := Lib.hid (x1.set t)
  clear x1
  go_wp2_with fail
  exact bodyPost_ret (v := tV t) (by simp [results, Try.results33, go_sem, c0, c1]) rfl ⟨rfl, X1.out.1.1⟩
set_option maxHeartbeats 1000000 in
theorem sub_says (a b : Tn) (w : World) : Calls Try.prog 34 #[tV a, tV b] w (Gives (tV (tSub a b)) w) := by
  have hx := Lib.hid (Trio.new a b w)
  have ht := Lib.hid (show tMade (a.1 - b.1) (((a.1 - b.1 + a.2) ^^^ (a.1 - b.1 - b.2)) ||| a.2 ||| b.2) = tSub a b from rfl)
  go_enter Try.func34, Try.ntmps34
  go_wp2_with fail
  go_quiet (fail)
  simp only [bv_sub', bv_add']
  generalize a.1 - b.1 = v at *
  generalize v + a.2 = p at *
  generalize v - b.2 = q at *
  go_wp2_with fail
  simp only [bv_xor, bv_or]
  refine (made_says _ _ _).mono ?_; rintro e w1 ⟨rfl, b1⟩
  rw [ht.out]
  have x1 := (hx.out.after (below_drewN (Below.refl _ _) nq)).after b1
  clear ht hx b1
  generalize tSub a b = t at *
  obtain ⟨c0, c1⟩ := x1.2.cells
  obtain ⟨f0, f1⟩ := x1.2.free
  have X1 := Lib.hid (x1.set t)
  clear x1
  go_wp2_with fail
  exact bodyPost_ret (v := tV t) (by simp [results, Try.results34, go_sem, c0, c1]) rfl ⟨rfl, X1.out.1.1⟩
set_option maxHeartbeats 1000000 in
theorem within_says (a b : Tn) (w : World) : Calls Try.prog 18 #[tV a, tV b] w (Gives (.bool (tW a b)) w) := by
  have hx := Lib.hid (Pair.new a b w)
  have h1 := Lib.hid (right_says a)
  have h2 := Lib.hid (has_says b a.1)
  have e1 := Lib.hid (show (bits .andNot .u64 (a.2.toNat : Int) (b.2.toNat : Int) == 0) = (a.2 &&& ~~~b.2 == 0#64) by rw [bv_andNot, bv_eq0])
  unfold tW
  generalize tR a = r1 at *
  generalize tH b a.1 = r2 at *
  generalize (a.2 &&& ~~~b.2 == 0#64) = r3 at *
  go_enter Try.func18, Try.ntmps18
  go_wp2_with fail
  refine (h1.out _).mono ?_; rintro e w1 ⟨rfl, b1⟩
  have x1 := hx.out.after b1
  obtain ⟨p0, p1, p2, p3⟩ := x1.cells
  have X1 := Lib.hid x1
  clear x1 b1
  cases r1
  · go_wp2_with fail
    go_ret
    exact ⟨rfl, X1.out.1⟩
  · cases r3
    · have e2 := e1.out
      clear e1
      go_wp2_with fail
      go_ret
      exact ⟨rfl, X1.out.1⟩
    · have e2 := e1.out
      clear e1
      go_wp2_with fail
      refine (h2.out _).mono ?_; rintro e w2 ⟨rfl, b2⟩
      go_wp2_with fail
      go_ret
      exact ⟨rfl, below_next' X1.out.1 b2⟩

/-- The box of one argument, and behind it a result's. -/
def Duo (a t : Tn) (w u : World) : Prop := Below w.heap.size w u ∧ Box w.heap.size a u ∧ Box (w.heap.size + 1) t u
theorem Duo.new (a : Tn) (w : World) : Duo a (0#64, 0#64) w ((w.alloc (.cells #[uV a.1, uV a.2] 24)).alloc (.cells #[.int .u64 0, .int .u64 0] 24)) := Pair.new a (0#64, 0#64) w
theorem Duo.after {a t : Tn} {w u u' : World} (h : Duo a t w u) (k : Below u.heap.size u u') : Duo a t w u' := Pair.after h k
theorem Duo.set {a t : Tn} {w u : World} (h : Duo a t w u) (s : Tn) : Duo a s w ((u.setCell ⟨w.heap.size + 1, 0, none⟩ (uV s.1)).setCell ⟨w.heap.size + 1, 1, none⟩ (uV s.2)) :=
  ⟨(h.1.setCell (by simp) _).setCell (by simp) _, (h.2.1.other _ (by omega)).other _ (by omega), h.2.2.set s⟩

theorem cut_no (t : Tn) (width : Int) (w : World) (h : tR t = false) : Calls Try.prog 22 #[tV t, .int .i64 width] w (Gives (tV (0#64, 0#64)) w) := by
  have hx := Lib.hid (Duo.new t w)
  have h1 := Lib.hid (right_says t)
  rw [h] at h1
  clear h
  go_enter Try.func22, Try.ntmps22
  go_wp2_with fail
  refine (h1.out _).mono ?_; rintro e w1 ⟨rfl, b1⟩
  have x1 := hx.out.after b1
  obtain ⟨c0, c1⟩ := x1.2.2.cells
  obtain ⟨f0, f1⟩ := x1.2.2.free
  have X1 := Lib.hid (x1.set (0#64, 0#64))
  clear x1 hx b1
  go_wp2_with fail
  exact bodyPost_ret (v := tV (0#64, 0#64)) (by simp [results, Try.results22, go_sem, c0, c1]) rfl ⟨rfl, X1.out.1⟩
theorem cut_all (t : Tn) (width : Int) (w : World) (h : tR t = true) (hw : width < 1 ∨ (1 ≤ width ∧ 63 < width)) : Calls Try.prog 22 #[tV t, .int .i64 width] w (Gives (tV t) w) := by
  have hx := Lib.hid (Duo.new t w)
  have h1 := Lib.hid (right_says t)
  rw [h] at h1
  clear h
  rcases hw with hw | ⟨hw, hw'⟩
  all_goals
    go_enter Try.func22, Try.ntmps22
    go_wp2_with fail
    refine (h1.out _).mono ?_; rintro e w1 ⟨rfl, b1⟩
    have x1 := hx.out.after b1
    obtain ⟨p0, p1⟩ := x1.2.1.cells
    obtain ⟨c0, c1⟩ := x1.2.2.cells
    obtain ⟨f0, f1⟩ := x1.2.2.free
    have X1 := Lib.hid (x1.set t)
    clear x1 hx b1
    go_wp2_with fail
    exact bodyPost_ret (v := tV t) (by simp [results, Try.results22, go_sem, c0, c1]) rfl ⟨rfl, X1.out.1⟩
theorem cut_some (t : Tn) (width : Int) (w : World) (h : tR t = true) (h1 : 1 ≤ width) (h2 : width ≤ 63) : Calls Try.prog 22 #[tV t, .int .i64 width] w (Gives (tV (tLow t.1 width.toNat, tLow t.2 width.toNat)) w) := by
  have hx := Lib.hid (Duo.new t w)
  have hr := Lib.hid (right_says t)
  rw [h] at hr
  clear h
  go_enter Try.func22, Try.ntmps22
  go_wp2_with fail
  refine (hr.out _).mono ?_; rintro e w1 ⟨rfl, b1⟩
  have x1 := hx.out.after b1
  obtain ⟨p0, p1⟩ := x1.2.1.cells
  obtain ⟨c0, c1⟩ := x1.2.2.cells
  obtain ⟨f0, f1⟩ := x1.2.2.free
  have X1 := Lib.hid x1
  clear x1 hx b1
  go_wp2_with fail
  rw [low_and t.1 width.toNat (by omega), low_and t.2 width.toNat (by omega)]
  have X2 := X1.out.set (tLow t.1 width.toNat, tLow t.2 width.toNat)
  exact bodyPost_ret (v := tV (tLow t.1 width.toNat, tLow t.2 width.toNat)) (by simp [results, Try.results22, go_sem, c0, c1]) rfl ⟨rfl, X2.1⟩
theorem cut_says (t : Tn) (width : Int) (w : World) : Calls Try.prog 22 #[tV t, .int .i64 width] w (Gives (tV (tC t width)) w) := by
  unfold tC
  cases h : tR t
  · exact cut_no t width w h
  · rw [if_pos rfl]
    by_cases hw : width < 1 ∨ 63 < width
    · rw [if_pos hw]
      exact cut_all t width w h (by omega)
    · rw [if_neg hw]
      exact cut_some t width w h (by omega) (by omega)

end Go.Proofs.Ytkiekbkjhlbnhaa
