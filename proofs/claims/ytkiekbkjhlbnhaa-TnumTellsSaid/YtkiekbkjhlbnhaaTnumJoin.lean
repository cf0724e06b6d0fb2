/-
  What tnum.Join, Meet, move and Do answer.
  Conditions: none.
-/
import Derived.Test.YtkiekbkjhlbnhaaTnumPair
namespace Go.Proofs.Ytkiekbkjhlbnhaa
open Go.RowKit
set_option linter.unusedVariables false

set_option maxHeartbeats 1000000 in
theorem join_says (a b : Tn) (w : World) : Calls Try.prog 20 #[tV a, tV b] w (Gives (tV (tJ a b)) w) := by
  have hx := Lib.hid (Trio.new a b w)
  have h1 := Lib.hid (both_says a b)
  unfold tJ
  generalize tRR a b = r1 at *
  cases r1
  · rw [if_neg (by decide)]
    go_enter Try.func20, Try.ntmps20
    go_wp2_with fail
    refine (h1.out _).mono ?_; rintro e w1 ⟨rfl, b1⟩
    have x1 := hx.out.after b1
    obtain ⟨c0, c1⟩ := x1.2.cells
    obtain ⟨f0, f1⟩ := x1.2.free
    have X1 := Lib.hid (x1.set (0#64, 0#64))
    clear x1 hx b1
    go_wp2_with fail
    exact bodyPost_ret (v := tV (0#64, 0#64)) (by simp [results, Try.results20, go_sem, c0, c1]) rfl ⟨rfl, X1.out.1.1⟩
  · rw [if_pos rfl]
    generalize ht : tMade a.1 (a.2 ||| b.2 ||| (a.1 ^^^ b.1)) = t at *
    have ht := Lib.hid ht
    go_enter Try.func20, Try.ntmps20
    go_wp2_with fail
    refine (h1.out _).mono ?_; rintro e w1 ⟨rfl, b1⟩
    have x1 := hx.out.after b1
    obtain ⟨p0, p1, p2, p3⟩ := x1.1.cells
    obtain ⟨c0, c1⟩ := x1.2.cells
    obtain ⟨f0, f1⟩ := x1.2.free
    have X1 := Lib.hid x1
    clear x1 hx b1
    go_wp2_with fail
    simp only [bv_xor, bv_or]
    refine (made_says _ _ _).mono ?_; rintro e w2 ⟨rfl, b2⟩
    rw [ht.out]
    have x2 := X1.out.after b2
    clear p0 p1 p2 p3 c0 c1 f0 f1 X1 b2 ht
    obtain ⟨c0, c1⟩ := x2.2.cells
    obtain ⟨f0, f1⟩ := x2.2.free
    have X2 := Lib.hid (x2.set t)
    clear x2
    go_wp2_with fail
    exact bodyPost_ret (v := tV t) (by simp [results, Try.results20, go_sem, c0, c1]) rfl ⟨rfl, X2.out.1.1⟩

abbrev tBV (t : Tn) (ok : Bool) : Value := .tuple #[tV t, .bool ok]

set_option maxHeartbeats 1000000 in
theorem meet_says (a b : Tn) (w : World) : Calls Try.prog 10 #[tV a, tV b] w (Gives (tBV (tM a b) (tMok a b)) w) := by
  have hx := Lib.hid (Trio.new a b w)
  have h1 := Lib.hid (both_says a b)
  have e1 := Lib.hid (show (bits .andNot .u64 (bits .xor .u64 (a.1.toNat : Int) (b.1.toNat : Int)) (bits .or .u64 (a.2.toNat : Int) (b.2.toNat : Int)) != 0) = !((a.1 ^^^ b.1) &&& ~~~(a.2 ||| b.2) == 0#64) by rw [bv_xor, bv_or, bv_andNot, bv_ne0])
  unfold tM
  unfold tMok
  generalize ((a.1 ^^^ b.1) &&& ~~~(a.2 ||| b.2) == 0#64) = r2 at *
  generalize tRR a b = r1 at *
  generalize ht : tMade (a.1 ||| b.1) (a.2 &&& b.2) = t at *
  have ht := Lib.hid ht
  cases r1
  · show Calls _ _ _ _ (Gives (tBV (0#64, 0#64) false) w)
    clear e1
    go_enter Try.func10, Try.ntmps10
    go_wp2_with fail
    refine (h1.out _).mono ?_; rintro e w1 ⟨rfl, b1⟩
    have x1 := hx.out.after b1
    obtain ⟨c0, c1⟩ := x1.2.cells
    obtain ⟨f0, f1⟩ := x1.2.free
    have X1 := Lib.hid (x1.set (0#64, 0#64))
    clear x1 hx b1
    go_wp2_with fail
    exact bodyPost_ret (v := tBV (0#64, 0#64) false) (by simp [results, Try.results10, go_sem, c0, c1]) rfl ⟨rfl, X1.out.1.1⟩
  · cases r2
    · show Calls _ _ _ _ (Gives (tBV (0#64, 0#64) false) w)
      go_enter Try.func10, Try.ntmps10
      go_wp2_with fail
      refine (h1.out _).mono ?_; rintro e w1 ⟨rfl, b1⟩
      have x1 := hx.out.after b1
      obtain ⟨p0, p1, p2, p3⟩ := x1.1.cells
      obtain ⟨c0, c1⟩ := x1.2.cells
      obtain ⟨f0, f1⟩ := x1.2.free
      have X1 := Lib.hid (x1.set (0#64, 0#64))
      have e2 := e1.out
      clear x1 hx b1 e1
      go_wp2_with fail
      exact bodyPost_ret (v := tBV (0#64, 0#64) false) (by simp [results, Try.results10, go_sem, c0, c1]) rfl ⟨rfl, X1.out.1.1⟩
    · show Calls _ _ _ _ (Gives (tBV t true) w)
      go_enter Try.func10, Try.ntmps10
      go_wp2_with fail
      refine (h1.out _).mono ?_; rintro e w1 ⟨rfl, b1⟩
      have x1 := hx.out.after b1
      obtain ⟨p0, p1, p2, p3⟩ := x1.1.cells
      obtain ⟨c0, c1⟩ := x1.2.cells
      obtain ⟨f0, f1⟩ := x1.2.free
      have X1 := Lib.hid x1
      have e2 := e1.out
      clear x1 hx b1 e1
      go_wp2_with fail
      simp only [bv_and, bv_or]
      refine (made_says _ _ _).mono ?_; rintro e w2 ⟨rfl, b2⟩
      rw [ht.out]
      have x2 := X1.out.after b2
      clear p0 p1 p2 p3 c0 c1 f0 f1 X1 b2 ht
      obtain ⟨c0, c1⟩ := x2.2.cells
      obtain ⟨f0, f1⟩ := x2.2.free
      have X2 := Lib.hid (x2.set t)
      clear x2
      go_wp2_with fail
      exact bodyPost_ret (v := tBV t true) (by simp [results, Try.results10, go_sem, c0, c1]) rfl ⟨rfl, X2.out.1.1⟩

end Go.Proofs.Ytkiekbkjhlbnhaa
