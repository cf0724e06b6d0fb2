/-
  P4.3: what arithmetic makes of numbers that may be a and b may be what Do makes.
  Conditions: none beyond the row's own.
-/
import Derived.Test.YtkiekbkjhlbnhaaTnumBoxes
import Derived.Test.YtkiekbkjhlbnhaaRef02Eight
import Derived.Deep.RegionHeld3
namespace Go.Proofs.Ytkiekbkjhlbnhaa
open Go.RowKit
set_option linter.unusedVariables false

set_option maxHeartbeats 4000000 in
theorem sound_no (op : Int) (v m n x k o : BitVec 64) (w : World) (h : tDok op (tMade v m) (tMade x k) = false) :
    Calls Try.prog 5 #[.int .u8 op, uV v, uV m, uV n, uV x, uV k, uV o] w (Fine w) := by
  have M1 := Lib.hid (made_pick v m n)
  have M2 := Lib.hid (made_pick x k o)
  have D := Lib.hid (do_to (t := (0#64, 0#64)) (by unfold tDo; rw [if_neg (by rw [h]; decide)]) h)
  clear h
  generalize tMade v m = a at *
  generalize tMade x k = b at *
  generalize pick v m n = p at *
  generalize pick x k o = q at *
  go_enter Try.func5, Try.ntmps5
  go_wp2_with fail
  refine (tnum_shown _).mono ?_; rintro e w0 ⟨rfl, b0⟩
  go_wp2_with fail
  refine (M1.out _).mono ?_; rintro e w1 ⟨rfl, b1⟩
  have X1 := Lib.hid (((Boxes.none_ b0).after b1).new a)
  clear b0 b1
  go_wp2_with fail
  refine (M2.out _).mono ?_; rintro e w2 ⟨rfl, b2⟩
  have x2 := X1.out.after b2
  generalize w1.heap.size = g1 at *
  obtain ⟨z1, p0, p1⟩ := x2.at_ (p := (g1, a)) (by simp)
  have X2 := Lib.hid (x2.new b)
  clear X1 b2 x2
  go_wp2_with fail
  refine (D.out _).mono ?_; rintro e w3 ⟨rfl, b3⟩
  have x3 := (X2.out.after b3).1
  clear X2 b3 p0 p1 z1
  go_wp2_with fail
  go_ret
  exact ⟨rfl, below_alloc x3 _⟩

set_option maxHeartbeats 4000000 in
theorem sound_yes (op : Int) (v m n x k o : BitVec 64) (w : World) (h : tDok op (tMade v m) (tMade x k) = true) :
    Calls Try.prog 5 #[.int .u8 op, uV v, uV m, uV n, uV x, uV k, uV o] w (Fine w) := by
  have M1 := Lib.hid (made_pick v m n)
  have M2 := Lib.hid (made_pick x k o)
  have D := Lib.hid (do_to rfl h)
  obtain ⟨h1, h2⟩ := do_sound h (pick_has v m n) (pick_has x k o)
  have R := Lib.hid (ref8 h (pick v m n) (pick x k o))
  clear h
  generalize tDo op (tMade v m) (tMade x k) = t at *
  generalize tMade v m = a at *
  generalize tMade x k = b at *
  generalize pick v m n = p at *
  generalize pick x k o = q at *
  generalize bvDo op p q = z at *
  have R1 := Lib.hid (right_says t)
  rw [h1] at R1
  have H1 := Lib.hid (has_says t z)
  rw [h2] at H1
  clear h1 h2
  go_enter Try.func5, Try.ntmps5
  go_wp2_with fail
  refine (tnum_shown _).mono ?_; rintro e w0 ⟨rfl, b0⟩
  go_wp2_with fail
  refine (M1.out _).mono ?_; rintro e w1 ⟨rfl, b1⟩
  have X1 := Lib.hid (((Boxes.none_ b0).after b1).new a)
  clear b0 b1
  go_wp2_with fail
  refine (M2.out _).mono ?_; rintro e w2 ⟨rfl, b2⟩
  have x2 := X1.out.after b2
  generalize w1.heap.size = g1 at *
  obtain ⟨z1, p0, p1⟩ := x2.at_ (p := (g1, a)) (by simp)
  have X2 := Lib.hid (x2.new b)
  clear X1 b2 x2
  go_wp2_with fail
  refine (D.out _).mono ?_; rintro e w3 ⟨rfl, b3⟩
  have X3 := Lib.hid ((Boxes.none_ (X2.out.after b3).1).new t)
  clear X2 b3 p0 p1 z1
  go_wp2_with fail
  refine (R.out _).mono ?_; rintro e w4 ⟨rfl, rfl⟩
  go_wp2_with fail
  refine (R1.out _).mono ?_; rintro e w5 ⟨rfl, b5⟩
  have x5 := X3.out.after b5
  obtain ⟨z1, p0, p1⟩ := x5.at_ (p := (w3.heap.size, t)) (by simp)
  have X5 := Lib.hid x5
  clear X3 b5 x5
  go_wp2_with fail
  refine (H1.out _).mono ?_; rintro e w6 ⟨rfl, b6⟩
  go_wp2_with fail
  go_ret
  exact ⟨rfl, (X5.out.after b6).1⟩

theorem sound_walk (op : Int) (v m n x k o : BitVec 64) (w : World) : Calls Try.prog 5 #[.int .u8 op, uV v, uV m, uV n, uV x, uV k, uV o] w (Fine w) := by
  cases h : tDok op (tMade v m) (tMade x k)
  · exact sound_no op v m n x k o w h
  · exact sound_yes op v m n x k o w h

end Go.Proofs.Ytkiekbkjhlbnhaa
