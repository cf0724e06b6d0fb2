/-
  P4.2: what is known of what arithmetic makes is the document's; the walk.
  Conditions: none beyond the row's own.
-/
import Derived.Test.YtkiekbkjhlbnhaaTnumBoxes
import Derived.Test.YtkiekbkjhlbnhaaRef04d
namespace Go.Proofs.Ytkiekbkjhlbnhaa
open Go.RowKit
set_option linter.unusedVariables false

theorem Pair.boxes {a b : Tn} {w u : World} (h : Pair a b w u) : Boxes w [(w.heap.size, a), (w.heap.size + 1, b)] u :=
  ⟨h.1, fun p hp => by
    rcases List.mem_cons.mp hp with rfl | hp
    · exact h.2.1
    · rcases List.mem_cons.mp hp with rfl | hp
      · exact h.2.2
      · cases hp⟩

set_option maxHeartbeats 4000000 in
theorem does_walk (op : Int) (a b : Tn) (w : World) : Calls Try.prog 4 #[.int .u8 op, tV a, tV b] w (Fine w) := by
  have D1 := Lib.hid (do_says op a b)
  have D2 := Lib.hid (rdo_says op a b)
  generalize tDo op a b = t at *
  generalize tDok op a b = k at *
  have hx := Lib.hid (Pair.new a b w)
  go_enter Try.func4, Try.ntmps4
  go_wp2_with fail
  refine (D1.out _).mono ?_; rintro e w1 ⟨rfl, b1⟩
  have x1 := (hx.out.after b1).boxes
  obtain ⟨z1, p0, p1⟩ := x1.at_ (p := (w.heap.size, a)) (by simp)
  obtain ⟨z2, p2, p3⟩ := x1.at_ (p := (w.heap.size + 1, b)) (by simp)
  have X1 := Lib.hid (x1.new t)
  clear x1 b1 hx
  go_wp2_with fail
  refine (D2.out _).mono ?_; rintro e w2 ⟨rfl, b2⟩
  have x2 := X1.out.after b2
  generalize w1.heap.size = g1 at *
  have X2 := Lib.hid (x2.new t)
  clear x2 b2 X1 p0 p1 p2 p3 z1 z2
  go_wp2_with fail
  refine (tnum_shown _).mono ?_; rintro e w3 ⟨rfl, b3⟩
  have x3 := X2.out.after b3
  generalize w2.heap.size = g2 at *
  obtain ⟨z1, p0, p1⟩ := x3.at_ (p := (g1, t)) (by simp)
  obtain ⟨z2, p2, p3⟩ := x3.at_ (p := (g2, t)) (by simp)
  have X3 := Lib.hid x3.1
  clear x3 b3 X2
  go_wp2_with fail
  go_ret
  exact ⟨rfl, X3.out⟩

end Go.Proofs.Ytkiekbkjhlbnhaa
