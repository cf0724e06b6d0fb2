/-
  P7.1: what an instruction does is the document's: the walk of the statement CodeWhat.
  Conditions: none beyond the row's own.
-/
import Derived.Test.YtplndcjmbgkcjaaCodeShown
import Derived.Test.YtplndcjmbgkcjaaRef07g
import Derived.LoopTactic
namespace Go.Proofs.Ytplndcjmbgkcjaa
open Go.RowKit
set_option linter.unusedVariables false
set_option linter.unusedSimpArgs false

set_option maxRecDepth 100000 in
set_option maxHeartbeats 4000000 in
theorem l7_CodeWhat (x : Ins) (hx : x.ok) (w : World) : Calls Try.prog 3 #[iV x] w (Fine w) := by
  have C := Lib.hid (c7_What x hx)
  have D := Lib.hid (r7_What x hx)
  have S := Lib.hid l7_shown
  have I0 := Lib.hid (iB.new w x rfl)
  have B0 := Lib.hid (i_box x w)
  generalize wOf x = v at *
  generalize wOk x = ok at *
  clear hx
  go_enter Try.func3, Try.ntmps3
  go_wp2_with fail
  refine (C.out _).mono ?_
  rintro e w5 ⟨rfl, b5⟩
  have Q : Hid (Below w.heap.size w (w5.alloc (.cells (whCells v) 26)) ∧ iB w.heap.size x (w5.alloc (.cells (whCells v) 26)) ∧ whB w5.heap.size v (w5.alloc (.cells (whCells v) 26))) := Lib.hid ⟨below_alloc (below_next' B0.out b5) _, (I0.out.after b5).alloc _, whB.new _ _ rfl⟩
  obtain ⟨c0, c1, c2, c3, c4⟩ := (I0.out.after b5).cells
  have k0 := (I0.out.after b5).lt
  clear b5
  go_wp2_with fail
  clear c0 c1 c2 c3 c4 k0 B0 I0
  generalize w5.alloc (.cells (whCells v) 26) = wa at *
  refine (D.out _).mono ?_
  rintro e w6 ⟨rfl, b6⟩
  have Q2 : Hid (Below w.heap.size w (w6.alloc (.cells (whCells v) 26)) ∧ whB w5.heap.size v (w6.alloc (.cells (whCells v) 26)) ∧ whB w6.heap.size v (w6.alloc (.cells (whCells v) 26))) := Lib.hid ⟨below_alloc (below_next' Q.out.1 b6) _, (Q.out.2.2.after b6).alloc _, whB.new _ _ rfl⟩
  clear b6 Q
  go_wp2_with fail
  generalize w6.alloc (.cells (whCells v) 26) = wb at *
  refine (S.out _).mono ?_
  rintro e w7 ⟨rfl, b7⟩
  have V := Lib.hid (below_next' Q2.out.1 b7)
  obtain ⟨c0, c1, c2, c3, c4, c5⟩ := (Q2.out.2.1.after b7).cells
  obtain ⟨d0, d1, d2, d3, d4, d5⟩ := (Q2.out.2.2.after b7).cells
  clear b7 Q2
  go_wp2_with fail
  go_ret
  exact ⟨rfl, V.out⟩

end Go.Proofs.Ytplndcjmbgkcjaa
