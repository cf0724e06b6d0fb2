/-
  The boxes of a law's variables, in whatever world has come of the first one.
  Conditions: none.
-/
import Derived.Test.YtkiekbkjhlbnhaaTnumShown
namespace Go.Proofs.Ytkiekbkjhlbnhaa
open Go.RowKit
set_option linter.unusedVariables false

/-- Boxes, in whatever world has come of w0. -/
def Boxes (w0 : World) (l : List (Nat × Tn)) (u : World) : Prop := Below w0.heap.size w0 u ∧ ∀ p ∈ l, Box p.1 p.2 u
theorem Boxes.none_ {w u : World} (h : Below w.heap.size w u) : Boxes w [] u := ⟨h, fun p hp => by cases hp⟩
theorem Boxes.after {w0 u u' : World} {l : List (Nat × Tn)} (h : Boxes w0 l u) (k : Below u.heap.size u u') : Boxes w0 l u' := ⟨below_next' h.1 k, fun p hp => (h.2 p hp).after k⟩
theorem Boxes.new {w0 u : World} {l : List (Nat × Tn)} (h : Boxes w0 l u) (t : Tn) : Boxes w0 ((u.heap.size, t) :: l) (u.alloc (.cells #[uV t.1, uV t.2] 24)) :=
  ⟨below_alloc h.1 _, fun p hp => by
    rcases List.mem_cons.mp hp with rfl | hp
    · exact Box.new u t rfl
    · exact (h.2 p hp).alloc _⟩
theorem Boxes.at_ {w0 u : World} {l : List (Nat × Tn)} (h : Boxes w0 l u) {p : Nat × Tn} (hp : p ∈ l) : p.1 < u.heap.size ∧ u.cell? ⟨p.1, 0, none⟩ = some (uV p.2.1) ∧ u.cell? ⟨p.1, 1, none⟩ = some (uV p.2.2) :=
  ⟨(h.2 p hp).lt, (h.2 p hp).cells⟩

end Go.Proofs.Ytkiekbkjhlbnhaa
