/-
  The blocks of a law's spans, in whatever world has come of the first one.
  Conditions: none.
-/
import Derived.Test.YtpnobkaeoiaelaaSpanShown
namespace Go.Proofs.Ytpnobkaeoiaelaa
open Go.RowKit
set_option linter.unusedVariables false

def SBoxes (w0 : World) (l : List (Nat × Sp)) (u : World) : Prop := Below w0.heap.size w0 u ∧ ∀ p ∈ l, sB p.1 p.2 u
theorem SBoxes.none_ {w u : World} (h : Below w.heap.size w u) : SBoxes w [] u := ⟨h, fun p hp => by cases hp⟩
theorem SBoxes.after {w0 u u' : World} {l : List (Nat × Sp)} (h : SBoxes w0 l u) (k : Below u.heap.size u u') : SBoxes w0 l u' := ⟨below_next' h.1 k, fun p hp => (h.2 p hp).after k⟩
theorem SBoxes.alloc {w0 u : World} {l : List (Nat × Sp)} (h : SBoxes w0 l u) (o : Obj) : SBoxes w0 l (u.alloc o) := h.after (below_alloc (Below.refl _ _) o)
theorem SBoxes.new {w0 u : World} {l : List (Nat × Sp)} (h : SBoxes w0 l u) (t : Sp) : SBoxes w0 ((u.heap.size, t) :: l) (u.alloc (.cells #[.int .u64 t.1, .int .u64 t.2] 24)) :=
  ⟨below_alloc h.1 _, fun p hp => by
    rcases List.mem_cons.mp hp with rfl | hp
    · exact sB.new u t rfl
    · exact (h.2 p hp).alloc _⟩
theorem SBoxes.at_ {w0 u : World} {l : List (Nat × Sp)} (h : SBoxes w0 l u) {p : Nat × Sp} (hp : p ∈ l) : p.1 < u.heap.size ∧ u.cell? ⟨p.1, 0, none⟩ = some (.int .u64 p.2.1) ∧ u.cell? ⟨p.1, 1, none⟩ = some (.int .u64 p.2.2) :=
  ⟨(h.2 p hp).lt, (h.2 p hp).cells⟩

end Go.Proofs.Ytpnobkaeoiaelaa
