/-
  Texts, one behind the other: Code2b.
  Conditions: those that each theorem states.
-/
import Derived.Test.YtlbhffdpklbhfaaGreatPz17
namespace Go.Proofs.YtlbhffdpklbhfaaGreat
open Go.RowKit
set_option maxRecDepth 100000
set_option linter.unusedVariables false
theorem iduo_whs' {x : Ins} {v : Wh} {w w1 : World} {k : Nat} (h : Below w.heap.size w w1 ∧ iB w.heap.size x w1 ∧ whB (w.heap.size + 1) v w1) (u : Wh) (hk : w.heap.size + 1 < k) : IDuo x v w (whSet w1 k u) :=
  ⟨below_whs h.1 (by omega) u, h.2.1.whs u (by omega), h.2.2.whs u (by omega)⟩
theorem iduo_cell' {x : Ins} {v : Wh} {w w1 : World} {k : Nat} (h : Below w.heap.size w w1 ∧ iB w.heap.size x w1 ∧ whB (w.heap.size + 1) v w1) (o : Nat) (u : Value) (hk : w.heap.size + 1 < k) : IDuo x v w (w1.setCell ⟨k, o, none⟩ u) :=
  ⟨h.1.setCell (p := ⟨k, o, none⟩) (by show _ ≤ k; omega) _, Blk.other h.2.1 _ (by omega), Blk.other h.2.2 _ (by omega)⟩
end Go.Proofs.YtlbhffdpklbhfaaGreat
