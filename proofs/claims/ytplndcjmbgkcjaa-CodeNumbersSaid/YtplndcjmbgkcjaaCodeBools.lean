/-
  A block that holds a row of bools.
  Conditions: none.
-/
import Derived.Test.YtplndcjmbgkcjaaInsRow
import Derived.Test.YtplndcjmbgkcjaaCodeRows
namespace Go.Proofs.Ytplndcjmbgkcjaa
open Go.RowKit
set_option linter.unusedVariables false

abbrev boolCells (l : List Bool) : Array Value := (l.map fun x => Value.bool x).toArray
def bB (g : Nat) (l : List Bool) (w : World) : Prop := Blk g (boolCells l) 4 w
theorem bB.lt {g : Nat} {l : List Bool} {w : World} (h : bB g l w) : g < w.heap.size := Blk.lt h
theorem bB.after {g : Nat} {l : List Bool} {w w' : World} (h : bB g l w) (b : Below w.heap.size w w') : bB g l w' := Blk.after h b
theorem boolCells_at (l : List Bool) {k : Nat} {b : Bool} (h : l[k]? = some b) : (boolCells l)[k]? = some (.bool b) := by
  simp [boolCells, h]
theorem bB.cell {g : Nat} {l : List Bool} {w : World} (h : bB g l w) {k : Nat} {b : Bool} (hk : l[k]? = some b) : w.cell? ⟨g, k, none⟩ = some (.bool b) := (Blk.cell h k).trans (boolCells_at l hk)
theorem bB.free {g : Nat} {l : List Bool} {w : World} (h : bB g l w) (k : Nat) : w.frozen? ⟨g, k, none⟩ = false := Blk.free h k
theorem bB.set {g : Nat} {l : List Bool} {w : World} (h : bB g l w) (k : Nat) (b : Bool) : bB g (l.set k b) (w.setCell ⟨g, k, none⟩ (.bool b)) := by
  have hs := Blk.set h k (.bool b)
  have e : (boolCells l).setIfInBounds k (.bool b) = boolCells (l.set k b) := by
    simp [boolCells, List.setIfInBounds_toArray, List.map_set]
  rw [e] at hs
  exact hs
theorem bB.other {g k o : Nat} {l : List Bool} {w : World} (h : bB g l w) (v : Value) (hk : g ≠ k) : bB g l (w.setCell ⟨k, o, none⟩ v) := Blk.other h v hk
theorem bB.new (w : World) (l : List Bool) {g : Nat} (hg : g = w.heap.size) : bB g l (w.alloc (.cells (boolCells l) 4)) := Blk.new w _ _ hg
/-- What Starts answers: a new row. -/
def RowOf (l : List Bool) (w : World) (e : Ending) (w' : World) : Prop :=
  ∃ g, e = .returned (.slice (some ⟨g, 0, none⟩) l.length l.length) ∧ w.heap.size ≤ g ∧ bB g l w' ∧ Below w.heap.size w w'

end Go.Proofs.Ytplndcjmbgkcjaa
