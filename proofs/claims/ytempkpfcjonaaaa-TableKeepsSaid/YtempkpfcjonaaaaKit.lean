/-
  Small things that the walks from layer 3 on share: endings that are equal, 'Below' from call to call, rounds of a loop.
  Conditions: none.
-/
import Derived.Test.YtempkpfcjonaaaaRows
import Derived.WalkKit
import Derived.WalkSpells
import Derived.WalkLawsBesides
import Derived.Deep.QuietTactic
import Derived.BigQuiet
import Derived.Outline
import Derived.Below
import Derived.WalkSmall
import Derived.Lib.Hide
namespace Go.Proofs.Ytempkpfcjonaaaa
open Go.RowKit

theorem end_int {k : IntKind} {a b : Int} (h : a = b) : Ending.returned (.int k a) = .returned (.int k b) := by rw [h]
theorem end_bool {a b : Bool} (h : a = b) : Ending.returned (.bool a) = .returned (.bool b) := by rw [h]
theorem end_pair {a b c d : Value} (h : a = b) (h' : c = d) : Ending.returned (.tuple #[a, c]) = .returned (.tuple #[b, d]) := by rw [h, h']

/-- Two steps, each of which turns nothing that was there ahead of it. -/
theorem below_next {B : Nat} {a b c : World} (h : Below B a b) (hB : B ≤ b.heap.size) (k : Below b.heap.size b c) : Below B a c := h.trans (k.mono hB)
theorem below_next' {a b c : World} (h : Below a.heap.size a b) (k : Below b.heap.size b c) : Below a.heap.size a c := h.trans (k.mono h.size)

/-- A cell of a block that was laid in w0, in a later world. -/
theorem cell_lit {w0 w : World} {cs : Array Value} {t : TypeId} (h : Below (w0.heap.size + 1) (w0.alloc (.cells cs t)) w) (k : Nat) : w.cell? ⟨w0.heap.size, k, none⟩ = cs[k]? :=
  (h.cell (p := ⟨w0.heap.size, k, none⟩) (Nat.lt_succ_self _)).trans (World.cell?_alloc_new w0 cs t k)

end Go.Proofs.Ytempkpfcjonaaaa
