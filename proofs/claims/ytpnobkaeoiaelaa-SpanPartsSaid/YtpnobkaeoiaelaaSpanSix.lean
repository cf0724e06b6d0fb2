/-
  A block that holds six numbers.
  Conditions: none.
-/
import Derived.Test.YtpnobkaeoiaelaaSpanBoxes
import Derived.Test.YtpnobkaeoiaelaaSpanMath
namespace Go.Proofs.Ytpnobkaeoiaelaa
open Go.RowKit
set_option linter.unusedVariables false

/-- A block that holds six numbers. -/
def Six (g : Nat) (n0 n1 n2 n3 n4 n5 : Int) (w : World) : Prop := Blk g #[.int .u64 n0, .int .u64 n1, .int .u64 n2, .int .u64 n3, .int .u64 n4, .int .u64 n5] 45 w
theorem Six.lt {g : Nat} {n0 n1 n2 n3 n4 n5 : Int} {w : World} (h : Six g n0 n1 n2 n3 n4 n5 w) : g < w.heap.size := Blk.lt h
theorem Six.after {g : Nat} {n0 n1 n2 n3 n4 n5 : Int} {w w' : World} (h : Six g n0 n1 n2 n3 n4 n5 w) (b : Below w.heap.size w w') : Six g n0 n1 n2 n3 n4 n5 w' := Blk.after h b
theorem Six.alloc {g : Nat} {n0 n1 n2 n3 n4 n5 : Int} {w : World} (h : Six g n0 n1 n2 n3 n4 n5 w) (o : Obj) : Six g n0 n1 n2 n3 n4 n5 (w.alloc o) := h.after (below_alloc (Below.refl _ _) o)
theorem Six.six {g : Nat} {n0 n1 n2 n3 n4 n5 : Int} {w : World} (h : Six g n0 n1 n2 n3 n4 n5 w) : w.cell? ⟨g, 0, none⟩ = some (.int .u64 n0) ∧ w.cell? ⟨g, 1, none⟩ = some (.int .u64 n1) ∧ w.cell? ⟨g, 2, none⟩ = some (.int .u64 n2) ∧
    w.cell? ⟨g, 3, none⟩ = some (.int .u64 n3) ∧ w.cell? ⟨g, 4, none⟩ = some (.int .u64 n4) ∧ w.cell? ⟨g, 5, none⟩ = some (.int .u64 n5) := ⟨Blk.cell h 0, Blk.cell h 1, Blk.cell h 2, Blk.cell h 3, Blk.cell h 4, Blk.cell h 5⟩

end Go.Proofs.Ytpnobkaeoiaelaa
