/-
  Plain rows of instructions: the other half of one. No program is named here.
-/
import Derived.Test.YtplndcjmbgkcjaaCodePlain
namespace Go.Proofs.Ytplndcjmbgkcjaa
open Go Go.RowKit
set_option linter.unusedVariables false

/-- Is an instruction zero, its number apart, if that may be any? -/
def zeroB (y : Ins) (imm : Bool) : Bool := y.op == 0 && (y.dst == 0 && (y.src == 0 && (y.off == 0 && (imm || y.imm == 0))))
/-- Is what is behind a place the other half of a kind? -/
def hfB (l : List Ins) (k : Nat) (kd : Int) : Bool :=
  if kd == 3 || kd == 4 then decide (k + 1 < l.length) && zeroB (iAt l (k + 1)) (kd == 3)
  else true
theorem halfB_eq (l : List Ins) (k : Nat) : halfB l k = hfB l k (wOf (iAt l k)).kind := by
  unfold halfB hfB zeroB
  simp only [Bool.and_assoc]
theorem wOf_no {x : Ins} (h : wOk x = false) : wOf x = Wh.zero := by unfold wOf; rw [h]; rfl

end Go.Proofs.Ytplndcjmbgkcjaa
