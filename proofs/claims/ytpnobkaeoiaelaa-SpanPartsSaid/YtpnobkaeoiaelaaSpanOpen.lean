/-
  The arguments of the laws of layer 5: a span, by value; six numbers, by value.
  Conditions: none.
-/
import Derived.Test.YtpnobkaeoiaelaaLeaf
import Derived.Test.YtpnobkaeoiaelaaArgs
import Derived.Test.YtpnobkaeoiaelaaSpanPlain
namespace Go.Proofs.Ytpnobkaeoiaelaa
open Go.ChangeShapes Go.WideShapes Go.RowKit
set_option linter.unusedVariables false

section
variable {H : Type} {enc : TypeId × Value → H} {w : World} {base : Nat} {spare : Nat → Bool} {held : Bool}
theorem open_span {r : Reach} {b0 : Nat} {v : Value} {d : DataW H} {p : List MemPlace} (hv : Value.okWide Try.prog w r b0 24 v) (h : DataW.Trod enc Try.prog w base spare held 24 v d p) :
    ∃ s : Sp, v = sV s ∧ sIn s := by
  obtain ⟨l, rfl, hl⟩ := agg_of_struct Try.underlying24 hv
  have hc : Try.prog.cellsOf 24 = 2 := by kernel_rfl
  rw [hc] at hl
  obtain ⟨n0, e0, w0⟩ := LeafOk.int_ (leaf_of_Trod h 8 0 (L := some .u64) (by kernel_rfl))
  obtain ⟨n1, e1, w1⟩ := LeafOk.int_ (leaf_of_Trod h 8 1 (L := some .u64) (by kernel_rfl))
  match l, hl with
  | [c0, c1], _ =>
    simp [Value.cells] at e0 e1
    subst e0 e1
    exact ⟨(n0, n1), rfl, bounds_u64 w0, bounds_u64 w1⟩
end
section
variable {H : Type} {enc : TypeId × Value → H} {w : World} {base : Nat} {spare : Nat → Bool} {held : Bool}
theorem open_six {r : Reach} {b0 : Nat} {v : Value} {d : DataW H} {p : List MemPlace} (hv : Value.okWide Try.prog w r b0 45 v) (h : DataW.Trod enc Try.prog w base spare held 45 v d p) :
    ∃ b0 b1 b2 b3 b4 b5 : Int, v = .agg #[.int .u64 b0, .int .u64 b1, .int .u64 b2, .int .u64 b3, .int .u64 b4, .int .u64 b5] ∧ In64 b0 ∧ In64 b1 ∧ In64 b2 ∧ In64 b3 ∧ In64 b4 ∧ In64 b5 := by
  obtain ⟨l, rfl, hl⟩ := agg_of_array Try.underlying45 hv
  have hc : Try.prog.cellsOf 45 = 6 := by kernel_rfl
  rw [hc] at hl
  obtain ⟨n0, e0, w0⟩ := LeafOk.int_ (leaf_of_Trod h 8 0 (L := some .u64) (by kernel_rfl))
  obtain ⟨n1, e1, w1⟩ := LeafOk.int_ (leaf_of_Trod h 8 1 (L := some .u64) (by kernel_rfl))
  obtain ⟨n2, e2, w2⟩ := LeafOk.int_ (leaf_of_Trod h 8 2 (L := some .u64) (by kernel_rfl))
  obtain ⟨n3, e3, w3⟩ := LeafOk.int_ (leaf_of_Trod h 8 3 (L := some .u64) (by kernel_rfl))
  obtain ⟨n4, e4, w4⟩ := LeafOk.int_ (leaf_of_Trod h 8 4 (L := some .u64) (by kernel_rfl))
  obtain ⟨n5, e5, w5⟩ := LeafOk.int_ (leaf_of_Trod h 8 5 (L := some .u64) (by kernel_rfl))
  match l, hl with
  | [c0, c1, c2, c3, c4, c5], _ =>
    simp [Value.cells] at e0 e1 e2 e3 e4 e5
    subst e0 e1 e2 e3 e4 e5
    exact ⟨n0, n1, n2, n3, n4, n5, rfl, bounds_u64 w0, bounds_u64 w1, bounds_u64 w2, bounds_u64 w3, bounds_u64 w4, bounds_u64 w5⟩
end

end Go.Proofs.Ytpnobkaeoiaelaa
