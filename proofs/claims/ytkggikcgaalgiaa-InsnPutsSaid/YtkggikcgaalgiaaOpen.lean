/-
  The arguments of the laws on instructions: an instruction by value; eight bytes by value; numbers.
  Conditions: none.
-/
import Derived.Test.YtkggikcgaalgiaaLeaf
import Derived.Test.YtkggikcgaalgiaaFrame
namespace Go.Proofs.Ytkggikcgaalgiaa
open Go.ChangeShapes Go.WideShapes Go.RowKit
set_option linter.unusedVariables false

theorem own_none : ownKnob Try.prog.godebug = none := by kernel_rfl
theorem laid_out : laidOutB Try.prog = true := by kernel_rfl

section
variable {H : Type} {enc : TypeId × Value → H} {w : World} {base : Nat} {spare : Nat → Bool} {held : Bool}

theorem open_insn {r : Reach} {b0 : Nat} {v : Value} {d : DataW H} {p : List MemPlace} (hv : Value.okWide Try.prog w r b0 24 v) (h : DataW.Trod enc Try.prog w base spare held 24 v d p) :
    ∃ op dst src off imm : Int, v = .agg #[.int .u8 op, .int .u8 dst, .int .u8 src, .int .i16 off, .int .i32 imm] ∧
      (0 ≤ op ∧ op ≤ 255) ∧ (0 ≤ dst ∧ dst ≤ 255) ∧ (0 ≤ src ∧ src ≤ 255) ∧ (-32768 ≤ off ∧ off ≤ 32767) ∧ (-2147483648 ≤ imm ∧ imm ≤ 2147483647) := by
  obtain ⟨l, rfl, hl⟩ := agg_of_struct Try.underlying24 hv
  have hc : Try.prog.cellsOf 24 = 5 := by kernel_rfl
  rw [hc] at hl
  obtain ⟨n0, e0, w0⟩ := LeafOk.int_ (leaf_of_Trod h 8 0 (L := some .u8) (by kernel_rfl))
  obtain ⟨n1, e1, w1⟩ := LeafOk.int_ (leaf_of_Trod h 8 1 (L := some .u8) (by kernel_rfl))
  obtain ⟨n2, e2, w2⟩ := LeafOk.int_ (leaf_of_Trod h 8 2 (L := some .u8) (by kernel_rfl))
  obtain ⟨n3, e3, w3⟩ := LeafOk.int_ (leaf_of_Trod h 8 3 (L := some .i16) (by kernel_rfl))
  obtain ⟨n4, e4, w4⟩ := LeafOk.int_ (leaf_of_Trod h 8 4 (L := some .i32) (by kernel_rfl))
  match l, hl with
  | [c0, c1, c2, c3, c4], _ =>
    simp [Value.cells] at e0 e1 e2 e3 e4
    subst e0 e1 e2 e3 e4
    exact ⟨n0, n1, n2, n3, n4, rfl, bounds_u8 w0, bounds_u8 w1, bounds_u8 w2, bounds_i16 w3, bounds_i32 w4⟩

theorem open_eight {r : Reach} {b0 : Nat} {v : Value} {d : DataW H} {p : List MemPlace} (hv : Value.okWide Try.prog w r b0 38 v) (h : DataW.Trod enc Try.prog w base spare held 38 v d p) :
    ∃ b0 b1 b2 b3 b4 b5 b6 b7 : Int, v = .agg #[.int .u8 b0, .int .u8 b1, .int .u8 b2, .int .u8 b3, .int .u8 b4, .int .u8 b5, .int .u8 b6, .int .u8 b7] ∧
      (0 ≤ b0 ∧ b0 ≤ 255) ∧ (0 ≤ b1 ∧ b1 ≤ 255) ∧ (0 ≤ b2 ∧ b2 ≤ 255) ∧ (0 ≤ b3 ∧ b3 ≤ 255) ∧ (0 ≤ b4 ∧ b4 ≤ 255) ∧ (0 ≤ b5 ∧ b5 ≤ 255) ∧ (0 ≤ b6 ∧ b6 ≤ 255) ∧ (0 ≤ b7 ∧ b7 ≤ 255) := by
  obtain ⟨l, rfl, hl⟩ := agg_of_array Try.underlying38 hv
  have hc : Try.prog.cellsOf 38 = 8 := by kernel_rfl
  rw [hc] at hl
  obtain ⟨n0, e0, w0⟩ := LeafOk.int_ (leaf_of_Trod h 8 0 (L := some .u8) (by kernel_rfl))
  obtain ⟨n1, e1, w1⟩ := LeafOk.int_ (leaf_of_Trod h 8 1 (L := some .u8) (by kernel_rfl))
  obtain ⟨n2, e2, w2⟩ := LeafOk.int_ (leaf_of_Trod h 8 2 (L := some .u8) (by kernel_rfl))
  obtain ⟨n3, e3, w3⟩ := LeafOk.int_ (leaf_of_Trod h 8 3 (L := some .u8) (by kernel_rfl))
  obtain ⟨n4, e4, w4⟩ := LeafOk.int_ (leaf_of_Trod h 8 4 (L := some .u8) (by kernel_rfl))
  obtain ⟨n5, e5, w5⟩ := LeafOk.int_ (leaf_of_Trod h 8 5 (L := some .u8) (by kernel_rfl))
  obtain ⟨n6, e6, w6⟩ := LeafOk.int_ (leaf_of_Trod h 8 6 (L := some .u8) (by kernel_rfl))
  obtain ⟨n7, e7, w7⟩ := LeafOk.int_ (leaf_of_Trod h 8 7 (L := some .u8) (by kernel_rfl))
  match l, hl with
  | [c0, c1, c2, c3, c4, c5, c6, c7], _ =>
    simp [Value.cells] at e0 e1 e2 e3 e4 e5 e6 e7
    subst e0 e1 e2 e3 e4 e5 e6 e7
    exact ⟨n0, n1, n2, n3, n4, n5, n6, n7, rfl, bounds_u8 w0, bounds_u8 w1, bounds_u8 w2, bounds_u8 w3, bounds_u8 w4, bounds_u8 w5, bounds_u8 w6, bounds_u8 w7⟩
end

end Go.Proofs.Ytkggikcgaalgiaa
