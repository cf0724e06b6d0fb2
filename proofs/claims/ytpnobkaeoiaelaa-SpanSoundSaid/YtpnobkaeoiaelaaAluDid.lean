/-
  What contracts of layer 2's arithmetic answer, named; which ops there are.
  Conditions: none.
-/
import Derived.Test.YtpnobkaeoiaelaaAluPlain
import Derived.Test.YtpnobkaeoiaelaaAluMath
import Derived.Test.YtpnobkaeoiaelaaKit
namespace Go.Proofs.Ytpnobkaeoiaelaa
open Go.RowKit
set_option linter.unusedVariables false

theorem ret_int {k : IntKind} {a b : Int} (h : a = b) : Ending.returned (.int k a) = .returned (.int k b) := by rw [h]
theorem ret_two {k l : IntKind} {a b c d : Int} (h : a = b) (h' : c = d) : Ending.returned (.tuple #[.int k a, .int l c]) = .returned (.tuple #[.int k b, .int l d]) := by rw [h, h']

theorem ret_bool {a b : Bool} (h : a = b) : Ending.returned (.bool a) = .returned (.bool b) := by rw [h]

def Parted (q r : Int) (w : World) (e : Ending) (w' : World) : Prop := e = .returned (.tuple #[.int .u64 q, .int .u64 r]) ∧ ∃ n, w' = w.drewN n

def NoOp (op : Int) : Prop := (op ≠ 0 ∧ op ≠ 16 ∧ op ≠ 32 ∧ op ≠ 64 ∧ op ≠ 80 ∧ op ≠ 160 ∧ op ≠ 96) ∧ (op ≠ 112 ∧ op ≠ 192 ∧ op ≠ 128 ∧ op ≠ 48 ∧ op ≠ 144 ∧ op ≠ 176)
theorem noOp_fits {op off : Int} {wide : Bool} (h : NoOp op) : aluFits op wide off = false := by
  obtain ⟨⟨a1, a2, a3, a4, a5, a6, a7⟩, a8, a9, a10, a11, a12, a13⟩ := h
  unfold aluFits
  rw [if_neg (by omega), if_neg (by omega), if_neg (by omega)]

theorem op_cases (op : Int) : (op = 48 ∨ op = 144) ∨ op = 176 ∨ (op = 0 ∨ op = 16 ∨ op = 32 ∨ op = 64 ∨ op = 80 ∨ op = 160 ∨ op = 96 ∨ op = 112 ∨ op = 192 ∨ op = 128) ∨ NoOp op := by
  unfold NoOp
  by_cases h1 : op = 48 ∨ op = 144
  · exact .inl h1
  · by_cases h2 : op = 176
    · exact .inr (.inl h2)
    · by_cases h3 : op = 0 ∨ op = 16 ∨ op = 32 ∨ op = 64 ∨ op = 80 ∨ op = 160 ∨ op = 96 ∨ op = 112 ∨ op = 192 ∨ op = 128
      · exact .inr (.inr (.inl h3))
      · refine .inr (.inr (.inr ?_))
        simp only [not_or] at h1 h3
        simp [h1, h2, h3]

/-- A number and an error's number, and draws. -/
def Did (v k : Int) (w : World) (e : Ending) (w' : World) : Prop := e = .returned (.tuple #[.int .u64 v, .int .i64 k]) ∧ ∃ n, w' = w.drewN n

end Go.Proofs.Ytpnobkaeoiaelaa
