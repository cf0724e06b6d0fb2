/-
  The document's own Is of layer 3, of whatever op and numbers.
  Conditions: the numbers fit their kinds.
-/
import Derived.Test.YtpnobkaeoiaelaaRef03b
namespace Go.Proofs.Ytpnobkaeoiaelaa
open Go.RowKit
set_option linter.unusedVariables false

/-- The document's own Is, of whatever op and numbers. -/
theorem ref_is_any (op : Int) (wide : Bool) (a b : Int) (w : World) (ha : 0 ≤ a ∧ a ≤ 18446744073709551615) (hb : 0 ≤ b ∧ b ≤ 18446744073709551615) :
    Calls Try.prog 24 #[.int .u8 op, .bool wide, .int .u64 a, .int .u64 b] w (Told (condV op wide a b) (condE op) w) := by
  cases hf : condFits op
  · have e : condE op = 1 := by unfold condE; rw [hf]; rfl
    rw [e, condV_none hf]
    cases wide
    · exact ref_is_none_32 op a b w ha hb hf
    · exact ref_is_none_64 op a b w ha hb hf
  · have e : condE op = 0 := by unfold condE; rw [hf]; rfl
    rw [e]
    unfold condV
    have ho : op = 0 ∨ op = 16 ∨ op = 80 ∨ op = 32 ∨ op = 48 ∨ op = 160 ∨ op = 176 ∨ op = 96 ∨ op = 112 ∨ op = 192 ∨ op = 208 ∨ op = 64 := by have h := fits_is hf; omega
    cases wide
    · exact ref_is_32 op a b w ha hb ho
    · have ea : a % aM true = a := Int.emod_eq_of_lt ha.1 (by show a < 18446744073709551616; omega)
      have eb : b % aM true = b := Int.emod_eq_of_lt hb.1 (by show b < 18446744073709551616; omega)
      rw [ea, eb]
      exact ref_is_64 op a b w ha hb ho

end Go.Proofs.Ytpnobkaeoiaelaa
