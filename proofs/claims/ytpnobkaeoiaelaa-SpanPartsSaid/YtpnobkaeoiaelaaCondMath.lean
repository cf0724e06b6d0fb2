/-
  What the laws of conditions say, of plain numbers. No program is named here.
-/
import Derived.Test.YtpnobkaeoiaelaaCondPlain
namespace Go.Proofs.Ytpnobkaeoiaelaa
open Go Go.RowKit
set_option linter.unusedVariables false

/-! Each condition, of numbers that are cut. -/
theorem cv_0 (wide : Bool) (a b : Int) : condV 0 wide a b = true := rfl
theorem cv_16 (wide : Bool) (a b : Int) : condV 16 wide a b = decide (a % aM wide = b % aM wide) := rfl
theorem cv_80 (wide : Bool) (a b : Int) : condV 80 wide a b = !decide (a % aM wide = b % aM wide) := rfl
theorem cv_64 (wide : Bool) (a b : Int) : condV 64 wide a b = !decide ((((a % aM wide).toNat &&& (b % aM wide).toNat : Nat) : Int) = 0) := rfl
theorem cv_32 (wide : Bool) (a b : Int) : condV 32 wide a b = decide (b % aM wide < a % aM wide) := rfl
theorem cv_48 (wide : Bool) (a b : Int) : condV 48 wide a b = decide (b % aM wide ≤ a % aM wide) := rfl
theorem cv_160 (wide : Bool) (a b : Int) : condV 160 wide a b = decide (a % aM wide < b % aM wide) := rfl
theorem cv_176 (wide : Bool) (a b : Int) : condV 176 wide a b = decide (a % aM wide ≤ b % aM wide) := rfl
theorem cv_96 (wide : Bool) (a b : Int) : condV 96 wide a b = decide (sg wide (b % aM wide) < sg wide (a % aM wide)) := rfl
theorem cv_112 (wide : Bool) (a b : Int) : condV 112 wide a b = decide (sg wide (b % aM wide) ≤ sg wide (a % aM wide)) := rfl
theorem cv_192 (wide : Bool) (a b : Int) : condV 192 wide a b = decide (sg wide (a % aM wide) < sg wide (b % aM wide)) := rfl
theorem cv_208 (wide : Bool) (a b : Int) : condV 208 wide a b = decide (sg wide (a % aM wide) ≤ sg wide (b % aM wide)) := rfl

theorem sg_same (wide : Bool) (a b : Int) : sg wide (a % aM wide) = sg wide (b % aM wide) ↔ a % aM wide = b % aM wide := sg_inj wide _ _ (am_range wide a) (am_range wide b)

/-- Of less, more and the same just one holds. -/
theorem just_one (wide : Bool) (a b : Int) :
    (condV 160 wide a b = true ∧ condV 32 wide a b = false ∧ condV 16 wide a b = false) ∨ (condV 160 wide a b = false ∧ condV 32 wide a b = true ∧ condV 16 wide a b = false) ∨
      (condV 160 wide a b = false ∧ condV 32 wide a b = false ∧ condV 16 wide a b = true) := by
  rw [cv_160, cv_32, cv_16]
  simp only [decide_eq_true_eq, decide_eq_false_iff_not]
  omega
theorem just_one_signed (wide : Bool) (a b : Int) :
    (condV 192 wide a b = true ∧ condV 96 wide a b = false ∧ condV 16 wide a b = false) ∨ (condV 192 wide a b = false ∧ condV 96 wide a b = true ∧ condV 16 wide a b = false) ∨
      (condV 192 wide a b = false ∧ condV 96 wide a b = false ∧ condV 16 wide a b = true) := by
  have h := sg_same wide a b
  rw [cv_192, cv_96, cv_16]
  simp only [decide_eq_true_eq, decide_eq_false_iff_not]
  omega

/-- What is not more goes on. -/
theorem le_on (wide : Bool) (a b c : Int) (h1 : condV 176 wide a b = true) (h2 : condV 176 wide b c = true) : condV 176 wide a c = true := by
  rw [cv_176, decide_eq_true_eq] at *
  omega
theorem sle_on (wide : Bool) (a b c : Int) (h1 : condV 208 wide a b = true) (h2 : condV 208 wide b c = true) : condV 208 wide a c = true := by
  rw [cv_208, decide_eq_true_eq] at *
  omega

/-- A condition, and the one that holds just if it does not. -/
theorem not_law (op k : Int) (h : (op = 16 ∧ k = 80) ∨ (op = 80 ∧ k = 16) ∨ (op = 32 ∧ k = 176) ∨ (op = 176 ∧ k = 32) ∨ (op = 48 ∧ k = 160) ∨ (op = 160 ∧ k = 48) ∨ (op = 96 ∧ k = 208) ∨ (op = 208 ∧ k = 96) ∨ (op = 112 ∧ k = 192) ∨ (op = 192 ∧ k = 112))
    (wide : Bool) (a b : Int) : (condV op wide a b != condV k wide a b) = true := by
  rcases h with ⟨rfl, rfl⟩ | ⟨rfl, rfl⟩ | ⟨rfl, rfl⟩ | ⟨rfl, rfl⟩ | ⟨rfl, rfl⟩ | ⟨rfl, rfl⟩ | ⟨rfl, rfl⟩ | ⟨rfl, rfl⟩ | ⟨rfl, rfl⟩ | ⟨rfl, rfl⟩
  all_goals
    simp only [cv_16, cv_80, cv_32, cv_48, cv_160, cv_176, cv_96, cv_112, cv_192, cv_208]
    first | (by_cases h : a % aM wide = b % aM wide <;> simp [h]; done) | (by_cases h : b % aM wide < a % aM wide <;> simp [h] <;> omega) | (by_cases h : b % aM wide ≤ a % aM wide <;> simp [h] <;> omega) | (by_cases h : sg wide (b % aM wide) < sg wide (a % aM wide) <;> simp [h] <;> omega) | (by_cases h : sg wide (b % aM wide) ≤ sg wide (a % aM wide) <;> simp [h] <;> omega)

/-- A condition, and the one of numbers changed about. -/
theorem turn_law (op k : Int) (h : (op = 16 ∧ k = 16) ∨ (op = 80 ∧ k = 80) ∨ (op = 64 ∧ k = 64) ∨ (op = 32 ∧ k = 160) ∨ (op = 160 ∧ k = 32) ∨ (op = 48 ∧ k = 176) ∨ (op = 176 ∧ k = 48) ∨ (op = 96 ∧ k = 192) ∨ (op = 192 ∧ k = 96) ∨ (op = 112 ∧ k = 208) ∨ (op = 208 ∧ k = 112))
    (wide : Bool) (a b : Int) : condV op wide a b = condV k wide b a := by
  rcases h with ⟨rfl, rfl⟩ | ⟨rfl, rfl⟩ | ⟨rfl, rfl⟩ | ⟨rfl, rfl⟩ | ⟨rfl, rfl⟩ | ⟨rfl, rfl⟩ | ⟨rfl, rfl⟩ | ⟨rfl, rfl⟩ | ⟨rfl, rfl⟩ | ⟨rfl, rfl⟩ | ⟨rfl, rfl⟩
  · rw [cv_16, cv_16]; exact decide_eq_decide.mpr ⟨Eq.symm, Eq.symm⟩
  · rw [cv_80, cv_80]; exact congrArg _ (decide_eq_decide.mpr ⟨Eq.symm, Eq.symm⟩)
  · rw [cv_64, cv_64, Nat.and_comm]
  all_goals rfl

end Go.Proofs.Ytpnobkaeoiaelaa
