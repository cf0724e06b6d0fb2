/-
  Plain numbers: what conditions ask of two numbers of 32 or 64 bits. No program is named here.
-/
import Derived.Test.YtpnobkaeoiaelaaAluPlain
namespace Go.Proofs.Ytpnobkaeoiaelaa
open Go Go.RowKit
set_option linter.unusedVariables false

/-- Which conditions there are. -/
def condFits (op : Int) : Bool := op == 0 || op == 16 || op == 80 || op == 64 || op == 32 || op == 48 || op == 160 || op == 176 || op == 96 || op == 112 || op == 192 || op == 208
/-- What a condition asks of two numbers that are cut already. -/
def condXY (wide : Bool) (op x y : Int) : Bool :=
  if op = 0 then true
  else if op = 16 then decide (x = y)
  else if op = 80 then !decide (x = y)
  else if op = 64 then !decide (((x.toNat &&& y.toNat : Nat) : Int) = 0)
  else if op = 32 then decide (y < x)
  else if op = 48 then decide (y ≤ x)
  else if op = 160 then decide (x < y)
  else if op = 176 then decide (x ≤ y)
  else if op = 96 then decide (sg wide y < sg wide x)
  else if op = 112 then decide (sg wide y ≤ sg wide x)
  else if op = 192 then decide (sg wide x < sg wide y)
  else if op = 208 then decide (sg wide x ≤ sg wide y)
  else false
def condV (op : Int) (wide : Bool) (a b : Int) : Bool := condXY wide op (a % aM wide) (b % aM wide)
def condE (op : Int) : Int := if condFits op then 0 else 1

/-- Two signed numbers are one just if they are one. -/
theorem sg_inj (wide : Bool) (x y : Int) (hx : 0 ≤ x ∧ x < aM wide) (hy : 0 ≤ y ∧ y < aM wide) : sg wide x = sg wide y ↔ x = y := by
  constructor
  · intro h
    have h1 := sg_mod wide x
    have h2 := sg_mod wide y
    rw [h] at h1
    rw [h1] at h2
    rw [Int.emod_eq_of_lt hx.1 hx.2, Int.emod_eq_of_lt hy.1 hy.2] at h2
    exact h2
  · rintro rfl; rfl

theorem am_range (wide : Bool) (a : Int) : 0 ≤ a % aM wide ∧ a % aM wide < aM wide := by
  have h := (aM_pos wide).1
  exact ⟨Int.emod_nonneg _ (by omega), Int.emod_lt_of_pos _ h⟩

theorem fits_not {op : Int} (h : condFits op = false) : ¬ op = 0 ∧ ¬ op = 16 ∧ ¬ op = 80 ∧ ¬ op = 64 ∧ ¬ op = 32 ∧ ¬ op = 48 ∧ ¬ op = 160 ∧ ¬ op = 176 ∧ ¬ op = 96 ∧ ¬ op = 112 ∧ ¬ op = 192 ∧ ¬ op = 208 := by
  simpa [condFits, and_assoc] using h
theorem fits_is {op : Int} (h : condFits op = true) : op = 0 ∨ op = 16 ∨ op = 80 ∨ op = 64 ∨ op = 32 ∨ op = 48 ∨ op = 160 ∨ op = 176 ∨ op = 96 ∨ op = 112 ∨ op = 192 ∨ op = 208 := by
  simpa [condFits, or_assoc] using h

theorem condV_none {op : Int} (h : condFits op = false) (wide : Bool) (a b : Int) : condV op wide a b = false := by
  obtain ⟨h1, h2, h3, h4, h5, h6, h7, h8, h9, h10, h11, h12⟩ := fits_not h
  unfold condV condXY
  rw [if_neg h1, if_neg h2, if_neg h3, if_neg h4, if_neg h5, if_neg h6, if_neg h7, if_neg h8, if_neg h9, if_neg h10, if_neg h11, if_neg h12]

/-! Changed about. -/
theorem turn_160 (wide : Bool) (a b : Int) : condV 160 wide a b = condV 32 wide b a := rfl
theorem turn_176 (wide : Bool) (a b : Int) : condV 176 wide a b = condV 48 wide b a := rfl
theorem turn_192 (wide : Bool) (a b : Int) : condV 192 wide a b = condV 96 wide b a := rfl
theorem turn_208 (wide : Bool) (a b : Int) : condV 208 wide a b = condV 112 wide b a := rfl

end Go.Proofs.Ytpnobkaeoiaelaa
