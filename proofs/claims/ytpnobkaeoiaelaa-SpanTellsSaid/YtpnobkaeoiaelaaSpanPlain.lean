/-
  Plain numbers: spans, what both have, and where what arithmetic makes is. No program is named here.
-/
import Derived.Test.YtpnobkaeoiaelaaCondPlain
namespace Go.Proofs.Ytpnobkaeoiaelaa
open Go Go.RowKit
set_option linter.unusedVariables false

/-- A span: from the first number to the second one. -/
abbrev Sp := Int × Int
abbrev sV (s : Sp) : Value := .agg #[.int .u64 s.1, .int .u64 s.2]
def In64 (n : Int) : Prop := 0 ≤ n ∧ n ≤ 18446744073709551615
def sIn (s : Sp) : Prop := In64 s.1 ∧ In64 s.2
def sR (s : Sp) : Bool := decide (s.1 ≤ s.2)
def sRR (a b : Sp) : Bool := sR a && sR b
def sAll : Sp := (0, 18446744073709551615)
def sH (s : Sp) (n : Int) : Bool := decide (s.1 ≤ n) && decide (n ≤ s.2)
def sW (a b : Sp) : Bool := sRR a b && (decide (b.1 ≤ a.1) && decide (a.2 ≤ b.2))
def sJ (a b : Sp) : Sp := if sRR a b then (min a.1 b.1, max a.2 b.2) else (0, 0)
def sT (l h : Int) : Sp := if h < l then (0, 0) else (l, h)
def sTok (l h : Int) : Bool := decide (l ≤ h)
def sM (a b : Sp) : Sp := sT (max a.1 b.1) (min a.2 b.2)
def sMok (a b : Sp) : Bool := sTok (max a.1 b.1) (min a.2 b.2)
def sAdd (a b : Sp) : Sp := if a.2 + b.2 ≤ 18446744073709551615 then (a.1 + b.1, a.2 + b.2) else sAll
def sSub (a b : Sp) : Sp := if b.2 ≤ a.1 then (a.1 - b.2, a.2 - b.1) else sAll
def sMul (a b : Sp) : Sp := if a.2 * b.2 ≤ 18446744073709551615 then (a.1 * b.1, a.2 * b.2) else sAll
def sDo' (op : Int) (a b : Sp) : Sp :=
  if op = 0 then sAdd a b else if op = 16 then sSub a b else if op = 32 then sMul a b
  else if op = 48 ∧ b.1 ≠ 0 then (a.1 / b.2, a.2 / b.1)
  else if op = 144 ∧ b.1 ≠ 0 then (0, min a.2 (b.2 - 1))
  else if op = 80 then (0, min a.2 b.2)
  else if op = 112 ∧ b.2 < 64 then (a.1 / 2 ^ b.2.toNat, a.2 / 2 ^ b.1.toNat)
  else sAll
def sDo (op : Int) (a b : Sp) : Sp := if sRR a b then sDo' op a b else (0, 0)
/-- What is left of a, if it must not be b. -/
def sUn (a b : Sp) : Sp :=
  if b.1 = b.2 ∧ a.1 ≤ b.1 ∧ b.1 ≤ a.2 then (if a.1 = a.2 then (0, 0) else if a.1 = b.1 then (a.1 + 1, a.2) else if a.2 = b.2 then (a.1, a.2 - 1) else a) else a
def sUnok (a b : Sp) : Bool := !(decide (b.1 = b.2 ∧ a.1 ≤ b.1 ∧ b.1 ≤ a.2) && decide (a.1 = a.2))
def sIf' (op : Int) (a b : Sp) : Sp :=
  if op = 16 then sM a b else if op = 80 then sUn a b
  else if op = 64 then (if a.2 = 0 ∨ b.2 = 0 then (0, 0) else a)
  else if op = 32 then (if b.1 < a.2 then sT (max a.1 (b.1 + 1)) a.2 else (0, 0))
  else if op = 48 then (if b.1 ≤ a.2 then sT (max a.1 b.1) a.2 else (0, 0))
  else if op = 160 then (if a.1 < b.2 then sT a.1 (min a.2 (b.2 - 1)) else (0, 0))
  else if op = 176 then (if a.1 ≤ b.2 then sT a.1 (min a.2 b.2) else (0, 0))
  else a
def sIfok' (op : Int) (a b : Sp) : Bool :=
  if op = 16 then sMok a b else if op = 80 then sUnok a b
  else if op = 64 then !decide (a.2 = 0 ∨ b.2 = 0)
  else if op = 32 then decide (b.1 < a.2) && sTok (max a.1 (b.1 + 1)) a.2
  else if op = 48 then decide (b.1 ≤ a.2) && sTok (max a.1 b.1) a.2
  else if op = 160 then decide (a.1 < b.2) && sTok a.1 (min a.2 (b.2 - 1))
  else if op = 176 then decide (a.1 ≤ b.2) && sTok a.1 (min a.2 b.2)
  else true
def sIf (op : Int) (a b : Sp) : Sp := if sRR a b then sIf' op a b else (0, 0)
def sIfok (op : Int) (a b : Sp) : Bool := sRR a b && sIfok' op a b

/-- The statements' own spans, and numbers of them. -/
def sMade (a b : Int) : Sp := (min a b, max a b)
def sPick (a b n : Int) : Int := if max a b - min a b + 1 = 18446744073709551616 then n else min a b + n % (max a b - min a b + 1)

theorem sRR_true {a b : Sp} (h : sRR a b = true) : a.1 ≤ a.2 ∧ b.1 ≤ b.2 := by simpa [sRR, sR] using h
theorem made_right (a b : Int) : sR (sMade a b) = true := decide_eq_true (show min a b ≤ max a b by omega)
theorem made_in {a b : Int} (ha : In64 a) (hb : In64 b) : sIn (sMade a b) := by
  unfold sIn In64 sMade at *; simp only; omega
theorem pick_in {a b n : Int} (ha : In64 a) (hb : In64 b) (hn : In64 n) : In64 (sPick a b n) ∧ sH (sMade a b) (sPick a b n) = true := by
  unfold sPick
  have h : In64 (sPick a b n) ∧ min a b ≤ sPick a b n ∧ sPick a b n ≤ max a b := by
    unfold In64 sPick at *
    split
    · omega
    · have h1 := Int.emod_nonneg n (b := max a b - min a b + 1) (by omega)
      have h2 := Int.emod_lt_of_pos n (b := max a b - min a b + 1) (by omega)
      omega
  unfold sPick at h
  refine ⟨h.1, ?_⟩
  exact Bool.and_eq_true_iff.mpr ⟨decide_eq_true h.2.1, decide_eq_true h.2.2⟩

end Go.Proofs.Ytpnobkaeoiaelaa
