/-
  Plain numbers: what arithmetic makes of two numbers of 32 or 64 bits. No program is named here.
-/
import Derived.Test.YtpnobkaeoiaelaaPlain
namespace Go.Proofs.Ytpnobkaeoiaelaa
open Go Go.RowKit
set_option linter.unusedVariables false

/-- A number's lowest bits (as many as Q = 2^w tells), signed. -/
def sgnP (Q a : Int) : Int := if a % Q * 2 < Q then a % Q else a % Q - Q
/-- A number's lowest w bits, signed, modulo 2^64; of a width that is none, the number. -/
def signW (a w : Int) : Int := if 1 ≤ w ∧ w ≤ 64 then sgnP (2 ^ w.toNat) a % 18446744073709551616 else a

theorem wrap64_sgn (a : Int) : wrap64 a = sgnP 18446744073709551616 a := by unfold wrap64 sgnP; split <;> omega
theorem wrap32_sgn (a : Int) : wrap32 a = sgnP 4294967296 a := by unfold wrap32 sgnP; split <;> omega
theorem signW_64 (a : Int) : signW a 64 = a % 18446744073709551616 := by
  unfold signW; rw [if_pos (by decide)]; show sgnP 18446744073709551616 a % _ = _; unfold sgnP; split <;> omega
theorem signW_32 (a : Int) : signW a 32 = wrap32 a % 18446744073709551616 := by
  unfold signW; rw [if_pos (by decide)]; show sgnP 4294967296 a % _ = _; rw [wrap32_sgn]
theorem signW_0 (a : Int) : signW a 0 = a := by unfold signW; rw [if_neg (by decide)]
theorem signW_range (a w : Int) (h0 : 0 ≤ a) (h1 : a ≤ 18446744073709551615) : 0 ≤ signW a w ∧ signW a w ≤ 18446744073709551615 := by
  unfold signW; split <;> omega

theorem two_pow_pos (n : Nat) : (0 : Int) < 2 ^ n := by
  have := Nat.two_pow_pos n
  have e : ((2 ^ n : Nat) : Int) = (2 : Int) ^ n := by push_cast; rfl
  omega
theorem two_pow_split (w : Int) (h1 : 0 ≤ w) (h2 : w ≤ 64) : (2 : Int) ^ (64 - w).toNat * 2 ^ w.toNat = 18446744073709551616 := by
  rw [← Int.pow_add]
  have : (64 - w).toNat + w.toNat = 64 := by omega
  rw [this]; rfl
theorem two_pow_succ (w : Int) (h1 : 1 ≤ w) : (2 : Int) ^ w.toNat = 2 ^ (w - 1).toNat * 2 := by
  rw [show w.toNat = (w - 1).toNat + 1 by omega, Int.pow_succ]

/-- Moved up and down again: the lowest bits. -/
theorem up_down (n w : Int) (h1 : 0 ≤ w) (h2 : w ≤ 64) : n * 2 ^ (64 - w).toNat % 18446744073709551616 / 2 ^ (64 - w).toNat = n % 2 ^ w.toNat := by
  have hP := two_pow_pos (64 - w).toNat
  rw [← two_pow_split w h1 h2, Int.mul_comm n, Int.mul_emod_mul_of_pos _ _ hP, Int.mul_ediv_cancel_left _ (by omega)]

/-- Moved up, and down again with the sign: the lowest bits, signed. -/
theorem up_down_signed (n w : Int) (h1 : 1 ≤ w) (h2 : w ≤ 64) : wrap64 (n * 2 ^ (64 - w).toNat % 18446744073709551616) / 2 ^ (64 - w).toNat = sgnP (2 ^ w.toNat) n := by
  have hP := two_pow_pos (64 - w).toNat
  have hs := two_pow_split w (by omega) h2
  rw [wrap64_sgn]
  unfold sgnP
  rw [Int.emod_emod_of_dvd _ (Int.dvd_refl _), ← hs, Int.mul_comm n, Int.mul_emod_mul_of_pos _ _ hP]
  generalize (2 : Int) ^ (64 - w).toNat = P at *
  generalize (2 : Int) ^ w.toNat = Q at *
  generalize n % Q = r
  have e : P * r * 2 < P * Q ↔ r * 2 < Q := by
    rw [Int.mul_assoc]
    exact ⟨fun h => Int.lt_of_mul_lt_mul_left h (by omega), fun h => Int.mul_lt_mul_of_pos_left h hP⟩
  by_cases h : r * 2 < Q
  · rw [if_pos (e.mpr h), if_pos h, Int.mul_ediv_cancel_left _ (by omega)]
  · rw [if_neg (fun x => h (e.mp x)), if_neg h, ← Int.mul_sub, Int.mul_ediv_cancel_left _ (by omega)]

/-! What arithmetic makes, before it is cut. -/
def aM (wide : Bool) : Int := if wide then 18446744073709551616 else 4294967296
def aB (wide : Bool) : Int := if wide then 64 else 32
def sg (wide : Bool) (x : Int) : Int := if wide then wrap64 x else wrap32 x

def aluFits (op : Int) (wide : Bool) (off : Int) : Bool :=
  if op = 48 ∨ op = 144 then off == 0 || off == 1
  else if op = 176 then off == 0 || off == 8 || off == 16 || (off == 32 && wide)
  else if op = 0 ∨ op = 16 ∨ op = 32 ∨ op = 64 ∨ op = 80 ∨ op = 160 ∨ op = 96 ∨ op = 112 ∨ op = 192 ∨ op = 128 then off == 0
  else false

def aluZ (wide : Bool) (op off x y : Int) : Int :=
  if op = 0 then x + y
  else if op = 16 then x - y
  else if op = 32 then x * y
  else if op = 64 then ((x.toNat ||| y.toNat : Nat) : Int)
  else if op = 80 then ((x.toNat &&& y.toNat : Nat) : Int)
  else if op = 160 then ((x.toNat ^^^ y.toNat : Nat) : Int)
  else if op = 96 then x * 2 ^ (y % aB wide).toNat
  else if op = 112 then x / 2 ^ (y % aB wide).toNat
  else if op = 192 then sg wide x / 2 ^ (y % aB wide).toNat
  else if op = 128 then -x
  else if op = 176 then signW y off
  else if op = 48 then (if off = 1 then sg wide ((sg wide x).tdiv (sg wide y)) else x / y)
  else if op = 144 then (if off = 1 then (sg wide x).tmod (sg wide y) else x % y)
  else 0

/-- What arithmetic makes of two numbers. -/
def aluV (wide : Bool) (op off a b : Int) : Int := if aluFits op wide off then aluZ wide op off (a % aM wide) (b % aM wide) % aM wide else 0
def aluE (wide : Bool) (op off : Int) : Int := if aluFits op wide off then 0 else 1

theorem aM_pos (wide : Bool) : 0 < aM wide ∧ aM wide ≤ 18446744073709551616 := by cases wide <;> decide
theorem aluV_range (wide : Bool) (op off a b : Int) : 0 ≤ aluV wide op off a b ∧ aluV wide op off a b ≤ 18446744073709551615 := by
  unfold aluV
  have h := aM_pos wide
  split
  · have h1 := Int.emod_nonneg (aluZ wide op off (a % aM wide) (b % aM wide)) (b := aM wide) (by omega)
    have h2 := Int.emod_lt_of_pos (aluZ wide op off (a % aM wide) (b % aM wide)) (b := aM wide) (by omega)
    omega
  · omega

theorem or_small (x y : Int) (hx : x ≤ 18446744073709551615) (hy : y ≤ 18446744073709551615) : ((x.toNat ||| y.toNat : Nat) : Int) = ((x.toNat ||| y.toNat : Nat) : Int) % 18446744073709551616 := by
  have h := Nat.or_lt_two_pow (n := 64) (x := x.toNat) (y := y.toNat) (by omega) (by omega)
  omega
theorem and_small (x y : Int) (hx : x ≤ 18446744073709551615) (hy : y ≤ 18446744073709551615) : ((x.toNat &&& y.toNat : Nat) : Int) = ((x.toNat &&& y.toNat : Nat) : Int) % 18446744073709551616 := by
  have h := Nat.and_lt_two_pow (n := 64) x.toNat (y := y.toNat) (by omega)
  omega
theorem xor_small (x y : Int) (hx : x ≤ 18446744073709551615) (hy : y ≤ 18446744073709551615) : ((x.toNat ^^^ y.toNat : Nat) : Int) = ((x.toNat ^^^ y.toNat : Nat) : Int) % 18446744073709551616 := by
  have h := Nat.xor_lt_two_pow (n := 64) (x := x.toNat) (y := y.toNat) (by omega) (by omega)
  omega
theorem shr_small (x : Int) (k : Nat) (hx : 0 ≤ x) (hx' : x ≤ 18446744073709551615) : x / 2 ^ k = x / 2 ^ k % 18446744073709551616 := by
  have h := two_pow_pos k
  have h1 := Int.ediv_le_self (2 ^ k) hx
  have h2 := Int.ediv_nonneg hx (b := 2 ^ k) (by omega)
  omega
theorem wrap64_low (x : Int) : wrap64 (x % 18446744073709551616) = wrap64 x := by unfold wrap64; omega
theorem wrap64_wrap32 (x : Int) : wrap64 (wrap32 x % 18446744073709551616) = wrap32 x := by unfold wrap64 wrap32; omega
/-- A number that is taken as signed is the same modulo as many bits. -/
theorem sg_mod (wide : Bool) (z : Int) : sg wide z % aM wide = z % aM wide := by
  cases wide
  · show wrap32 z % 4294967296 = z % 4294967296
    unfold wrap32; omega
  · show wrap64 z % 18446744073709551616 = z % 18446744073709551616
    unfold wrap64; omega

/-- Which arithmetic there is. -/
theorem fits_ops {op off : Int} {wide : Bool} (h : aluFits op wide off = true) :
    (op = 0 ∧ off = 0) ∨ (op = 16 ∧ off = 0) ∨ (op = 32 ∧ off = 0) ∨ (op = 64 ∧ off = 0) ∨ (op = 80 ∧ off = 0) ∨ (op = 160 ∧ off = 0) ∨ (op = 96 ∧ off = 0) ∨ (op = 112 ∧ off = 0) ∨
    (op = 192 ∧ off = 0) ∨ (op = 128 ∧ off = 0) ∨ (op = 176 ∧ (off = 0 ∨ off = 8 ∨ off = 16 ∨ (off = 32 ∧ wide = true))) ∨ (op = 48 ∧ (off = 0 ∨ off = 1)) ∨ (op = 144 ∧ (off = 0 ∨ off = 1)) := by
  unfold aluFits at h
  split at h
  · rename_i h'
    rcases h' with rfl | rfl
    · have h2 : off = 0 ∨ off = 1 := by simpa using h
      simp [h2]
    · have h2 : off = 0 ∨ off = 1 := by simpa using h
      simp [h2]
  · split at h
    · rename_i h'
      subst h'
      have h2 : off = 0 ∨ off = 8 ∨ off = 16 ∨ (off = 32 ∧ wide = true) := by simpa [or_assoc] using h
      simp [h2]
    · split at h
      · rename_i h'
        have h2 : off = 0 := by simpa using h
        subst h2
        rcases h' with rfl | rfl | rfl | rfl | rfl | rfl | rfl | rfl | rfl | rfl <;> simp
      · cases h

theorem fits_off {op off : Int} {wide : Bool} (h : aluFits op wide off = true) : 0 ≤ off ∧ off ≤ 32 := by
  rcases fits_ops h with h | h | h | h | h | h | h | h | h | h | h | h | h <;> omega

end Go.Proofs.Ytpnobkaeoiaelaa
