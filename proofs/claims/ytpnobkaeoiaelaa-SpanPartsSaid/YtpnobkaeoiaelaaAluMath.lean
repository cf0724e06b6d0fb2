/-
  Plain numbers: what follows of aluV (Div and Mod go together; narrow hangs on the lowest bits; orders; bits moved up and down). No program is named here.
-/
import Derived.Test.YtpnobkaeoiaelaaAluPlain
namespace Go.Proofs.Ytpnobkaeoiaelaa
open Go Go.RowKit
set_option linter.unusedVariables false

theorem aM_dvd (wide : Bool) : aM wide ∣ 18446744073709551616 := by cases wide <;> decide
theorem emod_self_mod (a m : Int) : a % m % m = a % m := Int.emod_emod_of_dvd a (Int.dvd_refl m)
theorem add_mod_l (a b m : Int) : (a % m + b) % m = (a + b) % m := by rw [Int.add_emod, emod_self_mod, ← Int.add_emod]
theorem add_mod_r (a b m : Int) : (a + b % m) % m = (a + b) % m := by rw [Int.add_emod, emod_self_mod, ← Int.add_emod]
theorem mul_mod_l (a b m : Int) : (a % m * b) % m = (a * b) % m := by rw [Int.mul_emod, emod_self_mod, ← Int.mul_emod]
theorem mul_mod_r (a b m : Int) : (a * (b % m)) % m = (a * b) % m := by rw [Int.mul_emod, emod_self_mod, ← Int.mul_emod]

/-! aluV, op by op. -/
section
variable (wide : Bool) (a b : Int)
theorem v_add : aluV wide 0 0 a b = (a + b) % aM wide := by
  show (a % aM wide + b % aM wide) % aM wide = _; rw [← Int.add_emod]
theorem v_sub : aluV wide 16 0 a b = (a - b) % aM wide := by
  show (a % aM wide - b % aM wide) % aM wide = _; rw [← Int.sub_emod]
theorem v_mul : aluV wide 32 0 a b = (a * b) % aM wide := by
  show (a % aM wide * (b % aM wide)) % aM wide = _; rw [← Int.mul_emod]
theorem v_mov : aluV wide 176 0 a b = b % aM wide := by
  show signW (b % aM wide) 0 % aM wide = _; rw [signW_0, emod_self_mod]
theorem v_neg : aluV wide 128 0 a b = (-a) % aM wide := by
  show (-(a % aM wide)) % aM wide = _
  rw [Int.neg_emod_eq_sub_emod, Int.sub_emod, emod_self_mod, ← Int.sub_emod, ← Int.neg_emod_eq_sub_emod]
theorem v_lsh : aluV wide 96 0 a b = (a * 2 ^ (b % aM wide % aB wide).toNat) % aM wide := by
  show (a % aM wide * 2 ^ (b % aM wide % aB wide).toNat) % aM wide = _; rw [mul_mod_l]
theorem v_rsh : aluV wide 112 0 a b = (a % aM wide / 2 ^ (b % aM wide % aB wide).toNat) % aM wide := rfl
theorem v_arsh : aluV wide 192 0 a b = (sg wide (a % aM wide) / 2 ^ (b % aM wide % aB wide).toNat) % aM wide := rfl
theorem v_div0 : aluV wide 48 0 a b = (a % aM wide / (b % aM wide)) % aM wide := rfl
theorem v_mod0 : aluV wide 144 0 a b = (a % aM wide % (b % aM wide)) % aM wide := rfl
theorem v_div1 : aluV wide 48 1 a b = ((sg wide (a % aM wide)).tdiv (sg wide (b % aM wide))) % aM wide := by
  show sg wide ((sg wide (a % aM wide)).tdiv (sg wide (b % aM wide))) % aM wide = _; rw [sg_mod]
theorem v_mod1 : aluV wide 144 1 a b = ((sg wide (a % aM wide)).tmod (sg wide (b % aM wide))) % aM wide := rfl
theorem v_or : aluV wide 64 0 a b = (((a % aM wide).toNat ||| (b % aM wide).toNat : Nat) : Int) % aM wide := rfl
theorem v_and : aluV wide 80 0 a b = (((a % aM wide).toNat &&& (b % aM wide).toNat : Nat) : Int) % aM wide := rfl
theorem v_xor : aluV wide 160 0 a b = (((a % aM wide).toNat ^^^ (b % aM wide).toNat : Nat) : Int) % aM wide := rfl
end

/-- What narrow makes is below 2^32, and hangs on the lowest 32 bits alone. -/
theorem narrow_range (op off a b : Int) : 0 ≤ aluV false op off a b ∧ aluV false op off a b ≤ 4294967295 := by
  unfold aluV
  split
  · have h1 : 0 ≤ aluZ false op off (a % aM false) (b % aM false) % 4294967296 := by omega
    have h2 : aluZ false op off (a % aM false) (b % aM false) % 4294967296 < 4294967296 := by omega
    exact ⟨h1, by show aluZ false op off (a % aM false) (b % aM false) % 4294967296 ≤ _; omega⟩
  · omega
theorem narrow_low (op off a b p q : Int) (h1 : p % 4294967296 = a % 4294967296) (h2 : q % 4294967296 = b % 4294967296) : aluV false op off p q = aluV false op off a b := by
  unfold aluV
  show (if _ then aluZ false op off (p % 4294967296) (q % 4294967296) % _ else 0) = (if _ then aluZ false op off (a % 4294967296) (b % 4294967296) % _ else 0)
  rw [h1, h2]

/-- Bits that are turned from the 32nd on leave the lowest 32 as they are. -/
theorem xor_high (a h : Int) (ha : 0 ≤ a) (ha' : a ≤ 18446744073709551615) (hh : 0 ≤ h) (hh' : h ≤ 18446744073709551615) (hm : h % 4294967296 = 0) :
    bits .xor .u64 a h % 4294967296 = a % 4294967296 ∧ 0 ≤ bits .xor .u64 a h ∧ bits .xor .u64 a h ≤ 18446744073709551615 := by
  have hlt := Nat.xor_lt_two_pow (n := 64) (x := a.toNat) (y := h.toNat) (by omega) (by omega)
  have hmod : (a.toNat ^^^ h.toNat) % 2 ^ 32 = a.toNat % 2 ^ 32 := by
    rw [Nat.xor_mod_two_pow, show h.toNat % 2 ^ 32 = 0 by omega, Nat.xor_zero]
  rw [u64_xor a h ha (by omega) hh (by omega)]
  omega

/-- Div and Mod go together. -/
theorem parts_eq (wide signed : Bool) (a b : Int) :
    aluV wide 0 0 (aluV wide 32 0 (aluV wide 48 (if signed then 1 else 0) a b) b) (aluV wide 144 (if signed then 1 else 0) a b) = aluV wide 176 0 0 a := by
  rw [v_add, v_mul, v_mov]
  cases signed
  · show ((aluV wide 48 0 a b * b) % aM wide + aluV wide 144 0 a b) % aM wide = _
    rw [v_div0, v_mod0, mul_mod_l, add_mod_r, add_mod_l]
    have e : (a % aM wide / (b % aM wide) * b) % aM wide = (a % aM wide / (b % aM wide) * (b % aM wide)) % aM wide := by rw [mul_mod_r]
    rw [← add_mod_l, e, add_mod_l, Int.mul_comm, Int.mul_ediv_add_emod, emod_self_mod]
  · show ((aluV wide 48 1 a b * b) % aM wide + aluV wide 144 1 a b) % aM wide = _
    rw [v_div1, v_mod1, mul_mod_l, add_mod_r, add_mod_l]
    generalize hx : sg wide (a % aM wide) = x
    generalize hy : sg wide (b % aM wide) = y
    have ex : x % aM wide = a % aM wide := by rw [← hx, sg_mod, emod_self_mod]
    have ey : y % aM wide = b % aM wide := by rw [← hy, sg_mod, emod_self_mod]
    have e : (x.tdiv y * b) % aM wide = (x.tdiv y * y) % aM wide := by rw [← mul_mod_r, ← ey, mul_mod_r]
    rw [← add_mod_l, e, add_mod_l, Int.tdiv_mul_add_tmod, ex]

/-! The order of numbers. -/
theorem low_nat (wide : Bool) (a : Int) : (a % aM wide).toNat < 2 ^ (if wide then 64 else 32) := by
  cases wide
  · show (a % 4294967296).toNat < 4294967296; omega
  · show (a % 18446744073709551616).toNat < 18446744073709551616; omega
theorem nat_mod (wide : Bool) (n : Nat) (h : n < 2 ^ (if wide then 64 else 32)) : (n : Int) % aM wide = n := by
  cases wide
  · have h' : n < 4294967296 := h
    show (n : Int) % 4294967296 = n; omega
  · have h' : n < 18446744073709551616 := h
    show (n : Int) % 18446744073709551616 = n; omega
theorem or_law (wide : Bool) (a b c : Int) : aluV wide 64 0 a b = aluV wide 64 0 b a ∧ aluV wide 64 0 (aluV wide 64 0 a b) c = aluV wide 64 0 a (aluV wide 64 0 b c) := by
  have ha := low_nat wide a
  have hb := low_nat wide b
  have hc := low_nat wide c
  simp only [v_or]
  rw [nat_mod wide _ (Nat.or_lt_two_pow ha hb), nat_mod wide _ (Nat.or_lt_two_pow hb hc), nat_mod wide _ (Nat.or_lt_two_pow ha hb), nat_mod wide _ (Nat.or_lt_two_pow hb ha), nat_mod wide _ (Nat.or_lt_two_pow hb hc)]
  simp only [Int.toNat_natCast]
  exact ⟨by rw [Nat.or_comm], by rw [Nat.or_assoc]⟩
theorem and_law (wide : Bool) (a b c : Int) : aluV wide 80 0 a b = aluV wide 80 0 b a ∧ aluV wide 80 0 (aluV wide 80 0 a b) c = aluV wide 80 0 a (aluV wide 80 0 b c) := by
  have ha := low_nat wide a
  have hb := low_nat wide b
  have hc := low_nat wide c
  simp only [v_and, emod_self_mod]
  rw [nat_mod wide _ (Nat.and_lt_two_pow (a % aM wide).toNat hb), nat_mod wide _ (Nat.and_lt_two_pow (b % aM wide).toNat ha), nat_mod wide _ (Nat.and_lt_two_pow (b % aM wide).toNat hc)]
  simp only [Int.toNat_natCast]
  rw [nat_mod wide _ (Nat.and_lt_two_pow _ hc), nat_mod wide _ (Nat.and_lt_two_pow _ (Nat.and_lt_two_pow _ hc))]
  exact ⟨by rw [Nat.and_comm], by rw [Nat.and_assoc]⟩
theorem xor_law (wide : Bool) (a b c : Int) : aluV wide 160 0 a b = aluV wide 160 0 b a ∧ aluV wide 160 0 (aluV wide 160 0 a b) c = aluV wide 160 0 a (aluV wide 160 0 b c) := by
  have ha := low_nat wide a
  have hb := low_nat wide b
  have hc := low_nat wide c
  simp only [v_xor]
  rw [nat_mod wide _ (Nat.xor_lt_two_pow ha hb), nat_mod wide _ (Nat.xor_lt_two_pow hb hc), nat_mod wide _ (Nat.xor_lt_two_pow ha hb), nat_mod wide _ (Nat.xor_lt_two_pow hb ha), nat_mod wide _ (Nat.xor_lt_two_pow hb hc)]
  simp only [Int.toNat_natCast]
  exact ⟨by rw [Nat.xor_comm], by rw [Nat.xor_assoc]⟩
theorem add_law (wide : Bool) (a b c : Int) : aluV wide 0 0 a b = aluV wide 0 0 b a ∧ aluV wide 0 0 (aluV wide 0 0 a b) c = aluV wide 0 0 a (aluV wide 0 0 b c) := by
  simp only [v_add]
  exact ⟨by rw [Int.add_comm], by rw [add_mod_l, add_mod_r, Int.add_assoc]⟩
theorem mul_law (wide : Bool) (a b c : Int) : aluV wide 32 0 a b = aluV wide 32 0 b a ∧ aluV wide 32 0 (aluV wide 32 0 a b) c = aluV wide 32 0 a (aluV wide 32 0 b c) := by
  simp only [v_mul]
  exact ⟨by rw [Int.mul_comm], by rw [mul_mod_l, mul_mod_r, Int.mul_assoc]⟩

/-! Bits moved up and down again. -/
theorem shift_of (wide : Bool) (n : Int) (h0 : 0 ≤ n) (h1 : n < aB wide) : n % aM wide % aB wide = n ∧ (n + aB wide) % aM wide % aB wide = n := by
  cases wide
  · replace h1 : n < 32 := h1
    show n % 4294967296 % 32 = n ∧ (n + 32) % 4294967296 % 32 = n; omega
  · replace h1 : n < 64 := h1
    show n % 18446744073709551616 % 64 = n ∧ (n + 64) % 18446744073709551616 % 64 = n; omega
theorem aM_pow (wide : Bool) (n : Int) (h0 : 0 ≤ n) (h1 : n < aB wide) : (2 : Int) ^ n.toNat * 2 ^ (aB wide - n).toNat = aM wide := by
  rw [← Int.pow_add]
  cases wide
  · replace h1 : n < 32 := h1
    show (2 : Int) ^ (n.toNat + (32 - n).toNat) = _
    rw [show n.toNat + (32 - n).toNat = 32 by omega]; rfl
  · replace h1 : n < 64 := h1
    show (2 : Int) ^ (n.toNat + (64 - n).toNat) = _
    rw [show n.toNat + (64 - n).toNat = 64 by omega]; rfl
/-- .. are the lowest ones. -/
theorem moves_low (wide : Bool) (a n : Int) (h0 : 0 ≤ n) (h1 : n < aB wide) : aluV wide 112 0 (aluV wide 96 0 a n) n = a % 2 ^ (aB wide - n).toNat := by
  obtain ⟨e1, _⟩ := shift_of wide n h0 h1
  have hP := two_pow_pos n.toNat
  have hQ := two_pow_pos (aB wide - n).toNat
  have hPQ := aM_pow wide n h0 h1
  rw [v_rsh, v_lsh, e1, emod_self_mod, ← hPQ, Int.mul_comm a, Int.mul_emod_mul_of_pos _ _ hP, Int.mul_ediv_cancel_left _ (by omega)]
  have h2 := Int.emod_nonneg a (b := 2 ^ (aB wide - n).toNat) (by omega)
  have h3 := Int.emod_lt_of_pos a hQ
  have h4 : (2 : Int) ^ (aB wide - n).toNat ≤ 2 ^ n.toNat * 2 ^ (aB wide - n).toNat := by
    have := Int.mul_le_mul_of_nonneg_right (show (1 : Int) ≤ 2 ^ n.toNat by omega) (show (0 : Int) ≤ 2 ^ (aB wide - n).toNat by omega)
    omega
  exact Int.emod_eq_of_lt h2 (by omega)
/-- .. down with the sign and up again, and taken off: what is left is below 2^n. -/
theorem moves_left (wide : Bool) (a n : Int) (h0 : 0 ≤ n) (h1 : n < aB wide) : aluV wide 16 0 a (aluV wide 96 0 (aluV wide 192 0 a n) n) < 2 ^ n.toNat := by
  obtain ⟨e1, _⟩ := shift_of wide n h0 h1
  have hP := two_pow_pos n.toNat
  have hQ := two_pow_pos (aB wide - n).toNat
  have hPQ := aM_pow wide n h0 h1
  rw [v_sub, v_lsh, v_arsh, e1, mul_mod_l]
  generalize hx : sg wide (a % aM wide) = x
  have ex : x % aM wide = a % aM wide := by rw [← hx, sg_mod, emod_self_mod]
  have e : (a - x / 2 ^ n.toNat * 2 ^ n.toNat % aM wide) % aM wide = (x % 2 ^ n.toNat) % aM wide := by
    rw [Int.sub_emod, emod_self_mod, ← ex, ← Int.sub_emod]
    congr 1
    have := Int.mul_ediv_add_emod x (2 ^ n.toNat)
    rw [Int.mul_comm] at this
    omega
  rw [e]
  have h2 := Int.emod_nonneg x (b := 2 ^ n.toNat) (by omega)
  have h3 := Int.emod_lt_of_pos x hP
  have h4 : (2 : Int) ^ n.toNat ≤ 2 ^ n.toNat * 2 ^ (aB wide - n).toNat := by
    have := Int.mul_le_mul_of_nonneg_left (show (1 : Int) ≤ 2 ^ (aB wide - n).toNat by omega) (show (0 : Int) ≤ 2 ^ n.toNat by omega)
    omega
  rw [Int.emod_eq_of_lt h2 (by omega)]
  exact h3
/-- .. moved by as many bits more as there are: the same. -/
theorem moves_more (wide : Bool) (a n : Int) (h0 : 0 ≤ n) (h1 : n < aB wide) : aluV wide 96 0 a (n + aB wide) = aluV wide 96 0 a n := by
  obtain ⟨e1, e2⟩ := shift_of wide n h0 h1
  rw [v_lsh, v_lsh, e1, e2]

theorem pow_le_64 (k : Nat) (h : k ≤ 64) : 1 ≤ (2 : Int) ^ k ∧ (2 : Int) ^ k ≤ 18446744073709551616 := by
  have h1 := Nat.two_pow_pos k
  have h2 : 2 ^ k ≤ 2 ^ 64 := Nat.pow_le_pow_right (by decide) h
  have e : ((2 ^ k : Nat) : Int) = (2 : Int) ^ k := by push_cast; rfl
  omega
theorem pow_lt_64 (k : Nat) (h : k ≤ 63) : (2 : Int) ^ k % 18446744073709551616 = 2 ^ k := by
  have h1 := Nat.two_pow_pos k
  have h2 : 2 ^ k ≤ 2 ^ 63 := Nat.pow_le_pow_right (by decide) h
  have e : ((2 ^ k : Nat) : Int) = (2 : Int) ^ k := by push_cast; rfl
  omega

/-- A number's lowest bits, by a mask. -/
theorem and_mask (a : Int) (k : Nat) (hk : k ≤ 64) (ha : 0 ≤ a) (ha' : a ≤ 18446744073709551615) : bits .and .u64 a (2 ^ k - 1) = a % 2 ^ k := by
  have hp := Nat.two_pow_pos k
  have hle : 2 ^ k ≤ 2 ^ 64 := Nat.pow_le_pow_right (by decide) hk
  have e : ((2 ^ k : Nat) : Int) = (2 : Int) ^ k := by push_cast; rfl
  have e2 : ((2 : Int) ^ k - 1).toNat = 2 ^ k - 1 := by omega
  rw [u64_and a (2 ^ k - 1) ha (by omega) (by omega) (by omega), e2, Nat.and_two_pow_sub_one_eq_mod]
  rw [← e]
  push_cast
  rw [Int.toNat_of_nonneg ha]

/-- What is taken off what was added is as it was. -/
theorem add_sub (a b : Int) (ha : 0 ≤ a) (ha' : a ≤ 18446744073709551615) : aluV true 16 0 (aluV true 0 0 a b) b = a ∧ aluV true 0 0 (aluV true 0 0 a b) (aluV true 128 0 b 0) = a := by
  rw [v_sub, v_add, v_add, v_neg]
  show ((a + b) % 18446744073709551616 - b) % 18446744073709551616 = a ∧ ((a + b) % 18446744073709551616 + (-b) % 18446744073709551616) % 18446744073709551616 = a
  omega

end Go.Proofs.Ytpnobkaeoiaelaa
