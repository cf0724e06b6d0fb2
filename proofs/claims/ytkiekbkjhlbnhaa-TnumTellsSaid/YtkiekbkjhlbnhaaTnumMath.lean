/-
  What the laws of known bits say, of plain numbers: bit by bit, and carries between the least and the most. No program is named here.
-/
import Derived.Test.YtkiekbkjhlbnhaaTnumPlain
namespace Go.Proofs.Ytkiekbkjhlbnhaa
open Go Go.RowKit
set_option linter.unusedVariables false

theorem bv_ext {x y : BitVec 64} : x = y ↔ ∀ i, i < 64 → x.getLsbD i = y.getLsbD i := ⟨fun h i _ => by rw [h], BitVec.eq_of_getLsbD_eq⟩
theorem andn_bit (x y : BitVec 64) {i : Nat} (hi : i < 64) : (x &&& ~~~y).getLsbD i = (x.getLsbD i && !y.getLsbD i) := by
  rw [BitVec.getLsbD_and, BitVec.getLsbD_not]; simp [hi]
theorem zero_bit (i : Nat) : (0#64).getLsbD i = false := BitVec.getLsbD_zero
theorem tR_iff (t : Tn) : tR t = true ↔ ∀ i, i < 64 → (t.1.getLsbD i && t.2.getLsbD i) = false := by
  unfold tR
  rw [beq_iff_eq, bv_ext]
  simp only [BitVec.getLsbD_and, zero_bit]
theorem tH_iff (t : Tn) (n : BitVec 64) : tH t n = true ↔ ∀ i, i < 64 → (n.getLsbD i && !t.2.getLsbD i) = t.1.getLsbD i := by
  unfold tH
  rw [beq_iff_eq, bv_ext]
  constructor
  · intro h i hi; rw [← h i hi, andn_bit _ _ hi]
  · intro h i hi; rw [andn_bit _ _ hi, h i hi]
theorem tRR_iff (a b : Tn) : tRR a b = true ↔ tR a = true ∧ tR b = true := by unfold tRR; rw [Bool.and_eq_true]
theorem tW_iff (a b : Tn) : tW a b = true ↔ tR a = true ∧ ∀ i, i < 64 → (a.2.getLsbD i && !b.2.getLsbD i) = false ∧ (a.1.getLsbD i && !b.2.getLsbD i) = b.1.getLsbD i := by
  unfold tW
  rw [Bool.and_eq_true, Bool.and_eq_true, tH_iff, beq_iff_eq, bv_ext]
  constructor
  · rintro ⟨⟨h1, h2⟩, h3⟩
    exact ⟨h1, fun i hi => ⟨by rw [← andn_bit _ _ hi, h2 i hi, zero_bit], h3 i hi⟩⟩
  · rintro ⟨h1, h2⟩
    exact ⟨⟨h1, fun i hi => by rw [andn_bit _ _ hi, zero_bit, (h2 i hi).1]⟩, fun i hi => (h2 i hi).2⟩
theorem made_bit (v m : BitVec 64) {i : Nat} (hi : i < 64) : (tMade v m).1.getLsbD i = (v.getLsbD i && !m.getLsbD i) ∧ (tMade v m).2.getLsbD i = m.getLsbD i := ⟨andn_bit v m hi, rfl⟩
theorem made_right (v m : BitVec 64) : tR (tMade v m) = true := by
  rw [tR_iff]
  intro i hi
  obtain ⟨e1, e2⟩ := made_bit v m hi
  rw [e1, e2]
  cases v.getLsbD i <;> cases m.getLsbD i <;> rfl
/-- A number that may be what is known of it. -/
def pick (v m n : BitVec 64) : BitVec 64 := (v &&& ~~~m) ||| (n &&& m)
theorem pick_has (v m n : BitVec 64) : tH (tMade v m) (pick v m n) = true := by
  rw [tH_iff]
  intro i hi
  obtain ⟨e1, e2⟩ := made_bit v m hi
  rw [e1, e2]
  unfold pick
  rw [BitVec.getLsbD_or, andn_bit _ _ hi, BitVec.getLsbD_and]
  cases v.getLsbD i <;> cases m.getLsbD i <;> cases n.getLsbD i <;> rfl

/-! Carries. -/
theorem sub_mod (x y : BitVec 64) (h : x &&& y = x) (i : Nat) : x.toNat % 2 ^ i ≤ y.toNat % 2 ^ i := by
  have e : x.toNat % 2 ^ i = (x.toNat % 2 ^ i) &&& (y.toNat % 2 ^ i) := by
    rw [← Nat.and_mod_two_pow, ← BitVec.toNat_and, h]
  rw [e]
  exact Nat.and_le_right
theorem add_bit (x y : BitVec 64) {i : Nat} (hi : i < 64) : (x + y).getLsbD i = (x.getLsbD i ^^ (y.getLsbD i ^^ decide (2 ^ i ≤ x.toNat % 2 ^ i + y.toNat % 2 ^ i))) := by
  rw [BitVec.getLsbD_add hi]
  unfold BitVec.carry
  rfl
theorem mod_mod_pow (n : Nat) {i : Nat} (hi : i < 64) : n % 2 ^ 64 % 2 ^ i = n % 2 ^ i := Nat.mod_mod_of_dvd n (Nat.pow_dvd_pow 2 (by omega))
theorem sub_bit (x y : BitVec 64) {i : Nat} (hi : i < 64) : (x - y).getLsbD i = (x.getLsbD i ^^ (y.getLsbD i ^^ decide (x.toNat % 2 ^ i < y.toNat % 2 ^ i))) := by
  have hz : x = (x - y) + y := (BitVec.sub_add_cancel x y).symm
  have e1 := add_bit (x - y) y hi
  rw [← hz] at e1
  have e2 : x.toNat % 2 ^ i = ((x - y).toNat % 2 ^ i + y.toNat % 2 ^ i) % 2 ^ i := by
    conv => lhs; rw [hz]
    rw [BitVec.toNat_add, mod_mod_pow _ hi, Nat.add_mod]
  have hp : 0 < 2 ^ i := Nat.two_pow_pos i
  have l1 := Nat.mod_lt (x - y).toNat hp
  have l2 := Nat.mod_lt y.toNat hp
  have e3 : decide (2 ^ i ≤ (x - y).toNat % 2 ^ i + y.toNat % 2 ^ i) = decide (x.toNat % 2 ^ i < y.toNat % 2 ^ i) := by
    apply decide_eq_decide.mpr
    rw [e2]
    generalize (x - y).toNat % 2 ^ i = p at *
    generalize y.toNat % 2 ^ i = q at *
    generalize 2 ^ i = k at *
    by_cases hk : k ≤ p + q
    · rw [Nat.mod_eq_sub_mod hk, Nat.mod_eq_of_lt (by omega)]; omega
    · rw [Nat.mod_eq_of_lt (by omega)]; omega
  rw [e3] at e1
  rw [e1]
  cases (x - y).getLsbD i <;> cases y.getLsbD i <;> cases decide (x.toNat % 2 ^ i < y.toNat % 2 ^ i) <;> rfl

/-- The most that may be. -/
def most (t : Tn) : BitVec 64 := t.1 ||| t.2
theorem most_add (t : Tn) (h : tR t = true) : t.1 + t.2 = most t := by
  unfold tR at h
  rw [beq_iff_eq] at h
  exact BitVec.add_eq_or_of_and_eq_zero _ _ h
/-- What may be lies between the least and the most, in its lowest bits too. -/
theorem between (t : Tn) (n : BitVec 64) (hr : tR t = true) (h : tH t n = true) (i : Nat) : t.1.toNat % 2 ^ i ≤ n.toNat % 2 ^ i ∧ n.toNat % 2 ^ i ≤ (most t).toNat % 2 ^ i := by
  rw [tR_iff] at hr
  rw [tH_iff] at h
  constructor
  · apply sub_mod
    rw [bv_ext]
    intro j hj
    have h1 := hr j hj
    have h2 := h j hj
    rw [BitVec.getLsbD_and]
    revert h1 h2
    cases t.1.getLsbD j <;> cases t.2.getLsbD j <;> cases n.getLsbD j <;> simp
  · apply sub_mod
    rw [bv_ext]
    intro j hj
    have h1 := hr j hj
    have h2 := h j hj
    unfold most
    rw [BitVec.getLsbD_and, BitVec.getLsbD_or]
    revert h1 h2
    cases t.1.getLsbD j <;> cases t.2.getLsbD j <;> cases n.getLsbD j <;> simp

theorem add_sound (a b : Tn) (x y : BitVec 64) (ra : tR a = true) (rb : tR b = true) (ha : tH a x = true) (hb : tH b y = true) : tH (tAdd a b) (x + y) = true := by
  rw [tH_iff]
  intro i hi
  have es : a.2 + b.2 + (a.1 + b.1) = most a + most b := by
    rw [← most_add a ra, ← most_add b rb]
    ac_rfl
  obtain ⟨e1, e2⟩ := made_bit (a.1 + b.1) (((a.2 + b.2 + (a.1 + b.1)) ^^^ (a.1 + b.1)) ||| a.2 ||| b.2) hi
  unfold tAdd
  rw [e1, e2, es]
  simp only [BitVec.getLsbD_or, BitVec.getLsbD_xor]
  rw [add_bit _ _ hi, add_bit _ _ hi, add_bit _ _ hi]
  obtain ⟨l1, l2⟩ := between a x ra ha i
  obtain ⟨l3, l4⟩ := between b y rb hb i
  rw [tR_iff] at ra rb
  rw [tH_iff] at ha hb
  have h1 := ra i hi
  have h2 := rb i hi
  have h3 := ha i hi
  have h4 := hb i hi
  unfold most at *
  simp only [BitVec.getLsbD_or]
  generalize a.1.toNat % 2 ^ i = p1 at *
  generalize b.1.toNat % 2 ^ i = p2 at *
  generalize x.toNat % 2 ^ i = q1 at *
  generalize y.toNat % 2 ^ i = q2 at *
  generalize (a.1 ||| a.2).toNat % 2 ^ i = r1 at *
  generalize (b.1 ||| b.2).toNat % 2 ^ i = r2 at *
  generalize 2 ^ i = k at *
  have hc : (decide (k ≤ p1 + p2) = true → decide (k ≤ q1 + q2) = true) ∧ (decide (k ≤ q1 + q2) = true → decide (k ≤ r1 + r2) = true) := by
    simp only [decide_eq_true_eq]; omega
  generalize decide (k ≤ p1 + p2) = c1 at *
  generalize decide (k ≤ q1 + q2) = c2 at *
  generalize decide (k ≤ r1 + r2) = c3 at *
  revert hc h1 h2 h3 h4
  clear l1 l2 l3 l4 es e1 e2 ra rb ha hb
  generalize a.1.getLsbD i = u1
  generalize a.2.getLsbD i = u2
  generalize b.1.getLsbD i = u3
  generalize b.2.getLsbD i = u4
  generalize x.getLsbD i = u5
  generalize y.getLsbD i = u6
  cases u1 <;> cases u2 <;> cases u3 <;> cases u4 <;> cases u5 <;> cases u6 <;> cases c1 <;> cases c2 <;> cases c3 <;> simp

theorem sub_sound (a b : Tn) (x y : BitVec 64) (ra : tR a = true) (rb : tR b = true) (ha : tH a x = true) (hb : tH b y = true) : tH (tSub a b) (x - y) = true := by
  rw [tH_iff]
  intro i hi
  have es : a.1 - b.1 + a.2 = most a - b.1 := by
    rw [← most_add a ra, BitVec.sub_eq_add_neg, BitVec.sub_eq_add_neg]
    ac_rfl
  have et : a.1 - b.1 - b.2 = a.1 - most b := by
    rw [← most_add b rb, BitVec.sub_eq_add_neg, BitVec.sub_eq_add_neg, BitVec.sub_eq_add_neg, BitVec.neg_add, BitVec.sub_eq_add_neg]
    ac_rfl
  obtain ⟨e1, e2⟩ := made_bit (a.1 - b.1) (((a.1 - b.1 + a.2) ^^^ (a.1 - b.1 - b.2)) ||| a.2 ||| b.2) hi
  unfold tSub
  rw [e1, e2, es, et]
  simp only [BitVec.getLsbD_or, BitVec.getLsbD_xor]
  rw [sub_bit _ _ hi, sub_bit _ _ hi, sub_bit _ _ hi, sub_bit _ _ hi]
  obtain ⟨l1, l2⟩ := between a x ra ha i
  obtain ⟨l3, l4⟩ := between b y rb hb i
  rw [tR_iff] at ra rb
  rw [tH_iff] at ha hb
  have h1 := ra i hi
  have h2 := rb i hi
  have h3 := ha i hi
  have h4 := hb i hi
  unfold most at *
  simp only [BitVec.getLsbD_or]
  generalize a.1.toNat % 2 ^ i = p1 at *
  generalize b.1.toNat % 2 ^ i = p2 at *
  generalize x.toNat % 2 ^ i = q1 at *
  generalize y.toNat % 2 ^ i = q2 at *
  generalize (a.1 ||| a.2).toNat % 2 ^ i = r1 at *
  generalize (b.1 ||| b.2).toNat % 2 ^ i = r2 at *
  have hc : (decide (r1 < p2) = true → decide (q1 < q2) = true) ∧ (decide (q1 < q2) = true → decide (p1 < r2) = true) ∧ (decide (r1 < p2) = true → decide (p1 < p2) = true) ∧ (decide (p1 < p2) = true → decide (p1 < r2) = true) := by
    simp only [decide_eq_true_eq]; omega
  generalize decide (r1 < p2) = c1 at *
  generalize decide (q1 < q2) = c2 at *
  generalize decide (p1 < r2) = c3 at *
  generalize decide (p1 < p2) = c4 at *
  revert hc h1 h2 h3 h4
  clear l1 l2 l3 l4 es et e1 e2 ra rb ha hb
  generalize a.1.getLsbD i = u1
  generalize a.2.getLsbD i = u2
  generalize b.1.getLsbD i = u3
  generalize b.2.getLsbD i = u4
  generalize x.getLsbD i = u5
  generalize y.getLsbD i = u6
  cases u1 <;> cases u2 <;> cases u3 <;> cases u4 <;> cases u5 <;> cases u6 <;> cases c1 <;> cases c2 <;> cases c3 <;> cases c4 <;> simp

theorem add_right (a b : Tn) : tR (tAdd a b) = true := made_right _ _

/-! Times: place by place. -/
theorem shl_bit (x : BitVec 64) (k i : Nat) (hi : i < 64) : (x <<< k).getLsbD i = (!decide (i < k) && x.getLsbD (i - k)) := by
  rw [BitVec.getLsbD_shiftLeft]; simp [hi]
theorem lsh_right (a : Tn) (k : Nat) (ra : tR a = true) : tR (tLsh a k) = true := by
  rw [tR_iff] at *
  intro i hi
  show ((a.1 <<< k).getLsbD i && (a.2 <<< k).getLsbD i) = false
  rw [shl_bit _ _ _ hi, shl_bit _ _ _ hi]
  have h := ra (i - k) (by omega)
  revert h
  cases a.1.getLsbD (i - k) <;> cases a.2.getLsbD (i - k) <;> cases decide (i < k) <;> simp
theorem lsh_sound (a : Tn) (x : BitVec 64) (k : Nat) (ha : tH a x = true) : tH (tLsh a k) (x <<< k) = true := by
  rw [tH_iff] at *
  intro i hi
  show ((x <<< k).getLsbD i && !(a.2 <<< k).getLsbD i) = (a.1 <<< k).getLsbD i
  rw [shl_bit _ _ _ hi, shl_bit _ _ _ hi, shl_bit _ _ _ hi]
  have h := ha (i - k) (by omega)
  revert h
  cases a.1.getLsbD (i - k) <;> cases a.2.getLsbD (i - k) <;> cases x.getLsbD (i - k) <;> cases decide (i < k) <;> simp
theorem rsh_right (a : Tn) (k : Nat) (ra : tR a = true) : tR (tRsh a k) = true := by
  rw [tR_iff] at *
  intro i hi
  show ((a.1 >>> k).getLsbD i && (a.2 >>> k).getLsbD i) = false
  rw [BitVec.getLsbD_ushiftRight, BitVec.getLsbD_ushiftRight]
  by_cases h : k + i < 64
  · exact ra _ h
  · rw [BitVec.getLsbD_of_ge _ _ (by omega)]; rfl
theorem rsh_sound (a : Tn) (x : BitVec 64) (k : Nat) (ha : tH a x = true) : tH (tRsh a k) (x >>> k) = true := by
  rw [tH_iff] at *
  intro i hi
  show ((x >>> k).getLsbD i && !(a.2 >>> k).getLsbD i) = (a.1 >>> k).getLsbD i
  rw [BitVec.getLsbD_ushiftRight, BitVec.getLsbD_ushiftRight, BitVec.getLsbD_ushiftRight]
  by_cases h : k + i < 64
  · exact ha _ h
  · rw [BitVec.getLsbD_of_ge x _ (by omega), BitVec.getLsbD_of_ge a.1 _ (by omega)]; rfl
theorem maybe_has (a : Tn) (x : BitVec 64) (k : Nat) (z : BitVec 64) (ha : tH a x = true) (hz : z = 0#64 ∨ z = x <<< k) : tH (0#64, (a.1 ||| a.2) <<< k) z = true := by
  rw [tH_iff] at *
  intro i hi
  show (z.getLsbD i && !((a.1 ||| a.2) <<< k).getLsbD i) = (0#64).getLsbD i
  rw [shl_bit _ _ _ hi, BitVec.getLsbD_or, zero_bit]
  have h := ha (i - k) (by omega)
  rcases hz with rfl | rfl
  · rw [zero_bit]; rfl
  · rw [shl_bit _ _ _ hi]
    revert h
    cases a.1.getLsbD (i - k) <;> cases a.2.getLsbD (i - k) <;> cases x.getLsbD (i - k) <;> cases decide (i < k) <;> simp
theorem zero_right (m : BitVec 64) : tR (0#64, m) = true := by
  rw [tR_iff]; intro i _; show ((0#64).getLsbD i && _) = false; rw [zero_bit]; rfl

/-- A number's lowest bits. -/
def low (y : BitVec 64) (i : Nat) : BitVec 64 := BitVec.ofNat 64 (y.toNat % 2 ^ i)
theorem low_succ (y : BitVec 64) (i : Nat) : low y (i + 1) = low y i + (if y.getLsbD i then BitVec.twoPow 64 i else 0#64) := by
  have e : y.toNat % 2 ^ (i + 1) = y.toNat % 2 ^ i + (if y.getLsbD i then 2 ^ i else 0) := by
    rw [Nat.pow_succ, Nat.mod_mul]
    congr 1
    show 2 ^ i * (y.toNat / 2 ^ i % 2) = if y.toNat.testBit i then 2 ^ i else 0
    rw [Nat.testBit_eq_decide_div_mod_eq]
    have h := Nat.mod_two_eq_zero_or_one (y.toNat / 2 ^ i)
    rcases h with h | h <;> simp [h]
  unfold low
  rw [e, BitVec.ofNat_add]
  congr 1
  split
  · apply BitVec.eq_of_toNat_eq
    rw [BitVec.toNat_twoPow, BitVec.toNat_ofNat]
  · rfl
theorem low_all (y : BitVec 64) : low y 64 = y := by
  unfold low
  rw [Nat.mod_eq_of_lt y.isLt]
  exact BitVec.ofNat_toNat ..
theorem low_none (y : BitVec 64) : low y 0 = 0#64 := by
  unfold low
  rw [Nat.pow_zero, Nat.mod_one]

theorem step_right (a b t : Tn) (i : Nat) (h : tR t = true) : tR (tStep a b i t) = true := by
  unfold tStep
  split
  · exact add_right _ _
  · split
    · exact add_right _ _
    · exact h
theorem mulTo_right (a b : Tn) : ∀ i, tR (tMulTo a b i) = true
  | 0 => zero_right _
  | i + 1 => step_right a b _ i (mulTo_right a b i)
theorem mul_sound (a b : Tn) (x y : BitVec 64) (ra : tR a = true) (rb : tR b = true) (ha : tH a x = true) (hb : tH b y = true) : ∀ i, i ≤ 64 → tH (tMulTo a b i) (x * low y i) = true
  | 0, _ => by
    rw [low_none, BitVec.mul_zero]
    rw [tH_iff]
    intro j _
    show ((0#64).getLsbD j && _) = (0#64).getLsbD j
    rw [zero_bit]; rfl
  | i + 1, hi => by
    have ih := mul_sound a b x y ra rb ha hb i (by omega)
    have hr := mulTo_right a b i
    have e : x * low y (i + 1) = x * low y i + (if y.getLsbD i then x <<< i else 0#64) := by
      rw [low_succ, BitVec.mul_add]
      congr 1
      split
      · exact (BitVec.shiftLeft_eq_mul_twoPow _ _).symm
      · exact BitVec.mul_zero
    rw [e]
    show tH (tStep a b i (tMulTo a b i)) _ = true
    rw [tR_iff] at rb
    rw [tH_iff] at hb
    have h1 := rb i (by omega)
    have h2 := hb i (by omega)
    unfold tStep
    by_cases c1 : b.1.getLsbD i = true
    · rw [if_pos c1]
      rw [c1] at h1 h2
      have hy : y.getLsbD i = true := by revert h2; cases y.getLsbD i <;> simp
      rw [if_pos hy]
      exact add_sound _ _ _ _ hr (lsh_right a i ra) ih (lsh_sound a x i ha)
    · rw [if_neg c1]
      have c1' : b.1.getLsbD i = false := by simpa using c1
      by_cases c2 : b.2.getLsbD i = true
      · rw [if_pos c2]
        refine add_sound _ _ _ _ hr (zero_right _) ih (maybe_has a x i _ ha ?_)
        split
        · exact .inr rfl
        · exact .inl rfl
      · rw [if_neg c2]
        have c2' : b.2.getLsbD i = false := by simpa using c2
        rw [c1', c2'] at h2
        have hy : y.getLsbD i = false := by revert h2; cases y.getLsbD i <;> simp
        rw [hy, if_neg (by simp), BitVec.add_zero]
        exact ih

end Go.Proofs.Ytkiekbkjhlbnhaa
