/-
  What the laws of known bits say, of plain numbers: what is both, either, within; and what arithmetic makes. No program is named here.
-/
import Derived.Test.YtkiekbkjhlbnhaaTnumMath
namespace Go.Proofs.Ytkiekbkjhlbnhaa
open Go Go.RowKit
set_option linter.unusedVariables false

theorem and_all (x : BitVec 64) : x &&& ~~~0#64 = x := by
  rw [bv_ext]
  intro i hi
  rw [andn_bit _ _ hi, zero_bit]
  simp
theorem rr_of {a b : Tn} (ra : tR a = true) (rb : tR b = true) : tRR a b = true := by unfold tRR; rw [ra, rb]; rfl
theorem join_eq {a b : Tn} (ra : tR a = true) (rb : tR b = true) : tJ a b = tMade a.1 (a.2 ||| b.2 ||| (a.1 ^^^ b.1)) := by unfold tJ; rw [rr_of ra rb, if_pos rfl]
theorem join_right {a b : Tn} (ra : tR a = true) (rb : tR b = true) : tR (tJ a b) = true := by rw [join_eq ra rb]; exact made_right _ _
theorem join_bit {a b : Tn} (ra : tR a = true) (rb : tR b = true) {i : Nat} (hi : i < 64) :
    (tJ a b).2.getLsbD i = (a.2.getLsbD i || b.2.getLsbD i || (a.1.getLsbD i ^^ b.1.getLsbD i)) ∧ (tJ a b).1.getLsbD i = (a.1.getLsbD i && !(a.2.getLsbD i || b.2.getLsbD i || (a.1.getLsbD i ^^ b.1.getLsbD i))) := by
  rw [join_eq ra rb]
  obtain ⟨e1, e2⟩ := made_bit a.1 (a.2 ||| b.2 ||| (a.1 ^^^ b.1)) hi
  rw [e1, e2, BitVec.getLsbD_or, BitVec.getLsbD_or, BitVec.getLsbD_xor]
  exact ⟨rfl, rfl⟩

/-! Either. -/
theorem join_has {a b : Tn} (ra : tR a = true) (rb : tR b = true) {x : BitVec 64} (h : tH a x = true) : tH (tJ a b) x = true := by
  rw [tH_iff] at *
  intro i hi
  obtain ⟨e1, e2⟩ := join_bit ra rb hi
  rw [e1, e2]
  have h1 := (tR_iff a).mp ra i hi
  have h2 := (tR_iff b).mp rb i hi
  have h3 := h i hi
  revert h1 h2 h3
  generalize a.1.getLsbD i = u1
  generalize a.2.getLsbD i = u2
  generalize b.1.getLsbD i = u3
  generalize b.2.getLsbD i = u4
  generalize x.getLsbD i = u5
  cases u1 <;> cases u2 <;> cases u3 <;> cases u4 <;> cases u5 <;> simp
theorem join_left {a b : Tn} (ra : tR a = true) (rb : tR b = true) : tW a (tJ a b) = true := by
  rw [tW_iff]
  refine ⟨ra, fun i hi => ?_⟩
  obtain ⟨e1, e2⟩ := join_bit ra rb hi
  rw [e1, e2]
  have h1 := (tR_iff a).mp ra i hi
  have h2 := (tR_iff b).mp rb i hi
  revert h1 h2
  generalize a.1.getLsbD i = u1
  generalize a.2.getLsbD i = u2
  generalize b.1.getLsbD i = u3
  generalize b.2.getLsbD i = u4
  cases u1 <;> cases u2 <;> cases u3 <;> cases u4 <;> simp
theorem pair_ext {a b : Tn} (h : ∀ i, i < 64 → a.1.getLsbD i = b.1.getLsbD i ∧ a.2.getLsbD i = b.2.getLsbD i) : a = b :=
  Prod.ext (bv_ext.mpr fun i hi => (h i hi).1) (bv_ext.mpr fun i hi => (h i hi).2)
theorem join_comm {a b : Tn} (ra : tR a = true) (rb : tR b = true) : tJ b a = tJ a b := by
  refine pair_ext fun i hi => ?_
  obtain ⟨e1, e2⟩ := join_bit ra rb hi
  obtain ⟨e3, e4⟩ := join_bit rb ra hi
  rw [e1, e2, e3, e4]
  have h1 := (tR_iff a).mp ra i hi
  have h2 := (tR_iff b).mp rb i hi
  revert h1 h2
  generalize a.1.getLsbD i = u1
  generalize a.2.getLsbD i = u2
  generalize b.1.getLsbD i = u3
  generalize b.2.getLsbD i = u4
  cases u1 <;> cases u2 <;> cases u3 <;> cases u4 <;> simp
theorem join_right_of {a b : Tn} (ra : tR a = true) (rb : tR b = true) : tW b (tJ a b) = true := by rw [← join_comm ra rb]; exact join_left rb ra
theorem join_self {a : Tn} (ra : tR a = true) : tJ a a = a := by
  refine pair_ext fun i hi => ?_
  obtain ⟨e1, e2⟩ := join_bit ra ra hi
  rw [e1, e2]
  have h1 := (tR_iff a).mp ra i hi
  revert h1
  generalize a.1.getLsbD i = u1
  generalize a.2.getLsbD i = u2
  cases u1 <;> cases u2 <;> simp
theorem join_least {a b c : Tn} (ra : tR a = true) (rb : tR b = true) (rc : tR c = true) : tW (tJ a b) c = (tW a c && tW b c) := by
  rw [Bool.eq_iff_iff, Bool.and_eq_true, tW_iff, tW_iff, tW_iff]
  have key : ∀ i, i < 64 → (((tJ a b).2.getLsbD i && !c.2.getLsbD i) = false ∧ ((tJ a b).1.getLsbD i && !c.2.getLsbD i) = c.1.getLsbD i ↔
      ((a.2.getLsbD i && !c.2.getLsbD i) = false ∧ (a.1.getLsbD i && !c.2.getLsbD i) = c.1.getLsbD i) ∧ ((b.2.getLsbD i && !c.2.getLsbD i) = false ∧ (b.1.getLsbD i && !c.2.getLsbD i) = c.1.getLsbD i)) := by
    intro i hi
    obtain ⟨e1, e2⟩ := join_bit ra rb hi
    rw [e1, e2]
    have h1 := (tR_iff a).mp ra i hi
    have h2 := (tR_iff b).mp rb i hi
    have h3 := (tR_iff c).mp rc i hi
    revert h1 h2 h3
    generalize a.1.getLsbD i = u1
    generalize a.2.getLsbD i = u2
    generalize b.1.getLsbD i = u3
    generalize b.2.getLsbD i = u4
    generalize c.1.getLsbD i = u5
    generalize c.2.getLsbD i = u6
    cases u1 <;> cases u2 <;> cases u3 <;> cases u4 <;> cases u5 <;> cases u6 <;> simp
  constructor
  · rintro ⟨_, h⟩
    exact ⟨⟨ra, fun i hi => ((key i hi).mp (h i hi)).1⟩, ⟨rb, fun i hi => ((key i hi).mp (h i hi)).2⟩⟩
  · rintro ⟨⟨_, h1⟩, ⟨_, h2⟩⟩
    exact ⟨join_right ra rb, fun i hi => (key i hi).mpr ⟨h1 i hi, h2 i hi⟩⟩

/-! Within. -/
theorem within_has {a b : Tn} {x : BitVec 64} (hw : tW a b = true) (h : tH a x = true) : tH b x = true := by
  obtain ⟨ra, hw⟩ := (tW_iff a b).mp hw
  rw [tH_iff] at *
  intro i hi
  have h1 := (tR_iff a).mp ra i hi
  have h2 := h i hi
  have h3 := hw i hi
  revert h1 h2 h3
  generalize a.1.getLsbD i = u1
  generalize a.2.getLsbD i = u2
  generalize b.1.getLsbD i = u3
  generalize b.2.getLsbD i = u4
  generalize x.getLsbD i = u5
  cases u1 <;> cases u2 <;> cases u3 <;> cases u4 <;> cases u5 <;> simp
theorem within_on {a b c : Tn} (h1 : tW a b = true) (h2 : tW b c = true) : tW a c = true := by
  rw [tW_iff] at *
  refine ⟨h1.1, fun i hi => ?_⟩
  have k1 := h1.2 i hi
  have k2 := h2.2 i hi
  revert k1 k2
  generalize a.1.getLsbD i = u1
  generalize a.2.getLsbD i = u2
  generalize b.1.getLsbD i = u3
  generalize b.2.getLsbD i = u4
  generalize c.1.getLsbD i = u5
  generalize c.2.getLsbD i = u6
  cases u1 <;> cases u2 <;> cases u3 <;> cases u4 <;> cases u5 <;> cases u6 <;> simp
theorem within_self {a : Tn} (ra : tR a = true) : tW a a = true := by
  rw [tW_iff]
  refine ⟨ra, fun i hi => ?_⟩
  have h1 := (tR_iff a).mp ra i hi
  revert h1
  generalize a.1.getLsbD i = u1
  generalize a.2.getLsbD i = u2
  cases u1 <;> cases u2 <;> simp
theorem of_right (n : BitVec 64) : tR (n, 0#64) = true := by
  rw [tR_iff]
  intro i hi
  show (n.getLsbD i && (0#64).getLsbD i) = false
  rw [zero_bit, Bool.and_false]
theorem of_within (n : BitVec 64) (t : Tn) : tW (n, 0#64) t = tH t n := by
  rw [Bool.eq_iff_iff, tW_iff, tH_iff]
  constructor
  · rintro ⟨_, h⟩ i hi
    exact (h i hi).2
  · intro h
    refine ⟨of_right n, fun i hi => ⟨?_, h i hi⟩⟩
    show ((0#64).getLsbD i && _) = false
    rw [zero_bit, Bool.false_and]

/-! Both. -/
theorem mok_iff {a b : Tn} (ra : tR a = true) (rb : tR b = true) : tMok a b = true ↔ ∀ i, i < 64 → ((a.1.getLsbD i ^^ b.1.getLsbD i) && !(a.2.getLsbD i || b.2.getLsbD i)) = false := by
  unfold tMok
  rw [rr_of ra rb, Bool.true_and, beq_iff_eq, bv_ext]
  constructor
  · intro h i hi
    have e := h i hi
    rw [andn_bit _ _ hi, BitVec.getLsbD_xor, BitVec.getLsbD_or, zero_bit] at e
    exact e
  · intro h i hi
    rw [andn_bit _ _ hi, BitVec.getLsbD_xor, BitVec.getLsbD_or, zero_bit]
    exact h i hi
theorem meet_bit {a b : Tn} (h : tMok a b = true) {i : Nat} (hi : i < 64) :
    (tM a b).2.getLsbD i = (a.2.getLsbD i && b.2.getLsbD i) ∧ (tM a b).1.getLsbD i = ((a.1.getLsbD i || b.1.getLsbD i) && !(a.2.getLsbD i && b.2.getLsbD i)) := by
  unfold tM
  rw [if_pos h]
  obtain ⟨e1, e2⟩ := made_bit (a.1 ||| b.1) (a.2 &&& b.2) hi
  rw [e1, e2, BitVec.getLsbD_or, BitVec.getLsbD_and]
  exact ⟨rfl, rfl⟩
theorem meet_right {a b : Tn} (h : tMok a b = true) : tR (tM a b) = true := by
  unfold tM; rw [if_pos h]; exact made_right _ _
theorem meet_has {a b : Tn} (ra : tR a = true) (rb : tR b = true) (o : BitVec 64) : (tH a o && tH b o) = (tMok a b && tH (tM a b) o) := by
  rw [Bool.eq_iff_iff, Bool.and_eq_true, Bool.and_eq_true]
  constructor
  · rintro ⟨h1, h2⟩
    rw [tH_iff] at h1 h2
    have hm : tMok a b = true := by
      rw [mok_iff ra rb]
      intro i hi
      have k1 := h1 i hi
      have k2 := h2 i hi
      revert k1 k2
      generalize a.1.getLsbD i = u1
      generalize a.2.getLsbD i = u2
      generalize b.1.getLsbD i = u3
      generalize b.2.getLsbD i = u4
      generalize o.getLsbD i = u5
      cases u1 <;> cases u2 <;> cases u3 <;> cases u4 <;> cases u5 <;> simp
    refine ⟨hm, ?_⟩
    rw [tH_iff]
    intro i hi
    obtain ⟨e1, e2⟩ := meet_bit hm hi
    rw [e1, e2]
    have k1 := h1 i hi
    have k2 := h2 i hi
    have k3 := (tR_iff a).mp ra i hi
    have k4 := (tR_iff b).mp rb i hi
    revert k1 k2 k3 k4
    generalize a.1.getLsbD i = u1
    generalize a.2.getLsbD i = u2
    generalize b.1.getLsbD i = u3
    generalize b.2.getLsbD i = u4
    generalize o.getLsbD i = u5
    cases u1 <;> cases u2 <;> cases u3 <;> cases u4 <;> cases u5 <;> simp
  · rintro ⟨hm, h⟩
    have hm' := (mok_iff ra rb).mp hm
    rw [tH_iff] at h
    constructor
    all_goals
      rw [tH_iff]
      intro i hi
      have k0 := h i hi
      obtain ⟨e1, e2⟩ := meet_bit hm hi
      rw [e1, e2] at k0
      have k1 := hm' i hi
      have k3 := (tR_iff a).mp ra i hi
      have k4 := (tR_iff b).mp rb i hi
      clear e1 e2 h hm hm' ra rb
      revert k0 k1 k3 k4
      generalize a.1.getLsbD i = u1
      generalize a.2.getLsbD i = u2
      generalize b.1.getLsbD i = u3
      generalize b.2.getLsbD i = u4
      generalize o.getLsbD i = u5
      cases u1 <;> cases u2 <;> cases u3 <;> cases u4 <;> cases u5 <;> simp
theorem meet_within {a b : Tn} (ra : tR a = true) (rb : tR b = true) (h : tMok a b = true) : tW (tM a b) a = true ∧ tW (tM a b) b = true := by
  have hm' := (mok_iff ra rb).mp h
  constructor
  all_goals
    rw [tW_iff]
    refine ⟨meet_right h, fun i hi => ?_⟩
    obtain ⟨e1, e2⟩ := meet_bit h hi
    rw [e1, e2]
    have k1 := hm' i hi
    have k3 := (tR_iff a).mp ra i hi
    have k4 := (tR_iff b).mp rb i hi
    clear e1 e2 h hm' ra rb
    revert k1 k3 k4
    generalize a.1.getLsbD i = u1
    generalize a.2.getLsbD i = u2
    generalize b.1.getLsbD i = u3
    generalize b.2.getLsbD i = u4
    cases u1 <;> cases u2 <;> cases u3 <;> cases u4 <;> simp
theorem meet_self {a : Tn} (ra : tR a = true) : tMok a a = true ∧ tM a a = a := by
  have h : tMok a a = true := by
    rw [mok_iff ra ra]; intro i hi; simp
  refine ⟨h, pair_ext fun i hi => ?_⟩
  obtain ⟨e1, e2⟩ := meet_bit h hi
  rw [e1, e2]
  have k3 := (tR_iff a).mp ra i hi
  clear e1 e2
  revert k3
  generalize a.1.getLsbD i = u1
  generalize a.2.getLsbD i = u2
  cases u1 <;> cases u2 <;> simp

/-! The lowest bits. -/
theorem low_bit (x : BitVec 64) (k : Nat) {i : Nat} (hi : i < 64) : (tLow x k).getLsbD i = (decide (i < k) && x.getLsbD i) := by
  unfold tLow
  rw [BitVec.getLsbD_ofNat, Nat.testBit_mod_two_pow]
  simp only [hi, decide_true, Bool.true_and]
  rfl
theorem cut_has {t : Tn} (rt : tR t = true) {x : BitVec 64} (h : tH t x = true) (k : Int) (h1 : 1 ≤ k) (h2 : k ≤ 63) : tH (tC t k) (tLow x k.toNat) = true := by
  unfold tC
  rw [rt, if_pos rfl, if_neg (by omega)]
  rw [tH_iff] at *
  intro i hi
  show ((tLow x k.toNat).getLsbD i && !(tLow t.2 k.toNat).getLsbD i) = (tLow t.1 k.toNat).getLsbD i
  rw [low_bit _ _ hi, low_bit _ _ hi, low_bit _ _ hi]
  have k0 := h i hi
  revert k0
  generalize t.1.getLsbD i = u1
  generalize t.2.getLsbD i = u2
  generalize x.getLsbD i = u5
  cases u1 <;> cases u2 <;> cases u5 <;> cases decide (i < k.toNat) <;> simp
theorem cut_of (n : BitVec 64) (k : Int) (h1 : 1 ≤ k) (h2 : k ≤ 63) : tC (n, 0#64) k = (tLow n k.toNat, 0#64) := by
  unfold tC
  rw [of_right, if_pos rfl, if_neg (by omega)]
  congr 1

/-! Arithmetic. -/
/-- What arithmetic makes of two numbers. -/
def bvDo (op : Int) (x y : BitVec 64) : BitVec 64 :=
  if op = 0 then x + y else if op = 16 then x - y else if op = 32 then x * y else if op = 80 then x &&& y else if op = 64 then x ||| y
  else if op = 160 then x ^^^ y else if op = 96 then x <<< (y.toNat % 64) else if op = 112 then x >>> (y.toNat % 64) else 0#64
theorem and_sound {a b : Tn} {x y : BitVec 64} (ra : tR a = true) (rb : tR b = true) (ha : tH a x = true) (hb : tH b y = true) : tR (tAnd a b) = true ∧ tH (tAnd a b) (x &&& y) = true := by
  have e : ∀ i, i < 64 → (tAnd a b).1.getLsbD i = (a.1.getLsbD i && b.1.getLsbD i) ∧ (tAnd a b).2.getLsbD i = (((a.1.getLsbD i || a.2.getLsbD i) && (b.1.getLsbD i || b.2.getLsbD i)) && !(a.1.getLsbD i && b.1.getLsbD i)) := by
    intro i hi
    unfold tAnd
    simp only [BitVec.getLsbD_and, BitVec.getLsbD_or, BitVec.getLsbD_not, hi, decide_true, Bool.true_and]
    exact ⟨trivial, trivial⟩
  constructor
  · rw [tR_iff]
    intro i hi
    rw [(e i hi).1, (e i hi).2]
    cases a.1.getLsbD i <;> cases b.1.getLsbD i <;> simp
  · rw [tH_iff] at *
    intro i hi
    rw [(e i hi).1, (e i hi).2, BitVec.getLsbD_and]
    have h1 := (tR_iff a).mp ra i hi
    have h2 := (tR_iff b).mp rb i hi
    have h3 := ha i hi
    have h4 := hb i hi
    clear e ha hb
    revert h1 h2 h3 h4
    generalize a.1.getLsbD i = u1
    generalize a.2.getLsbD i = u2
    generalize b.1.getLsbD i = u3
    generalize b.2.getLsbD i = u4
    generalize x.getLsbD i = u5
    generalize y.getLsbD i = u6
    cases u1 <;> cases u2 <;> cases u3 <;> cases u4 <;> cases u5 <;> cases u6 <;> simp
theorem or_sound {a b : Tn} {x y : BitVec 64} (ra : tR a = true) (rb : tR b = true) (ha : tH a x = true) (hb : tH b y = true) : tR (tOr a b) = true ∧ tH (tOr a b) (x ||| y) = true := by
  have e : ∀ i, i < 64 → (tOr a b).1.getLsbD i = (a.1.getLsbD i || b.1.getLsbD i) ∧ (tOr a b).2.getLsbD i = ((a.2.getLsbD i || b.2.getLsbD i) && !(a.1.getLsbD i || b.1.getLsbD i)) := by
    intro i hi
    unfold tOr
    simp only [BitVec.getLsbD_and, BitVec.getLsbD_or, BitVec.getLsbD_not, hi, decide_true, Bool.true_and]
    exact ⟨trivial, trivial⟩
  constructor
  · rw [tR_iff]
    intro i hi
    rw [(e i hi).1, (e i hi).2]
    cases a.1.getLsbD i <;> cases b.1.getLsbD i <;> simp
  · rw [tH_iff] at *
    intro i hi
    rw [(e i hi).1, (e i hi).2, BitVec.getLsbD_or]
    have h1 := (tR_iff a).mp ra i hi
    have h2 := (tR_iff b).mp rb i hi
    have h3 := ha i hi
    have h4 := hb i hi
    clear e ha hb
    revert h1 h2 h3 h4
    generalize a.1.getLsbD i = u1
    generalize a.2.getLsbD i = u2
    generalize b.1.getLsbD i = u3
    generalize b.2.getLsbD i = u4
    generalize x.getLsbD i = u5
    generalize y.getLsbD i = u6
    cases u1 <;> cases u2 <;> cases u3 <;> cases u4 <;> cases u5 <;> cases u6 <;> simp
theorem xor_sound {a b : Tn} {x y : BitVec 64} (ra : tR a = true) (rb : tR b = true) (ha : tH a x = true) (hb : tH b y = true) : tR (tXor a b) = true ∧ tH (tXor a b) (x ^^^ y) = true := by
  refine ⟨made_right _ _, ?_⟩
  rw [tH_iff] at *
  intro i hi
  obtain ⟨e1, e2⟩ := made_bit (a.1 ^^^ b.1) (a.2 ||| b.2) hi
  show (_ && !(tMade (a.1 ^^^ b.1) (a.2 ||| b.2)).2.getLsbD i) = (tMade (a.1 ^^^ b.1) (a.2 ||| b.2)).1.getLsbD i
  rw [e1, e2, BitVec.getLsbD_or, BitVec.getLsbD_xor, BitVec.getLsbD_xor]
  have h1 := (tR_iff a).mp ra i hi
  have h2 := (tR_iff b).mp rb i hi
  have h3 := ha i hi
  have h4 := hb i hi
  clear e1 e2 ha hb
  revert h1 h2 h3 h4
  generalize a.1.getLsbD i = u1
  generalize a.2.getLsbD i = u2
  generalize b.1.getLsbD i = u3
  generalize b.2.getLsbD i = u4
  generalize x.getLsbD i = u5
  generalize y.getLsbD i = u6
  cases u1 <;> cases u2 <;> cases u3 <;> cases u4 <;> cases u5 <;> cases u6 <;> simp
theorem known_num {b : Tn} {y : BitVec 64} (hk : tKnown b = true) (hb : tH b y = true) : b.2 = 0#64 ∧ y = b.1 ∧ y.toNat % 64 = b.1.toNat := by
  unfold tKnown at hk
  rw [Bool.and_eq_true, beq_iff_eq, decide_eq_true_eq] at hk
  have e : y = b.1 := by
    unfold tH at hb
    rw [beq_iff_eq, hk.1, and_all] at hb
    exact hb
  exact ⟨hk.1, e, by rw [e]; exact Nat.mod_eq_of_lt hk.2⟩

/-- Which ops arithmetic of known bits does. -/
theorem dok_ops {op : Int} {a b : Tn} (h : tDok op a b = true) : (tR a = true ∧ tR b = true) ∧ (op = 0 ∨ op = 16 ∨ op = 32 ∨ op = 80 ∨ op = 64 ∨ op = 160 ∨ ((op = 96 ∨ op = 112) ∧ tKnown b = true)) := by
  unfold tDok at h
  rw [Bool.and_eq_true, tRR_iff] at h
  refine ⟨h.1, ?_⟩
  have h2 := h.2
  simp only [Bool.or_eq_true, Bool.and_eq_true, beq_iff_eq] at h2
  rcases h2 with (((((h | h) | h) | h) | h) | h) | h
  · exact .inl h
  · exact .inr (.inl h)
  · exact .inr (.inr (.inl h))
  · exact .inr (.inr (.inr (.inl h)))
  · exact .inr (.inr (.inr (.inr (.inl h))))
  · exact .inr (.inr (.inr (.inr (.inr (.inl h)))))
  · exact .inr (.inr (.inr (.inr (.inr (.inr h)))))
theorem do_sound {op : Int} {a b : Tn} {x y : BitVec 64} (h : tDok op a b = true) (ha : tH a x = true) (hb : tH b y = true) : tR (tDo op a b) = true ∧ tH (tDo op a b) (bvDo op x y) = true := by
  obtain ⟨⟨ra, rb⟩, ho⟩ := dok_ops h
  unfold tDo
  rw [if_pos h]
  rcases ho with rfl | rfl | rfl | rfl | rfl | rfl | ⟨rfl | rfl, hk⟩
  · exact ⟨add_right _ _, add_sound a b x y ra rb ha hb⟩
  · exact ⟨made_right _ _, sub_sound a b x y ra rb ha hb⟩
  · refine ⟨mulTo_right a b 64, ?_⟩
    have e := mul_sound a b x y ra rb ha hb 64 (by omega)
    rw [low_all] at e
    exact e
  · exact and_sound ra rb ha hb
  · exact or_sound ra rb ha hb
  · exact xor_sound ra rb ha hb
  · obtain ⟨_, _, e⟩ := known_num hk hb
    refine ⟨lsh_right a _ ra, ?_⟩
    show tH (tLsh a b.1.toNat) (x <<< (y.toNat % 64)) = true
    rw [e]
    exact lsh_sound a x _ ha
  · obtain ⟨_, _, e⟩ := known_num hk hb
    refine ⟨rsh_right a _ ra, ?_⟩
    show tH (tRsh a b.1.toNat) (x >>> (y.toNat % 64)) = true
    rw [e]
    exact rsh_sound a x _ ha

/-! Of numbers that are known. -/
theorem add_known {a b : Tn} (ha : a.2 = 0#64) (hb : b.2 = 0#64) : (tAdd a b).2 = 0#64 := by
  show ((a.2 + b.2 + (a.1 + b.1)) ^^^ (a.1 + b.1)) ||| a.2 ||| b.2 = 0#64
  rw [ha, hb]; simp
theorem mulTo_known (x y : BitVec 64) : ∀ i, (tMulTo (x, 0#64) (y, 0#64) i).2 = 0#64
  | 0 => rfl
  | i + 1 => by
    have ih := mulTo_known x y i
    show (tStep (x, 0#64) (y, 0#64) i (tMulTo (x, 0#64) (y, 0#64) i)).2 = 0#64
    unfold tStep
    split
    · exact add_known ih (by simp)
    · rw [if_neg (by rw [zero_bit]; decide)]
      exact ih
theorem of_has (x : BitVec 64) : tH (x, 0#64) x = true := by unfold tH; rw [beq_iff_eq]; exact and_all x
theorem do_known {op : Int} {x y : BitVec 64} (h : tDok op (x, 0#64) (y, 0#64) = true) : tDo op (x, 0#64) (y, 0#64) = (bvDo op x y, 0#64) := by
  obtain ⟨_, hs⟩ := do_sound h (of_has x) (of_has y)
  have hm : (tDo op (x, 0#64) (y, 0#64)).2 = 0#64 := by
    obtain ⟨_, ho⟩ := dok_ops h
    unfold tDo
    rw [if_pos h]
    rcases ho with rfl | rfl | rfl | rfl | rfl | rfl | ⟨rfl | rfl, hk⟩
    · exact add_known rfl rfl
    · show ((x - y + 0#64) ^^^ (x - y - 0#64)) ||| 0#64 ||| 0#64 = 0#64
      simp
    · exact mulTo_known x y 64
    · show ((x ||| 0#64) &&& (y ||| 0#64)) &&& ~~~(x &&& y) = 0#64
      simp
    · show (0#64 ||| 0#64) &&& ~~~(x ||| y) = 0#64
      simp
    · show 0#64 ||| 0#64 = 0#64
      simp
    · show 0#64 <<< _ = 0#64
      simp
    · show 0#64 >>> _ = 0#64
      simp
  generalize tDo op (x, 0#64) (y, 0#64) = t at *
  unfold tH at hs
  rw [beq_iff_eq, hm, and_all] at hs
  exact Prod.ext hs.symm hm

end Go.Proofs.Ytkiekbkjhlbnhaa
