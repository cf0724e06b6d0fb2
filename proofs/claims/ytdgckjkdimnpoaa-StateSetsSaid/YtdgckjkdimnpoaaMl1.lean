/-
  Texts, one behind the other: Kit, TnumPlain, TnumMath, TnumLaws, AluPlain, SpanPlain, AluMath, SpanMath, FactMath, Len64, FactFix, FactPlain, FactDo, Gives, FactBox, TnumBox.
  Conditions: those that each theorem states.
-/
import Derived.WalkKit
import Derived.WalkSpells
import Derived.WalkLawsBesides
import Derived.Deep.QuietTactic
import Derived.BigQuiet
import Derived.Outline
import Derived.Below
import Derived.WalkSmall
import Derived.Lib.Hide
import Derived.Test.YtdgckjkdimnpoaaRows
import Derived.Laws.BitsAllLaws
import Derived.Lib.BitFns

namespace Go.Proofs.Ytdgckjkdimnpoaa
open Go.RowKit

theorem end_bool {a b : Bool} (h : a = b) : Ending.returned (.bool a) = .returned (.bool b) := by rw [h]
theorem below_next' {a b c : World} (h : Below a.heap.size a b) (k : Below b.heap.size b c) : Below a.heap.size a c := h.trans (k.mono h.size)

end Go.Proofs.Ytdgckjkdimnpoaa

namespace Go.Proofs.Ytdgckjkdimnpoaa
open Go Go.RowKit
set_option maxRecDepth 100000
set_option linter.unusedVariables false

/-- A number of 64 bits, as a value. -/
abbrev uV (x : BitVec 64) : Value := .int .u64 (x.toNat : Int)

theorem bv_of {a : Int} (h : 0 ≤ a ∧ a ≤ 18446744073709551615) : ∃ x : BitVec 64, a = (x.toNat : Int) := by
  refine ⟨BitVec.ofInt 64 a, ?_⟩
  rw [BitVec.toNat_ofInt]
  omega
theorem bv_lt (x : BitVec 64) : x.toNat < 18446744073709551616 := x.isLt
theorem bv_rng (x : BitVec 64) : 0 ≤ (x.toNat : Int) ∧ (x.toNat : Int) ≤ 18446744073709551615 := by have := bv_lt x; omega
theorem bv_and (x y : BitVec 64) : bits .and .u64 (x.toNat : Int) (y.toNat : Int) = ((x &&& y).toNat : Int) := by
  rw [u64_and_nat _ _ (bv_lt x) (bv_lt y), BitVec.toNat_and]
theorem bv_or (x y : BitVec 64) : bits .or .u64 (x.toNat : Int) (y.toNat : Int) = ((x ||| y).toNat : Int) := by
  rw [u64_or_nat _ _ (bv_lt x) (bv_lt y), BitVec.toNat_or]
theorem bv_xor (x y : BitVec 64) : bits .xor .u64 (x.toNat : Int) (y.toNat : Int) = ((x ^^^ y).toNat : Int) := by
  rw [u64_xor_nat _ _ (bv_lt x) (bv_lt y), BitVec.toNat_xor]
theorem bv_andNot (x y : BitVec 64) : bits .andNot .u64 (x.toNat : Int) (y.toNat : Int) = ((x &&& ~~~y).toNat : Int) := by
  rw [u64_andNot_nat _ _ (bv_lt x) (bv_lt y), BitVec.toNat_and, BitVec.toNat_not]
theorem bv_add (x y : BitVec 64) : ((x.toNat : Int) + (y.toNat : Int)) % 18446744073709551616 = ((x + y).toNat : Int) := by
  rw [BitVec.toNat_add]; omega
theorem bv_beq (x y : BitVec 64) : ((x.toNat : Int) == (y.toNat : Int)) = (x == y) := by
  rw [Bool.eq_iff_iff, beq_iff_eq, beq_iff_eq]
  exact ⟨fun h => BitVec.eq_of_toNat_eq (by omega), fun h => by rw [h]⟩
theorem bv_eq0 (x : BitVec 64) : ((x.toNat : Int) == 0) = (x == 0#64) := bv_beq x 0#64
theorem bv_ne0 (x : BitVec 64) : ((x.toNat : Int) != 0) = !(x == 0#64) := by
  show (!((x.toNat : Int) == 0)) = _
  rw [bv_eq0]

/-! What may be known: a value, and a mask of what is not. -/
abbrev Tn := BitVec 64 × BitVec 64
abbrev tV (t : Tn) : Value := .agg #[uV t.1, uV t.2]
def tR (t : Tn) : Bool := t.1 &&& t.2 == 0#64
def tRR (a b : Tn) : Bool := tR a && tR b
def tH (t : Tn) (n : BitVec 64) : Bool := n &&& ~~~t.2 == t.1
def tW (a b : Tn) : Bool := tR a && (a.2 &&& ~~~b.2 == 0#64) && tH b a.1
def tMade (v m : BitVec 64) : Tn := (v &&& ~~~m, m)
def tMok (a b : Tn) : Bool := tRR a b && ((a.1 ^^^ b.1) &&& ~~~(a.2 ||| b.2) == 0#64)
def tM (a b : Tn) : Tn := if tMok a b then tMade (a.1 ||| b.1) (a.2 &&& b.2) else (0#64, 0#64)
end Go.Proofs.Ytdgckjkdimnpoaa

namespace Go.Proofs.Ytdgckjkdimnpoaa
open Go Go.RowKit
set_option maxRecDepth 100000
set_option linter.unusedVariables false

theorem bv_ext {x y : BitVec 64} : x = y ↔ ∀ i, i < 64 → x.getLsbD i = y.getLsbD i := ⟨fun h i _ => by rw [h], BitVec.eq_of_getLsbD_eq⟩
theorem andn_bit (x y : BitVec 64) {i : Nat} (hi : i < 64) : (x &&& ~~~y).getLsbD i = (x.getLsbD i && !y.getLsbD i) := by
  rw [BitVec.getLsbD_and, BitVec.getLsbD_not]; simp [hi]
theorem zero_bit (i : Nat) : (0#64).getLsbD i = false := BitVec.getLsbD_zero
theorem tR_iff (t : Tn) : tR t = true ↔ ∀ i, i < 64 → (t.1.getLsbD i && t.2.getLsbD i) = false := by
  unfold tR
  rw [beq_iff_eq, bv_ext]
  simp only [BitVec.getLsbD_and, zero_bit]
theorem tH_iff (t : Tn) (n : BitVec 64) : tH t n = true ↔ ∀ i, i < 64 → (n.getLsbD i && !t.2.getLsbD i) = t.1.getLsbD i := by
  unfold tH
  rw [beq_iff_eq, bv_ext]
  constructor
  · intro h i hi; rw [← h i hi, andn_bit _ _ hi]
  · intro h i hi; rw [andn_bit _ _ hi, h i hi]
theorem tRR_iff (a b : Tn) : tRR a b = true ↔ tR a = true ∧ tR b = true := by unfold tRR; rw [Bool.and_eq_true]
theorem tW_iff (a b : Tn) : tW a b = true ↔ tR a = true ∧ ∀ i, i < 64 → (a.2.getLsbD i && !b.2.getLsbD i) = false ∧ (a.1.getLsbD i && !b.2.getLsbD i) = b.1.getLsbD i := by
  unfold tW
  rw [Bool.and_eq_true, Bool.and_eq_true, tH_iff, beq_iff_eq, bv_ext]
  constructor
  · rintro ⟨⟨h1, h2⟩, h3⟩
    exact ⟨h1, fun i hi => ⟨by rw [← andn_bit _ _ hi, h2 i hi, zero_bit], h3 i hi⟩⟩
  · rintro ⟨h1, h2⟩
    exact ⟨⟨h1, fun i hi => by rw [andn_bit _ _ hi, zero_bit, (h2 i hi).1]⟩, fun i hi => (h2 i hi).2⟩
theorem made_bit (v m : BitVec 64) {i : Nat} (hi : i < 64) : (tMade v m).1.getLsbD i = (v.getLsbD i && !m.getLsbD i) ∧ (tMade v m).2.getLsbD i = m.getLsbD i := ⟨andn_bit v m hi, rfl⟩
theorem made_right (v m : BitVec 64) : tR (tMade v m) = true := by
  rw [tR_iff]
  intro i hi
  obtain ⟨e1, e2⟩ := made_bit v m hi
  rw [e1, e2]
  cases v.getLsbD i <;> cases m.getLsbD i <;> rfl
/-- A number that may be what is known of it. -/
def pick (v m n : BitVec 64) : BitVec 64 := (v &&& ~~~m) ||| (n &&& m)
/-! Carries. -/
theorem sub_mod (x y : BitVec 64) (h : x &&& y = x) (i : Nat) : x.toNat % 2 ^ i ≤ y.toNat % 2 ^ i := by
  have e : x.toNat % 2 ^ i = (x.toNat % 2 ^ i) &&& (y.toNat % 2 ^ i) := by
    rw [← Nat.and_mod_two_pow, ← BitVec.toNat_and, h]
  rw [e]
  exact Nat.and_le_right
/-- The most that may be. -/
def most (t : Tn) : BitVec 64 := t.1 ||| t.2
/-- What may be lies between the least and the most, in its lowest bits too. -/
theorem between (t : Tn) (n : BitVec 64) (hr : tR t = true) (h : tH t n = true) (i : Nat) : t.1.toNat % 2 ^ i ≤ n.toNat % 2 ^ i ∧ n.toNat % 2 ^ i ≤ (most t).toNat % 2 ^ i := by
  rw [tR_iff] at hr
  rw [tH_iff] at h
  constructor
  · apply sub_mod
    rw [bv_ext]
    intro j hj
    have h1 := hr j hj
    have h2 := h j hj
    rw [BitVec.getLsbD_and]
    revert h1 h2
    cases t.1.getLsbD j <;> cases t.2.getLsbD j <;> cases n.getLsbD j <;> simp
  · apply sub_mod
    rw [bv_ext]
    intro j hj
    have h1 := hr j hj
    have h2 := h j hj
    unfold most
    rw [BitVec.getLsbD_and, BitVec.getLsbD_or]
    revert h1 h2
    cases t.1.getLsbD j <;> cases t.2.getLsbD j <;> cases n.getLsbD j <;> simp

/-! Times: place by place. -/
/-- A number's lowest bits. -/
def low (y : BitVec 64) (i : Nat) : BitVec 64 := BitVec.ofNat 64 (y.toNat % 2 ^ i)
theorem low_succ (y : BitVec 64) (i : Nat) : low y (i + 1) = low y i + (if y.getLsbD i then BitVec.twoPow 64 i else 0#64) := by
  have e : y.toNat % 2 ^ (i + 1) = y.toNat % 2 ^ i + (if y.getLsbD i then 2 ^ i else 0) := by
    rw [Nat.pow_succ, Nat.mod_mul]
    congr 1
    show 2 ^ i * (y.toNat / 2 ^ i % 2) = if y.toNat.testBit i then 2 ^ i else 0
    rw [Nat.testBit_eq_decide_div_mod_eq]
    have h := Nat.mod_two_eq_zero_or_one (y.toNat / 2 ^ i)
    rcases h with h | h <;> simp [h]
  unfold low
  rw [e, BitVec.ofNat_add]
  congr 1
  split
  · apply BitVec.eq_of_toNat_eq
    rw [BitVec.toNat_twoPow, BitVec.toNat_ofNat]
  · rfl
theorem low_all (y : BitVec 64) : low y 64 = y := by
  unfold low
  rw [Nat.mod_eq_of_lt y.isLt]
  exact BitVec.ofNat_toNat ..
theorem low_none (y : BitVec 64) : low y 0 = 0#64 := by
  unfold low
  rw [Nat.pow_zero, Nat.mod_one]

end Go.Proofs.Ytdgckjkdimnpoaa

namespace Go.Proofs.Ytdgckjkdimnpoaa
open Go Go.RowKit
set_option maxRecDepth 100000
set_option linter.unusedVariables false

theorem and_all (x : BitVec 64) : x &&& ~~~0#64 = x := by
  rw [bv_ext]
  intro i hi
  rw [andn_bit _ _ hi, zero_bit]
  simp
theorem rr_of {a b : Tn} (ra : tR a = true) (rb : tR b = true) : tRR a b = true := by unfold tRR; rw [ra, rb]; rfl
/-! Either. -/
theorem pair_ext {a b : Tn} (h : ∀ i, i < 64 → a.1.getLsbD i = b.1.getLsbD i ∧ a.2.getLsbD i = b.2.getLsbD i) : a = b :=
  Prod.ext (bv_ext.mpr fun i hi => (h i hi).1) (bv_ext.mpr fun i hi => (h i hi).2)
/-! Within. -/
theorem within_on {a b c : Tn} (h1 : tW a b = true) (h2 : tW b c = true) : tW a c = true := by
  rw [tW_iff] at *
  refine ⟨h1.1, fun i hi => ?_⟩
  have k1 := h1.2 i hi
  have k2 := h2.2 i hi
  revert k1 k2
  generalize a.1.getLsbD i = u1
  generalize a.2.getLsbD i = u2
  generalize b.1.getLsbD i = u3
  generalize b.2.getLsbD i = u4
  generalize c.1.getLsbD i = u5
  generalize c.2.getLsbD i = u6
  cases u1 <;> cases u2 <;> cases u3 <;> cases u4 <;> cases u5 <;> cases u6 <;> simp
theorem within_self {a : Tn} (ra : tR a = true) : tW a a = true := by
  rw [tW_iff]
  refine ⟨ra, fun i hi => ?_⟩
  have h1 := (tR_iff a).mp ra i hi
  revert h1
  generalize a.1.getLsbD i = u1
  generalize a.2.getLsbD i = u2
  cases u1 <;> cases u2 <;> simp
theorem of_right (n : BitVec 64) : tR (n, 0#64) = true := by
  rw [tR_iff]
  intro i hi
  show (n.getLsbD i && (0#64).getLsbD i) = false
  rw [zero_bit, Bool.and_false]
/-! Both. -/
theorem mok_iff {a b : Tn} (ra : tR a = true) (rb : tR b = true) : tMok a b = true ↔ ∀ i, i < 64 → ((a.1.getLsbD i ^^ b.1.getLsbD i) && !(a.2.getLsbD i || b.2.getLsbD i)) = false := by
  unfold tMok
  rw [rr_of ra rb, Bool.true_and, beq_iff_eq, bv_ext]
  constructor
  · intro h i hi
    have e := h i hi
    rw [andn_bit _ _ hi, BitVec.getLsbD_xor, BitVec.getLsbD_or, zero_bit] at e
    exact e
  · intro h i hi
    rw [andn_bit _ _ hi, BitVec.getLsbD_xor, BitVec.getLsbD_or, zero_bit]
    exact h i hi
theorem meet_bit {a b : Tn} (h : tMok a b = true) {i : Nat} (hi : i < 64) :
    (tM a b).2.getLsbD i = (a.2.getLsbD i && b.2.getLsbD i) ∧ (tM a b).1.getLsbD i = ((a.1.getLsbD i || b.1.getLsbD i) && !(a.2.getLsbD i && b.2.getLsbD i)) := by
  unfold tM
  rw [if_pos h]
  obtain ⟨e1, e2⟩ := made_bit (a.1 ||| b.1) (a.2 &&& b.2) hi
  rw [e1, e2, BitVec.getLsbD_or, BitVec.getLsbD_and]
  exact ⟨rfl, rfl⟩
theorem meet_right {a b : Tn} (h : tMok a b = true) : tR (tM a b) = true := by
  unfold tM; rw [if_pos h]; exact made_right _ _
theorem meet_has {a b : Tn} (ra : tR a = true) (rb : tR b = true) (o : BitVec 64) : (tH a o && tH b o) = (tMok a b && tH (tM a b) o) := by
  rw [Bool.eq_iff_iff, Bool.and_eq_true, Bool.and_eq_true]
  constructor
  · rintro ⟨h1, h2⟩
    rw [tH_iff] at h1 h2
    have hm : tMok a b = true := by
      rw [mok_iff ra rb]
      intro i hi
      have k1 := h1 i hi
      have k2 := h2 i hi
      revert k1 k2
      generalize a.1.getLsbD i = u1
      generalize a.2.getLsbD i = u2
      generalize b.1.getLsbD i = u3
      generalize b.2.getLsbD i = u4
      generalize o.getLsbD i = u5
      cases u1 <;> cases u2 <;> cases u3 <;> cases u4 <;> cases u5 <;> simp
    refine ⟨hm, ?_⟩
    rw [tH_iff]
    intro i hi
    obtain ⟨e1, e2⟩ := meet_bit hm hi
    rw [e1, e2]
    have k1 := h1 i hi
    have k2 := h2 i hi
    have k3 := (tR_iff a).mp ra i hi
    have k4 := (tR_iff b).mp rb i hi
    revert k1 k2 k3 k4
    generalize a.1.getLsbD i = u1
    generalize a.2.getLsbD i = u2
    generalize b.1.getLsbD i = u3
    generalize b.2.getLsbD i = u4
    generalize o.getLsbD i = u5
    cases u1 <;> cases u2 <;> cases u3 <;> cases u4 <;> cases u5 <;> simp
  · rintro ⟨hm, h⟩
    have hm' := (mok_iff ra rb).mp hm
    rw [tH_iff] at h
    constructor
    all_goals
      rw [tH_iff]
      intro i hi
      have k0 := h i hi
      obtain ⟨e1, e2⟩ := meet_bit hm hi
      rw [e1, e2] at k0
      have k1 := hm' i hi
      have k3 := (tR_iff a).mp ra i hi
      have k4 := (tR_iff b).mp rb i hi
      clear e1 e2 h hm hm' ra rb
      revert k0 k1 k3 k4
      generalize a.1.getLsbD i = u1
      generalize a.2.getLsbD i = u2
      generalize b.1.getLsbD i = u3
      generalize b.2.getLsbD i = u4
      generalize o.getLsbD i = u5
      cases u1 <;> cases u2 <;> cases u3 <;> cases u4 <;> cases u5 <;> simp
theorem meet_within {a b : Tn} (ra : tR a = true) (rb : tR b = true) (h : tMok a b = true) : tW (tM a b) a = true ∧ tW (tM a b) b = true := by
  have hm' := (mok_iff ra rb).mp h
  constructor
  all_goals
    rw [tW_iff]
    refine ⟨meet_right h, fun i hi => ?_⟩
    obtain ⟨e1, e2⟩ := meet_bit h hi
    rw [e1, e2]
    have k1 := hm' i hi
    have k3 := (tR_iff a).mp ra i hi
    have k4 := (tR_iff b).mp rb i hi
    clear e1 e2 h hm' ra rb
    revert k1 k3 k4
    generalize a.1.getLsbD i = u1
    generalize a.2.getLsbD i = u2
    generalize b.1.getLsbD i = u3
    generalize b.2.getLsbD i = u4
    cases u1 <;> cases u2 <;> cases u3 <;> cases u4 <;> simp
/-! The lowest bits. -/
/-! Arithmetic. -/
/-! Of numbers that are known. -/
theorem of_has (x : BitVec 64) : tH (x, 0#64) x = true := by unfold tH; rw [beq_iff_eq]; exact and_all x
end Go.Proofs.Ytdgckjkdimnpoaa

namespace Go.Proofs.Ytdgckjkdimnpoaa
open Go Go.RowKit
set_option linter.unusedVariables false

theorem two_pow_pos (n : Nat) : (0 : Int) < 2 ^ n := by
  have := Nat.two_pow_pos n
  have e : ((2 ^ n : Nat) : Int) = (2 : Int) ^ n := by push_cast; rfl
  omega
/-! What arithmetic makes, before it is cut. -/
end Go.Proofs.Ytdgckjkdimnpoaa

namespace Go.Proofs.Ytdgckjkdimnpoaa
open Go Go.RowKit
set_option maxRecDepth 100000
set_option linter.unusedVariables false

/-- A span: from the first number to the second one. -/
abbrev Sp := Int × Int
abbrev sV (s : Sp) : Value := .agg #[.int .u64 s.1, .int .u64 s.2]
def In64 (n : Int) : Prop := 0 ≤ n ∧ n ≤ 18446744073709551615
def sIn (s : Sp) : Prop := In64 s.1 ∧ In64 s.2
def sR (s : Sp) : Bool := decide (s.1 ≤ s.2)
def sRR (a b : Sp) : Bool := sR a && sR b
def sAll : Sp := (0, 18446744073709551615)
def sH (s : Sp) (n : Int) : Bool := decide (s.1 ≤ n) && decide (n ≤ s.2)
def sW (a b : Sp) : Bool := sRR a b && (decide (b.1 ≤ a.1) && decide (a.2 ≤ b.2))
def sT (l h : Int) : Sp := if h < l then (0, 0) else (l, h)
def sTok (l h : Int) : Bool := decide (l ≤ h)
def sM (a b : Sp) : Sp := sT (max a.1 b.1) (min a.2 b.2)
def sMok (a b : Sp) : Bool := sTok (max a.1 b.1) (min a.2 b.2)
end Go.Proofs.Ytdgckjkdimnpoaa

namespace Go.Proofs.Ytdgckjkdimnpoaa
open Go Go.RowKit
set_option linter.unusedVariables false

/-! aluV, op by op. -/
section
variable (wide : Bool) (a b : Int)
end

/-! The order of numbers. -/
/-! Bits moved up and down again. -/
theorem pow_le_64 (k : Nat) (h : k ≤ 64) : 1 ≤ (2 : Int) ^ k ∧ (2 : Int) ^ k ≤ 18446744073709551616 := by
  have h1 := Nat.two_pow_pos k
  have h2 : 2 ^ k ≤ 2 ^ 64 := Nat.pow_le_pow_right (by decide) h
  have e : ((2 ^ k : Nat) : Int) = (2 : Int) ^ k := by push_cast; rfl
  omega
theorem pow_lt_64 (k : Nat) (h : k ≤ 63) : (2 : Int) ^ k % 18446744073709551616 = 2 ^ k := by
  have h1 := Nat.two_pow_pos k
  have h2 : 2 ^ k ≤ 2 ^ 63 := Nat.pow_le_pow_right (by decide) h
  have e : ((2 ^ k : Nat) : Int) = (2 : Int) ^ k := by push_cast; rfl
  omega

end Go.Proofs.Ytdgckjkdimnpoaa

namespace Go.Proofs.Ytdgckjkdimnpoaa
open Go Go.RowKit
set_option maxRecDepth 100000
set_option linter.unusedVariables false

theorem sH_iff {s : Sp} {n : Int} : sH s n = true ↔ s.1 ≤ n ∧ n ≤ s.2 := by simp [sH]
theorem sT_ok {l h : Int} (k : l ≤ h) : sT l h = (l, h) ∧ sTok l h = true := ⟨if_neg (by omega), decide_eq_true k⟩

theorem sW_mk {a b : Sp} (h1 : a.1 ≤ a.2) (h2 : b.1 ≤ b.2) (h3 : b.1 ≤ a.1) (h4 : a.2 ≤ b.2) : sW a b = true := by
  unfold sW sRR sR
  rw [decide_eq_true h1, decide_eq_true h2, decide_eq_true h3, decide_eq_true h4]
  rfl
theorem sTok_le {l h : Int} (k : sTok l h = true) : l ≤ h := of_decide_eq_true k

theorem right_le {s : Sp} (h : sR s = true) : s.1 ≤ s.2 := of_decide_eq_true h
theorem sW_iff {a b : Sp} : sW a b = true ↔ (a.1 ≤ a.2 ∧ b.1 ≤ b.2) ∧ b.1 ≤ a.1 ∧ a.2 ≤ b.2 := by simp [sW, sRR, sR]
theorem sM_has {a b : Sp} {o : Int} (ra : sR a = true) (rb : sR b = true) (h : sMok a b = true) : sH (sM a b) o = (sH a o && sH b o) := by
  have h1 := right_le ra
  have h2 := right_le rb
  have k := sTok_le (show sTok (max a.1 b.1) (min a.2 b.2) = true from h)
  unfold sM
  rw [(sT_ok k).1, Bool.eq_iff_iff, Bool.and_eq_true, sH_iff, sH_iff, sH_iff]
  dsimp only
  omega
theorem sM_none {a b : Sp} {o : Int} (h : sMok a b = false) : (sH a o && sH b o) = false := by
  have k := of_decide_eq_false (show decide (max a.1 b.1 ≤ min a.2 b.2) = false from h)
  cases hq : sH a o && sH b o
  · rfl
  · rw [Bool.and_eq_true, sH_iff, sH_iff] at hq
    omega
theorem sM_within {a b : Sp} (ra : sR a = true) (rb : sR b = true) (h : sMok a b = true) : sW (sM a b) a = true ∧ sW (sM a b) b = true := by
  have h1 := right_le ra
  have h2 := right_le rb
  have k := sTok_le (show sTok (max a.1 b.1) (min a.2 b.2) = true from h)
  unfold sM
  rw [(sT_ok k).1, sW_iff, sW_iff]
  dsimp only
  omega
theorem sW_on {a b c : Sp} (h1 : sW a b = true) (h2 : sW b c = true) : sW a c = true := by
  rw [sW_iff] at *
  omega

end Go.Proofs.Ytdgckjkdimnpoaa

namespace Go.Proofs.Ytdgckjkdimnpoaa
open Go Go.RowKit
set_option maxRecDepth 100000
set_option linter.unusedVariables false

/-! How many bits a number has; the numbers of so many bits. -/
def bl (x : BitVec 64) : Nat := if x = 0#64 then 0 else x.toNat.log2 + 1
theorem bl_iff (x : BitVec 64) (j : Nat) : bl x ≤ j ↔ x.toNat < 2 ^ j := by
  unfold bl
  split
  · rename_i h
    subst h
    simp [Nat.two_pow_pos]
  · rename_i h
    have hx : x.toNat ≠ 0 := fun k => h (BitVec.eq_of_toNat_eq (by simpa using k))
    rw [Nat.succ_le_iff, Nat.log2_lt hx]
theorem bl_le (x : BitVec 64) : bl x ≤ 64 := (bl_iff x 64).mpr x.isLt
def mk (k : Nat) : BitVec 64 := BitVec.ofNat 64 (2 ^ k - 1)
theorem mk_bit (k : Nat) {i : Nat} (hi : i < 64) : (mk k).getLsbD i = decide (i < k) := by
  unfold mk
  rw [BitVec.getLsbD_ofNat, Nat.testBit_two_pow_sub_one]
  simp [hi]
theorem bit_div (x : BitVec 64) (k i : Nat) : (x.toNat / 2 ^ k).testBit i = x.getLsbD (k + i) := by
  rw [Nat.testBit_div_two_pow, Nat.add_comm]
  rfl
theorem hi_iff (x y : BitVec 64) (k : Nat) : (x ^^^ y).toNat < 2 ^ k ↔ x.toNat / 2 ^ k = y.toNat / 2 ^ k := by
  constructor
  · intro h
    apply Nat.eq_of_testBit_eq
    intro i
    rw [bit_div, bit_div]
    have h1 : (x ^^^ y).toNat.testBit (k + i) = false := Nat.testBit_lt_two_pow (Nat.lt_of_lt_of_le h (Nat.pow_le_pow_right (by decide) (by omega)))
    have h2 : (x ^^^ y).getLsbD (k + i) = false := h1
    rw [BitVec.getLsbD_xor] at h2
    revert h2
    cases x.getLsbD (k + i) <;> cases y.getLsbD (k + i) <;> simp
  · intro h
    apply Nat.lt_pow_two_of_testBit
    intro i hi
    show (x ^^^ y).getLsbD i = false
    have h1 := congrArg (fun n => n.testBit (i - k)) h
    simp only [bit_div] at h1
    rw [show k + (i - k) = i by omega] at h1
    rw [BitVec.getLsbD_xor, h1]
    simp
theorem hi_bit {x y : BitVec 64} {k : Nat} (h : x.toNat / 2 ^ k = y.toNat / 2 ^ k) {i : Nat} (hi : k ≤ i) : x.getLsbD i = y.getLsbD i := by
  have h1 := congrArg (fun n => n.testBit (i - k)) h
  simp only [bit_div] at h1
  rw [show k + (i - k) = i by omega] at h1
  exact h1

/-- What a range tells of bits. -/
def rng (l h : BitVec 64) : Tn := tMade l (mk (bl (l ^^^ h)))
theorem rng_right (l h : BitVec 64) : tR (rng l h) = true := made_right _ _
theorem rng_bit (l h : BitVec 64) {i : Nat} (hi : i < 64) : (rng l h).1.getLsbD i = (l.getLsbD i && !decide (i < bl (l ^^^ h))) ∧ (rng l h).2.getLsbD i = decide (i < bl (l ^^^ h)) := by
  obtain ⟨e1, e2⟩ := made_bit l (mk (bl (l ^^^ h))) hi
  unfold rng
  rw [e1, e2, mk_bit _ hi]
  exact ⟨rfl, rfl⟩
theorem hi_of {l h n : BitVec 64} (h1 : l.toNat ≤ n.toNat) (h2 : n.toNat ≤ h.toNat) : n.toNat / 2 ^ bl (l ^^^ h) = l.toNat / 2 ^ bl (l ^^^ h) := by
  have e := (hi_iff l h _).mp ((bl_iff (l ^^^ h) _).mp (Nat.le_refl _))
  have d1 := Nat.div_le_div_right (c := 2 ^ bl (l ^^^ h)) h1
  have d2 := Nat.div_le_div_right (c := 2 ^ bl (l ^^^ h)) h2
  omega
theorem rng_has {l h n : BitVec 64} (h1 : l.toNat ≤ n.toNat) (h2 : n.toNat ≤ h.toNat) : tH (rng l h) n = true := by
  rw [tH_iff]
  intro i hi
  obtain ⟨e1, e2⟩ := rng_bit l h hi
  rw [e1, e2]
  by_cases k : i < bl (l ^^^ h)
  · simp [k]
  · rw [hi_bit (hi_of h1 h2) (by omega)]
/-! A fact: what is known of bits, and from where to where. -/
abbrev Fc := Tn × Sp
abbrev fV (f : Fc) : Value := .agg #[uV f.1.1, uV f.1.2, .int .u64 f.2.1, .int .u64 f.2.2]
def fRR (f : Fc) : Bool := tR f.1 && sR f.2
def fIn (f : Fc) : Prop := sIn f.2
def fHas (f : Fc) (n : BitVec 64) : Bool := tH f.1 n && sH f.2 n.toNat
def fLe (a b : Fc) : Bool := tW a.1 b.1 && sW a.2 b.2
def bSp (t : Tn) : Sp := ((t.1.toNat : Int), ((t.1 ||| t.2).toNat : Int))
def rS (s : Sp) : Tn := rng (BitVec.ofInt 64 s.1) (BitVec.ofInt 64 s.2)
def rdS (f : Fc) : Sp := sM f.2 (bSp f.1)
def rdok (f : Fc) : Bool := sMok f.2 (bSp f.1) && tMok f.1 (rS (rdS f))
/-- One round. -/
def rd (f : Fc) : Fc := (tM f.1 (rS (rdS f)), rdS f)
def fIt : Nat → Fc → Option Fc
  | 0, f => some f
  | n + 1, f => if rdok f then (if rd f = f then some f else fIt n (rd f)) else none
def fS (f : Fc) : Option Fc := if fRR f then fIt 80 f else none

theorem ofInt_nat {x : Int} (h : In64 x) : ((BitVec.ofInt 64 x).toNat : Int) = x := by
  unfold In64 at h
  rw [BitVec.toNat_ofInt]
  omega
theorem fRR_iff {f : Fc} : fRR f = true ↔ tR f.1 = true ∧ sR f.2 = true := Bool.and_eq_true_iff
theorem fHas_iff {f : Fc} {n : BitVec 64} : fHas f n = true ↔ tH f.1 n = true ∧ sH f.2 n.toNat = true := Bool.and_eq_true_iff
theorem fLe_iff {a b : Fc} : fLe a b = true ↔ tW a.1 b.1 = true ∧ sW a.2 b.2 = true := Bool.and_eq_true_iff
theorem rdok_iff {f : Fc} : rdok f = true ↔ sMok f.2 (bSp f.1) = true ∧ tMok f.1 (rS (rdS f)) = true := Bool.and_eq_true_iff
theorem bSp_in (t : Tn) : sIn (bSp t) := by
  have h1 := bv_rng t.1
  have h2 := bv_rng (t.1 ||| t.2)
  exact ⟨h1, h2⟩
theorem bSp_has {t : Tn} {n : BitVec 64} (rt : tR t = true) (h : tH t n = true) : sH (bSp t) n.toNat = true := by
  have hb := between t n rt h 64
  rw [Nat.mod_eq_of_lt t.1.isLt, Nat.mod_eq_of_lt n.isLt, Nat.mod_eq_of_lt (most t).isLt] at hb
  refine sH_iff.mpr ?_
  have e : (bSp t).2 = ((most t).toNat : Int) := rfl
  have e1 : (bSp t).1 = (t.1.toNat : Int) := rfl
  omega
theorem bSp_right {t : Tn} (rt : tR t = true) : sR (bSp t) = true := by
  have hp : tH t t.1 = true := by
    rw [tH_iff]
    rw [tR_iff] at rt
    intro i hi
    have h := rt i hi
    revert h
    cases t.1.getLsbD i <;> cases t.2.getLsbD i <;> simp
  have h := sH_iff.mp (bSp_has rt hp)
  exact decide_eq_true (by omega)
theorem sM_in {a b : Sp} (ha : sIn a) (hb : sIn b) : sIn (sM a b) := by
  unfold sIn In64 sM sT at *
  split <;> (dsimp only; omega)
theorem rS_right (s : Sp) : tR (rS s) = true := rng_right _ _
theorem rS_has {s : Sp} (hs : sIn s) {n : BitVec 64} (h : sH s n.toNat = true) : tH (rS s) n = true := by
  have h1 := sH_iff.mp h
  have e1 := ofInt_nat hs.1
  have e2 := ofInt_nat hs.2
  exact rng_has (by omega) (by omega)
theorem rdS_in {f : Fc} (hf : fIn f) : sIn (rdS f) := sM_in hf (bSp_in _)
theorem rd_in {f : Fc} (hf : fIn f) : fIn (rd f) := rdS_in hf
theorem rd_right {f : Fc} (h : rdok f = true) : fRR (rd f) = true := by
  obtain ⟨h1, h2⟩ := rdok_iff.mp h
  refine fRR_iff.mpr ⟨meet_right h2, ?_⟩
  have k := sTok_le (show sTok _ _ = true from h1)
  show sR (sM f.2 (bSp f.1)) = true
  unfold sM
  rw [(sT_ok k).1]
  exact decide_eq_true k
/-- A number that may be it may be it behind a round. -/
theorem rd_has {f : Fc} (hf : fIn f) (hr : fRR f = true) {n : BitVec 64} (h : fHas f n = true) : rdok f = true ∧ fHas (rd f) n = true := by
  obtain ⟨rt, rs⟩ := fRR_iff.mp hr
  obtain ⟨h1, h2⟩ := fHas_iff.mp h
  have h3 := bSp_has rt h1
  have hok : sMok f.2 (bSp f.1) = true := by
    cases hq : sMok f.2 (bSp f.1)
    · have hn := sM_none (o := n.toNat) hq
      rw [h2, h3] at hn
      cases hn
    · rfl
  have hs : sH (rdS f) n.toNat = true := by
    have := sM_has (o := n.toNat) rs (bSp_right rt) hok
    rw [h2, h3] at this
    exact this
  have ht := meet_has rt (rS_right (rdS f)) n
  rw [h1, rS_has (rdS_in hf) hs, Bool.and_self] at ht
  have ht' := Bool.and_eq_true_iff.mp ht.symm
  exact ⟨rdok_iff.mpr ⟨hok, ht'.1⟩, fHas_iff.mpr ⟨ht'.2, hs⟩⟩
/-- A round makes nothing more. -/
theorem rd_le {f : Fc} (hr : fRR f = true) (h : rdok f = true) : fLe (rd f) f = true := by
  obtain ⟨rt, rs⟩ := fRR_iff.mp hr
  obtain ⟨h1, h2⟩ := rdok_iff.mp h
  exact fLe_iff.mpr ⟨(meet_within rt (rS_right _) h2).1, (sM_within rs (bSp_right rt) h1).1⟩

end Go.Proofs.Ytdgckjkdimnpoaa

namespace Go.Proofs.Ytdgckjkdimnpoaa
open Go.RowKit
set_option maxRecDepth 100000
set_option linter.unusedVariables false

theorem lt_halvings : ∀ (f x : Nat), x < 2 ^ f → x < 2 ^ Lib.bitLenAux f x := by
  intro f
  induction f with
  | zero => intro x h; exact h
  | succ f ih =>
    intro x h
    unfold Lib.bitLenAux
    split
    · rename_i h0
      rw [h0]
      decide
    · have h1 := ih (x / 2) (by rw [Nat.pow_succ] at h; omega)
      rw [Nat.pow_add]
      omega
theorem bitLen_bl (x : BitVec 64) : Lib.bitLen x.toNat = bl x := by
  apply Nat.le_antisymm
  · exact Lib.bitLen_le _ _ (bl_le x) ((bl_iff x _).mp (Nat.le_refl _))
  · rw [bl_iff]
    exact lt_halvings 64 _ x.isLt

theorem tab_at (i : Nat) (h : i < Lib.len8tab.size) : Lib.len8tab[i].toNat = Lib.bitLen i ∧ Lib.bitLen i ≤ 8 := by
  have h' : i < 256 := by rw [Lib.len8tab_size] at h; exact h
  have e := Lib.len8_eq ⟨i, h'⟩
  have l := Lib.bitLen_le8 ⟨i, h'⟩
  unfold Lib.len8 at e
  have e2 : (((Lib.len8tab[i]?).getD 0).toNat : Int) = (Lib.bitLen i : Int) := e
  rw [getElem?_pos Lib.len8tab i h] at e2
  exact ⟨by exact_mod_cast e2, l⟩
theorem bits_above (x y k : Nat) (hx : x < 18446744073709551616) (e : x / 2 ^ k = y) (h : k = 0 ∨ 2 ^ k ≤ x) : Lib.bitLen x = k + Lib.bitLen y := by
  rcases h with rfl | h
  · rw [← e]; simp
  · rw [← e]
    exact Lib.bitLen_shift k x h hx

theorem wrap_tab (x y m : Int) (k P : Nat) (hm : m = k) (hk : k ≤ 56) (hP : 2 ^ k = P) (h0 : 0 ≤ x) (h1 : x ≤ 18446744073709551615) (e : x.toNat / P = y.toNat) (h : k = 0 ∨ P ≤ x.toNat) (hl : Lib.bitLen y.toNat ≤ 8) :
    wrap64 (m + wrap64 (Lib.bitLen y.toNat : Int)) = (Lib.bitLen x.toNat : Int) := by
  subst hP
  rw [bits_above x.toNat y.toNat k (by omega) e h, hm]
  unfold wrap64
  omega
theorem wrap_tab0 (x : Int) (hl : Lib.bitLen x.toNat ≤ 8) : wrap64 (wrap64 (Lib.bitLen x.toNat : Int)) = (Lib.bitLen x.toNat : Int) := by
  unfold wrap64
  omega

set_option maxHeartbeats 4000000 in
set_option maxRecDepth 100000 in
theorem len64_int (x : Int) (w : World) (h0 : 0 ≤ x) (h1 : x ≤ 18446744073709551615) :
    Calls Try.prog 86 #[.int .u64 x] w fun e w' => e = .returned (.int .i64 (Lib.bitLen x.toNat)) ∧ w = w' := by
  go_enter Try.func86, Try.ntmps86
  go_wp2
  all_goals first
    | (exfalso; rename_i h; exact h (by rw [Lib.len8tab_size]; omega))
    | (go_ret; refine ⟨congrArg Ending.returned (congrArg (Value.int IntKind.i64) ?_), rfl⟩)
  all_goals
    rename_i h
    first
      | have hs := (Int.toNat_lt' (n := Lib.len8tab.size) (by rw [Lib.len8tab_size]; decide)).mpr h.2
      | have hs := (Int.toNat_lt' (n := Lib.len8tab.size) (by rw [Lib.len8tab_size]; decide)).mpr h
    obtain ⟨t1, t2⟩ := tab_at _ hs
    rw [t1]
    first
      | exact wrap_tab x _ _ 56 72057594037927936 rfl (by decide) (by decide) h0 h1 (by omega) (by omega) t2
      | exact wrap_tab x _ _ 48 281474976710656 rfl (by decide) (by decide) h0 h1 (by omega) (by omega) t2
      | exact wrap_tab x _ _ 40 1099511627776 rfl (by decide) (by decide) h0 h1 (by omega) (by omega) t2
      | exact wrap_tab x _ _ 32 4294967296 rfl (by decide) (by decide) h0 h1 (by omega) (by omega) t2
      | exact wrap_tab x _ _ 24 16777216 rfl (by decide) (by decide) h0 h1 (by omega) (by omega) t2
      | exact wrap_tab x _ _ 16 65536 rfl (by decide) (by decide) h0 h1 (by omega) (by omega) t2
      | exact wrap_tab x _ _ 8 256 rfl (by decide) (by decide) h0 h1 (by omega) (by omega) t2
      | exact wrap_tab x _ _ 0 1 rfl (by decide) (by decide) h0 h1 (by omega) (by omega) t2
      | exact wrap_tab0 x t2

theorem len64_says (x : BitVec 64) (w : World) : Calls Try.prog 86 #[uV x] w fun e w' => e = .returned (.int .i64 (bl x : Int)) ∧ w = w' := by
  have h := bv_rng x
  have h1 := len64_int (x.toNat : Int) w h.1 h.2
  rw [Int.toNat_natCast, bitLen_bl] at h1
  exact h1

end Go.Proofs.Ytdgckjkdimnpoaa

namespace Go.Proofs.Ytdgckjkdimnpoaa
open Go Go.RowKit
set_option maxRecDepth 100000
set_option linter.unusedVariables false

/-! How many of the lowest k bits are not known. -/
def pcTo (m : BitVec 64) : Nat → Nat
  | 0 => 0
  | k + 1 => pcTo m k + (if m.getLsbD k then 1 else 0)
theorem pcTo_le (m : BitVec 64) : ∀ k, pcTo m k ≤ k
  | 0 => Nat.le_refl _
  | k + 1 => by
    have := pcTo_le m k
    unfold pcTo
    split <;> omega
theorem pcTo_sub {m n : BitVec 64} (h : ∀ i, i < 64 → m.getLsbD i = true → n.getLsbD i = true) : ∀ k, k ≤ 64 → pcTo m k ≤ pcTo n k
  | 0, _ => Nat.le_refl _
  | k + 1, hk => by
    have ih := pcTo_sub h k (by omega)
    have h1 := h k (by omega)
    unfold pcTo
    cases hm : m.getLsbD k
    · simp; omega
    · rw [h1 hm]; simp; omega
theorem pcTo_lt {m n : BitVec 64} (h : ∀ i, i < 64 → m.getLsbD i = true → n.getLsbD i = true) {j : Nat} (h1 : m.getLsbD j = false) (h2 : n.getLsbD j = true) : ∀ k, k ≤ 64 → j < k → pcTo m k < pcTo n k
  | 0, _, hj => by omega
  | k + 1, hk, hj => by
    unfold pcTo
    by_cases e : j = k
    · subst e
      have := pcTo_sub h j (by omega)
      rw [h1, h2]
      simp; omega
    · have ih := pcTo_lt h h1 h2 k (by omega) (by omega)
      have h3 := h k (by omega)
      cases hm : m.getLsbD k
      · simp; omega
      · rw [h3 hm]; simp; omega
def pc (f : Fc) : Nat := pcTo f.1.2 64
theorem pc_le (f : Fc) : pc f ≤ 64 := pcTo_le _ _

theorem tW_same {a b : Tn} (h : tW a b = true) (e : a.2 = b.2) : a = b := by
  obtain ⟨ra, h1⟩ := (tW_iff a b).mp h
  rw [tR_iff] at ra
  apply pair_ext
  intro i hi
  have h2 := ra i hi
  have h3 := (h1 i hi).2
  rw [e] at h2
  refine ⟨?_, by rw [e]⟩
  revert h2 h3
  cases a.1.getLsbD i <;> cases b.1.getLsbD i <;> cases b.2.getLsbD i <;> simp
theorem tW_less {a b : Tn} (h : tW a b = true) (e : ¬ a.2 = b.2) : pcTo a.2 64 < pcTo b.2 64 := by
  obtain ⟨ra, h1⟩ := (tW_iff a b).mp h
  have hs : ∀ i, i < 64 → a.2.getLsbD i = true → b.2.getLsbD i = true := by
    intro i hi ha
    have h2 := (h1 i hi).1
    rw [ha] at h2
    simpa using h2
  have hj : ∃ j, j < 64 ∧ a.2.getLsbD j = false ∧ b.2.getLsbD j = true := by
    apply Classical.byContradiction
    intro hn
    apply e
    rw [bv_ext]
    intro i hi
    have h2 := hs i hi
    cases ha : a.2.getLsbD i
    · cases hb : b.2.getLsbD i
      · rfl
      · exact absurd ⟨i, hi, ha, hb⟩ hn
    · exact (h2 ha).symm
  obtain ⟨j, hj, ha, hb⟩ := hj
  exact pcTo_lt hs ha hb 64 (Nat.le_refl _) hj

theorem sM_again {a b : Sp} (h : sMok a b = true) : sM (sM a b) b = sM a b := by
  have k := sTok_le (show sTok (max a.1 b.1) (min a.2 b.2) = true from h)
  have e : sM a b = (max a.1 b.1, min a.2 b.2) := (sT_ok k).1
  rw [e]
  unfold sM sT
  dsimp only
  rw [show max (max a.1 b.1) b.1 = max a.1 b.1 by omega, show min (min a.2 b.2) b.2 = min a.2 b.2 by omega, if_neg (by omega)]

/-- A round that makes no bit known is followed by one that changes nothing. -/
theorem rd_again {f : Fc} (h : rdok f = true) (e : (rd f).1 = f.1) : rd (rd f) = rd f := by
  have hs : rdS (rd f) = rdS f := by
    show sM (rdS f) (bSp (rd f).1) = _
    rw [e]
    exact sM_again (rdok_iff.mp h).1
  have h1 : rd (rd f) = (tM (rd f).1 (rS (rdS (rd f))), rdS (rd f)) := rfl
  rw [h1, hs, e]
  rfl
/-- Either a round makes a bit known, or it makes none. -/
theorem rd_less {f : Fc} (hr : fRR f = true) (h : rdok f = true) : (rd f).1 = f.1 ∨ pc (rd f) < pc f := by
  have hw := (fLe_iff.mp (rd_le hr h)).1
  by_cases e : (rd f).1.2 = f.1.2
  · exact .inl (tW_same hw e)
  · exact .inr (tW_less hw e)

theorem fIt_no {n : Nat} {f : Fc} (h : rdok f = false) : fIt (n + 1) f = none := by unfold fIt; rw [h]; rfl
theorem fIt_end {n : Nat} {f : Fc} (h : rdok f = true) (e : rd f = f) : fIt (n + 1) f = some f := by unfold fIt; rw [if_pos h, if_pos e]
theorem fIt_on {n : Nat} {f : Fc} (h : rdok f = true) (e : ¬ rd f = f) : fIt (n + 1) f = fIt n (rd f) := by
  have e1 : fIt (n + 1) f = if rdok f then (if rd f = f then some f else fIt n (rd f)) else none := rfl
  rw [e1, if_pos h, if_neg e]

theorem fIt_irrel : ∀ (n m : Nat) (f : Fc), fRR f = true → pc f + 2 ≤ n → pc f + 2 ≤ m → fIt n f = fIt m f
  | 0, _, _, _, h, _ => by omega
  | n + 1, 0, _, _, _, h => by omega
  | n + 1, m + 1, f, hr, hn, hm => by
    cases h : rdok f
    · rw [fIt_no h, fIt_no h]
    · by_cases e : rd f = f
      · rw [fIt_end h e, fIt_end h e]
      · rw [fIt_on h e, fIt_on h e]
        rcases rd_less hr h with k | k
        · obtain ⟨p, rfl⟩ : ∃ p, n = p + 1 := ⟨n - 1, by omega⟩
          obtain ⟨q, rfl⟩ : ∃ q, m = q + 1 := ⟨m - 1, by omega⟩
          cases h2 : rdok (rd f)
          · rw [fIt_no h2, fIt_no h2]
          · rw [fIt_end h2 (rd_again h k), fIt_end h2 (rd_again h k)]
        · exact fIt_irrel n m (rd f) (rd_right h) (by omega) (by omega)

/-- What rounds come to, from a fact on whose bits and range are right. -/
def fE (f : Fc) : Option Fc := fIt (pc f + 2) f
theorem fE_it {n : Nat} {f : Fc} (hr : fRR f = true) (h : pc f + 2 ≤ n) : fIt n f = fE f := fIt_irrel _ _ f hr h (Nat.le_refl _)
theorem fS_eq (f : Fc) : fS f = if fRR f then fE f else none := by
  unfold fS
  cases h : fRR f
  · rfl
  · rw [if_pos rfl, if_pos rfl]
    exact fE_it h (by have := pc_le f; omega)
theorem fE_no {f : Fc} (h : rdok f = false) : fE f = none := fIt_no h
theorem fE_end {f : Fc} (h : rdok f = true) (e : rd f = f) : fE f = some f := fIt_end h e
theorem fE_on {f : Fc} (hr : fRR f = true) (h : rdok f = true) (e : ¬ rd f = f) : fE f = fE (rd f) := by
  have h1 : fIt 100 f = fE f := fE_it hr (by have := pc_le f; omega)
  have h2 : fIt 99 (rd f) = fE (rd f) := fE_it (rd_right h) (by have := pc_le (rd f); omega)
  rw [← h1, ← h2]
  exact fIt_on h e
/-- What goes down from round to round. -/
def fM (f : Fc) : Nat := 2 * pc f + (if rd f = f then 0 else 1)
theorem fM_less {f : Fc} (hr : fRR f = true) (h : rdok f = true) (e : ¬ rd f = f) : fM (rd f) < fM f := by
  unfold fM
  rw [if_neg e]
  rcases rd_less hr h with k | k
  · rw [if_pos (rd_again h k)]
    have : pc (rd f) = pc f := by unfold pc; rw [k]
    omega
  · split <;> omega

/-- A fact that is settled. -/
def fFix (f : Fc) : Prop := fRR f = true ∧ rdok f = true ∧ rd f = f
/-- A way to show something of what rounds come to. -/
theorem fE_ind {P : Fc → Prop} (step : ∀ f, fRR f = true → rdok f = true → P f → P (rd f)) : ∀ (n : Nat) (f g : Fc), fM f ≤ n → fRR f = true → P f → fE f = some g → P g ∧ fFix g := by
  intro n
  induction n with
  | zero =>
    intro f g hn hr hp he
    cases h : rdok f
    · rw [fE_no h] at he; cases he
    · by_cases e : rd f = f
      · rw [fE_end h e] at he
        cases he
        exact ⟨hp, hr, h, e⟩
      · have := fM_less hr h e
        omega
  | succ n ih =>
    intro f g hn hr hp he
    cases h : rdok f
    · rw [fE_no h] at he; cases he
    · by_cases e : rd f = f
      · rw [fE_end h e] at he
        cases he
        exact ⟨hp, hr, h, e⟩
      · rw [fE_on hr h e] at he
        exact ih (rd f) g (by have := fM_less hr h e; omega) (rd_right h) (step f hr h hp) he
/-- A way to show that rounds come to something. -/
theorem fE_some {P : Fc → Prop} (step : ∀ f, fRR f = true → P f → rdok f = true ∧ P (rd f)) : ∀ (n : Nat) (f : Fc), fM f ≤ n → fRR f = true → P f → ∃ g, fE f = some g := by
  intro n
  induction n with
  | zero =>
    intro f hn hr hp
    obtain ⟨h, hp'⟩ := step f hr hp
    by_cases e : rd f = f
    · exact ⟨f, fE_end h e⟩
    · have := fM_less hr h e
      omega
  | succ n ih =>
    intro f hn hr hp
    obtain ⟨h, hp'⟩ := step f hr hp
    by_cases e : rd f = f
    · exact ⟨f, fE_end h e⟩
    · rw [fE_on hr h e]
      exact ih (rd f) (by have := fM_less hr h e; omega) (rd_right h) hp'

theorem fS_some {f g : Fc} (h : fS f = some g) : fRR f = true ∧ fE f = some g := by
  rw [fS_eq] at h
  cases hr : fRR f
  · rw [hr] at h; cases h
  · rw [hr] at h; exact ⟨rfl, h⟩
theorem fS_fix {f g : Fc} (h : fS f = some g) : fFix g := by
  obtain ⟨hr, he⟩ := fS_some h
  exact (fE_ind (P := fun _ => True) (fun _ _ _ _ => trivial) _ f g (Nat.le_refl _) hr trivial he).2
theorem fLe_on {a b c : Fc} (h1 : fLe a b = true) (h2 : fLe b c = true) : fLe a c = true := by
  obtain ⟨a1, a2⟩ := fLe_iff.mp h1
  obtain ⟨b1, b2⟩ := fLe_iff.mp h2
  exact fLe_iff.mpr ⟨within_on a1 b1, sW_on a2 b2⟩
theorem fLe_self {f : Fc} (hr : fRR f = true) : fLe f f = true := by
  obtain ⟨h1, h2⟩ := fRR_iff.mp hr
  have h3 := right_le h2
  exact fLe_iff.mpr ⟨within_self h1, sW_mk h3 h3 (Int.le_refl _) (Int.le_refl _)⟩
/-- What is settled is within what it was. -/
theorem fS_le {f g : Fc} (h : fS f = some g) : fLe g f = true := by
  obtain ⟨hr, he⟩ := fS_some h
  exact (fE_ind (P := fun x => fLe x f = true) (fun x hx hk hp => fLe_on (rd_le hx hk) hp) _ f g (Nat.le_refl _) hr (fLe_self hr) he).1
/-- A number that may be it may be what it is settled to. -/
theorem fS_has {f : Fc} {n : BitVec 64} (hf : fIn f) (hr : fRR f = true) (h : fHas f n = true) : ∃ g, fS f = some g ∧ fHas g n = true := by
  obtain ⟨g, hg⟩ := fE_some (P := fun x => fIn x ∧ fHas x n = true) (fun x hx hp => ⟨(rd_has hp.1 hx hp.2).1, rd_in hp.1, (rd_has hp.1 hx hp.2).2⟩) _ f (Nat.le_refl _) hr ⟨hf, h⟩
  have := (fE_ind (P := fun x => fIn x ∧ fHas x n = true) (fun x hx hk hp => ⟨rd_in hp.1, (rd_has hp.1 hx hp.2).2⟩) _ f g (Nat.le_refl _) hr ⟨hf, h⟩ hg).1
  exact ⟨g, by rw [fS_eq, if_pos hr, hg], this.2⟩
theorem fFix_S {f : Fc} (h : fFix f) : fS f = some f := by
  rw [fS_eq, if_pos h.1]
  exact fE_end h.2.1 h.2.2

/-! What is within, stays within. -/
theorem fix_parts {a : Fc} (h : fFix a) : sW a.2 (bSp a.1) = true ∧ tW a.1 (rS a.2) = true := by
  obtain ⟨hr, hk, he⟩ := h
  obtain ⟨rt, rs⟩ := fRR_iff.mp hr
  obtain ⟨h1, h2⟩ := rdok_iff.mp hk
  have e2 : rdS a = a.2 := congrArg Prod.snd he
  have e1 : tM a.1 (rS (rdS a)) = a.1 := congrArg Prod.fst he
  have k1 := (sM_within rs (bSp_right rt) h1).2
  have k2 := (meet_within rt (rS_right _) h2).2
  rw [show sM a.2 (bSp a.1) = a.2 from e2] at k1
  rw [e1, e2] at k2
  exact ⟨k1, k2⟩
end Go.Proofs.Ytdgckjkdimnpoaa

namespace Go.Proofs.Ytdgckjkdimnpoaa
open Go Go.RowKit
set_option maxRecDepth 100000
set_option linter.unusedVariables false

def fZ : Fc := ((0#64, 0#64), (0, 0))
/-- Is it settled? -/
def fR (f : Fc) : Bool := decide (fS f = some f)
def fOf (n : BitVec 64) : Fc := ((n, 0#64), ((n.toNat : Int), (n.toNat : Int)))
def fAny : Fc := ((0#64, BitVec.allOnes 64), sAll)
def fWi (a b : Fc) : Bool := fR a && fR b && fLe a b
def fK (f : Fc) : Bool := fR f && (f.1.2 == 0#64)
def fKv (f : Fc) : BitVec 64 := if fK f then f.1.1 else 0#64
theorem fR_iff {f : Fc} : fR f = true ↔ fFix f := by
  unfold fR
  rw [decide_eq_true_iff]
  exact ⟨fS_fix, fFix_S⟩
theorem fOf_in (n : BitVec 64) : fIn (fOf n) := ⟨bv_rng n, bv_rng n⟩
theorem fOf_RR (n : BitVec 64) : fRR (fOf n) = true := fRR_iff.mpr ⟨of_right n, decide_eq_true (Int.le_refl _)⟩
theorem fOf_has (n : BitVec 64) : fHas (fOf n) n = true := fHas_iff.mpr ⟨of_has n, sH_iff.mpr ⟨Int.le_refl _, Int.le_refl _⟩⟩
theorem sW_eq {a : Sp} {n : Int} (h : sW a (n, n) = true) : a = (n, n) := by
  have k := sW_iff.mp h
  have k1 : n ≤ a.1 := k.2.1
  have k2 : a.2 ≤ n := k.2.2
  have e1 : a.1 = n := by have := k.1.1; omega
  have e2 : a.2 = n := by have := k.1.1; omega
  exact Prod.ext e1 e2
theorem tW_eq {a : Tn} {n : BitVec 64} (h : tW a (n, 0#64) = true) : a = (n, 0#64) := by
  refine tW_same h ?_
  obtain ⟨_, h1⟩ := (tW_iff a _).mp h
  rw [bv_ext]
  intro i hi
  have h2 := (h1 i hi).1
  show a.2.getLsbD i = (0#64).getLsbD i
  rw [zero_bit]
  have h3 : (a.2.getLsbD i && !(0#64).getLsbD i) = false := h2
  rw [zero_bit] at h3
  simpa using h3
theorem fLe_of {a : Fc} {n : BitVec 64} (h : fLe a (fOf n) = true) : a = fOf n := by
  obtain ⟨h1, h2⟩ := fLe_iff.mp h
  exact Prod.ext (tW_eq h1) (sW_eq h2)
theorem fOf_fix (n : BitVec 64) : fFix (fOf n) := by
  obtain ⟨g, hg, hh⟩ := fS_has (fOf_in n) (fOf_RR n) (fOf_has n)
  have e := fLe_of (fS_le hg)
  have hx := fS_fix hg
  rw [e] at hx
  exact hx
/-- What is settled, and known, is one number. -/
theorem known_of {f : Fc} (hf : fFix f) (hi : fIn f) (h : f.1.2 = 0#64) : f = fOf f.1.1 := by
  obtain ⟨p1, _⟩ := fix_parts hf
  have e : f.1 = (f.1.1, 0#64) := Prod.ext rfl h
  have e2 : bSp f.1 = ((f.1.1.toNat : Int), (f.1.1.toNat : Int)) := by
    unfold bSp
    rw [h]
    simp
  rw [e2] at p1
  exact Prod.ext e (sW_eq p1)
theorem known_has {f : Fc} {n : BitVec 64} (h : fHas f n = true) (e : f.1.2 = 0#64) : n = f.1.1 := by
  have h1 := (fHas_iff.mp h).1
  unfold tH at h1
  rw [beq_iff_eq, e, and_all] at h1
  exact h1

/-! What comes of parts that have a number. -/
/-! The lowest 32 bits. -/
end Go.Proofs.Ytdgckjkdimnpoaa

namespace Go.Proofs.Ytdgckjkdimnpoaa
open Go Go.RowKit
set_option maxRecDepth 100000
set_option linter.unusedVariables false

theorem ofInt_eq {x : BitVec 64} {z : Int} (h : (x.toNat : Int) = z) : BitVec.ofInt 64 z = x := by
  apply BitVec.eq_of_toNat_eq
  rw [BitVec.toNat_ofInt]
  have := bv_lt x
  omega
/-- A fact that is settled, and a number that may be it. -/
structure Good (f : Fc) (n : BitVec 64) : Prop where
  fix : fFix f
  inn : fIn f
  has : fHas f n = true
theorem Good.of (n : BitVec 64) : Good (fOf n) n := ⟨fOf_fix n, fOf_in n, fOf_has n⟩
theorem fK_iff {f : Fc} : fK f = true ↔ fFix f ∧ f.1.2 = 0#64 := by
  unfold fK
  rw [Bool.and_eq_true, fR_iff, beq_iff_eq]
theorem Good.known {f : Fc} {n : BitVec 64} (h : Good f n) (k : fK f = true) : f = fOf n ∧ fKv f = n := by
  obtain ⟨_, e⟩ := fK_iff.mp k
  have e1 := known_has h.has e
  refine ⟨?_, ?_⟩
  · rw [known_of h.fix h.inn e, ← e1]
  · unfold fKv
    rw [if_pos k, e1]

end Go.Proofs.Ytdgckjkdimnpoaa

namespace Go.Proofs.Ytdgckjkdimnpoaa
open Go.RowKit
set_option linter.unusedVariables false

theorem int_lt_or (a b : Int) : a < b ∨ b ≤ a := by omega

/-- One answer, and nothing that was there has turned. -/
def Gives (v : Value) (w : World) (e : Ending) (w' : World) : Prop := e = .returned v ∧ Below w.heap.size w w'
theorem below_alloc {w w' : World} (h : Below w.heap.size w w') (o : Obj) : Below w.heap.size w (w'.alloc o) := h.alloc h.size o

/-- A block that holds these cells. -/
def Blk (g : Nat) (cs : Array Value) (t : TypeId) (w : World) : Prop := w.heap[g]? = some (.cells cs t (0, 0))
theorem Blk.lt {g : Nat} {cs : Array Value} {t : TypeId} {w : World} (h : Blk g cs t w) : g < w.heap.size := by
  rcases Nat.lt_or_ge g w.heap.size with k | k
  · exact k
  · unfold Blk at h; rw [Array.getElem?_eq_none k] at h; cases h
theorem Blk.new (w : World) (cs : Array Value) (t : TypeId) {g : Nat} (hg : g = w.heap.size) : Blk g cs t (w.alloc (.cells cs t)) := by
  subst hg
  show (w.heap.push _)[w.heap.size]? = _
  simp
theorem Blk.below {g : Nat} {cs : Array Value} {t : TypeId} {w w' : World} {B : Nat} (h : Blk g cs t w) (b : Below B w w') (hB : g < B) : Blk g cs t w' := (b.block g hB).trans h
theorem Blk.after {g : Nat} {cs : Array Value} {t : TypeId} {w w' : World} (h : Blk g cs t w) (b : Below w.heap.size w w') : Blk g cs t w' := h.below b h.lt
theorem Blk.cell {g : Nat} {cs : Array Value} {t : TypeId} {w : World} (h : Blk g cs t w) (k : Nat) : w.cell? ⟨g, k, none⟩ = cs[k]? := cell_of_row w g k cs t (0, 0) h
theorem Blk.free {g : Nat} {cs : Array Value} {t : TypeId} {w : World} (h : Blk g cs t w) (k : Nat) : w.frozen? ⟨g, k, none⟩ = false := by
  unfold Blk at h
  simp [World.frozen?, h]
theorem Blk.set {g : Nat} {cs : Array Value} {t : TypeId} {w : World} (h : Blk g cs t w) (k : Nat) (v : Value) : Blk g (cs.setIfInBounds k v) t (w.setCell ⟨g, k, none⟩ v) := by
  unfold Blk at *
  simp [World.setCell, Array.getElem?_modify, h]
theorem Blk.other {g k o : Nat} {cs : Array Value} {t : TypeId} {w : World} (h : Blk g cs t w) (v : Value) (hk : g ≠ k) : Blk g cs t (w.setCell ⟨k, o, none⟩ v) := (Below.heap_setCell w ⟨k, o, none⟩ v g hk).trans h

/-- Blocks, in whatever world has come of w0. -/
def Blks (w0 : World) (l : List (Nat × Array Value × TypeId)) (u : World) : Prop := Below w0.heap.size w0 u ∧ ∀ p ∈ l, Blk p.1 p.2.1 p.2.2 u
theorem Blks.none_ {w u : World} (h : Below w.heap.size w u) : Blks w [] u := ⟨h, fun p hp => by cases hp⟩
theorem Blks.start (w : World) : Blks w [] w := Blks.none_ (Below.refl _ _)
theorem Blks.after {w0 u u' : World} {l : List (Nat × Array Value × TypeId)} (h : Blks w0 l u) (k : Below u.heap.size u u') : Blks w0 l u' := ⟨below_next' h.1 k, fun p hp => (h.2 p hp).after k⟩
theorem Blks.alloc {w0 u : World} {l : List (Nat × Array Value × TypeId)} (h : Blks w0 l u) (o : Obj) : Blks w0 l (u.alloc o) := h.after (below_alloc (Below.refl _ _) o)
theorem Blks.new {w0 u : World} {l : List (Nat × Array Value × TypeId)} (h : Blks w0 l u) (cs : Array Value) (t : TypeId) : Blks w0 ((u.heap.size, cs, t) :: l) (u.alloc (.cells cs t)) :=
  ⟨below_alloc h.1 _, fun p hp => by
    rcases List.mem_cons.mp hp with rfl | hp
    · exact Blk.new u cs t rfl
    · exact (h.2 p hp).after (below_alloc (Below.refl _ _) _)⟩
theorem Blks.one {w0 u : World} {g : Nat} {cs : Array Value} {t : TypeId} {l : List (Nat × Array Value × TypeId)} (h : Blks w0 ((g, cs, t) :: l) u) : Blk g cs t u ∧ Blks w0 l u :=
  ⟨h.2 (g, cs, t) (by simp), h.1, fun p hp => h.2 p (by simp [hp])⟩
theorem Blks.get {w0 u : World} {l : List (Nat × Array Value × TypeId)} (h : Blks w0 l u) {g : Nat} {cs : Array Value} {t : TypeId} (hp : (g, cs, t) ∈ l) : Blk g cs t u := h.2 _ hp

end Go.Proofs.Ytdgckjkdimnpoaa

namespace Go.Proofs.Ytdgckjkdimnpoaa
open Go.RowKit
set_option maxRecDepth 100000
set_option linter.unusedVariables false

/-- A fact, and whether there is one. -/
abbrev fBV (f : Fc) (b : Bool) : Value := .tuple #[fV f, .bool b]
/-- A fact's cells. -/
abbrev fCells (f : Fc) : Array Value := #[uV f.1.1, uV f.1.2, .int .u64 f.2.1, .int .u64 f.2.2]
/-- A block that holds a fact. -/
def fB (g : Nat) (f : Fc) (w : World) : Prop := Blk g (fCells f) 28 w
theorem fB.new (w : World) (f : Fc) {g : Nat} (hg : g = w.heap.size) : fB g f (w.alloc (.cells (fCells f) 28)) := Blk.new w _ _ hg
theorem fB.lt {g : Nat} {f : Fc} {w : World} (h : fB g f w) : g < w.heap.size := Blk.lt h
theorem fB.after {g : Nat} {f : Fc} {w w' : World} (h : fB g f w) (b : Below w.heap.size w w') : fB g f w' := Blk.after h b
theorem fB.alloc {g : Nat} {f : Fc} {w : World} (h : fB g f w) (o : Obj) : fB g f (w.alloc o) := h.after (below_alloc (Below.refl _ _) o)
theorem fB.cells {g : Nat} {f : Fc} {w : World} (h : fB g f w) : w.cell? ⟨g, 0, none⟩ = some (uV f.1.1) ∧ w.cell? ⟨g, 1, none⟩ = some (uV f.1.2) ∧ w.cell? ⟨g, 2, none⟩ = some (.int .u64 f.2.1) ∧ w.cell? ⟨g, 3, none⟩ = some (.int .u64 f.2.2) :=
  ⟨Blk.cell h 0, Blk.cell h 1, Blk.cell h 2, Blk.cell h 3⟩
theorem fB.free {g : Nat} {f : Fc} {w : World} (h : fB g f w) : w.frozen? ⟨g, 0, none⟩ = false ∧ w.frozen? ⟨g, 1, none⟩ = false ∧ w.frozen? ⟨g, 2, none⟩ = false ∧ w.frozen? ⟨g, 3, none⟩ = false := ⟨Blk.free h 0, Blk.free h 1, Blk.free h 2, Blk.free h 3⟩
theorem fB.set {g : Nat} {f : Fc} {w : World} (h : fB g f w) (u : Fc) :
    fB g u ((((w.setCell ⟨g, 0, none⟩ (uV u.1.1)).setCell ⟨g, 1, none⟩ (uV u.1.2)).setCell ⟨g, 2, none⟩ (.int .u64 u.2.1)).setCell ⟨g, 3, none⟩ (.int .u64 u.2.2)) :=
  Blk.set (Blk.set (Blk.set (Blk.set h 0 (uV u.1.1)) 1 (uV u.1.2)) 2 (.int .u64 u.2.1)) 3 (.int .u64 u.2.2)
theorem fB.other {g k o : Nat} {f : Fc} {w : World} (h : fB g f w) (v : Value) (hk : g ≠ k) : fB g f (w.setCell ⟨k, o, none⟩ v) := Blk.other h v hk
theorem fB.others {g k : Nat} {f u : Fc} {w : World} (h : fB g f w) (hk : g ≠ k) :
    fB g f ((((w.setCell ⟨k, 0, none⟩ (uV u.1.1)).setCell ⟨k, 1, none⟩ (uV u.1.2)).setCell ⟨k, 2, none⟩ (.int .u64 u.2.1)).setCell ⟨k, 3, none⟩ (.int .u64 u.2.2)) :=
  (((h.other _ hk).other _ hk).other _ hk).other _ hk
theorem below_four {B k : Nat} {w u : World} (h : Below B w u) (hk : B ≤ k) (x : Fc) :
    Below B w ((((u.setCell ⟨k, 0, none⟩ (uV x.1.1)).setCell ⟨k, 1, none⟩ (uV x.1.2)).setCell ⟨k, 2, none⟩ (.int .u64 x.2.1)).setCell ⟨k, 3, none⟩ (.int .u64 x.2.2)) :=
  (((h.setCell (p := ⟨k, 0, none⟩) hk _).setCell (p := ⟨k, 1, none⟩) hk _).setCell (p := ⟨k, 2, none⟩) hk _).setCell (p := ⟨k, 3, none⟩) hk _

/-- One fact's block, and behind it a result's. -/
def FDuo (f t : Fc) (w u : World) : Prop := Below w.heap.size w u ∧ fB w.heap.size f u ∧ fB (w.heap.size + 1) t u
theorem FDuo.new (f t : Fc) (w : World) : FDuo f t w ((w.alloc (.cells (fCells f) 28)).alloc (.cells (fCells t) 28)) :=
  ⟨below_alloc (below_alloc (Below.refl _ _) _) _, (fB.new w f rfl).alloc _, fB.new _ t (by simp)⟩
theorem FDuo.after {f t : Fc} {w u u' : World} (h : FDuo f t w u) (k : Below u.heap.size u u') : FDuo f t w u' := ⟨below_next' h.1 k, h.2.1.after k, h.2.2.after k⟩
theorem FDuo.alloc {f t : Fc} {w u : World} (h : FDuo f t w u) (o : Obj) : FDuo f t w (u.alloc o) := h.after (below_alloc (Below.refl _ _) o)
theorem FDuo.set {f t : Fc} {w u : World} (h : FDuo f t w u) (s : Fc) :
    FDuo f s w ((((u.setCell ⟨w.heap.size + 1, 0, none⟩ (uV s.1.1)).setCell ⟨w.heap.size + 1, 1, none⟩ (uV s.1.2)).setCell ⟨w.heap.size + 1, 2, none⟩ (.int .u64 s.2.1)).setCell ⟨w.heap.size + 1, 3, none⟩ (.int .u64 s.2.2)) :=
  ⟨below_four h.1 (by omega) s, h.2.1.others (by omega), h.2.2.set s⟩
theorem FDuo.far {f t : Fc} {w u : World} {k : Nat} (h : FDuo f t w u) (hk : w.heap.size + 1 < k) (x y : Value) : FDuo f t w ((u.setCell ⟨k, 0, none⟩ x).setCell ⟨k, 1, none⟩ y) :=
  ⟨(h.1.setCell (p := ⟨k, 0, none⟩) (by dsimp only; omega) _).setCell (p := ⟨k, 1, none⟩) (by dsimp only; omega) _, (h.2.1.other _ (by omega)).other _ (by omega), (h.2.2.other _ (by omega)).other _ (by omega)⟩
theorem FDuo.setA {f t : Fc} {w u : World} (h : FDuo f t w u) (s : Fc) :
    FDuo s t w ((((u.setCell ⟨w.heap.size, 0, none⟩ (uV s.1.1)).setCell ⟨w.heap.size, 1, none⟩ (uV s.1.2)).setCell ⟨w.heap.size, 2, none⟩ (.int .u64 s.2.1)).setCell ⟨w.heap.size, 3, none⟩ (.int .u64 s.2.2)) :=
  ⟨below_four h.1 (Nat.le_refl _) s, h.2.1.set s, h.2.2.others (by omega)⟩

end Go.Proofs.Ytdgckjkdimnpoaa

namespace Go.Proofs.Ytdgckjkdimnpoaa
open Go.RowKit
set_option maxRecDepth 100000
set_option linter.unusedVariables false

/-- A block that holds what may be known. -/
def Box (g : Nat) (t : Tn) (w : World) : Prop := w.heap[g]? = some (.cells #[uV t.1, uV t.2] 24 (0, 0))
theorem Box.lt {g : Nat} {t : Tn} {w : World} (h : Box g t w) : g < w.heap.size := by
  rcases Nat.lt_or_ge g w.heap.size with k | k
  · exact k
  · unfold Box at h; rw [Array.getElem?_eq_none k] at h; cases h
theorem Box.new (w : World) (t : Tn) {g : Nat} (hg : g = w.heap.size) : Box g t (w.alloc (.cells #[uV t.1, uV t.2] 24)) := by
  subst hg
  show (w.heap.push _)[w.heap.size]? = _
  simp
theorem Box.below {g : Nat} {t : Tn} {w w' : World} {B : Nat} (h : Box g t w) (b : Below B w w') (hB : g < B) : Box g t w' := (b.block g hB).trans h
theorem Box.after {g : Nat} {t : Tn} {w w' : World} (h : Box g t w) (b : Below w.heap.size w w') : Box g t w' := h.below b h.lt
theorem Box.alloc {g : Nat} {t : Tn} {w : World} (h : Box g t w) (o : Obj) : Box g t (w.alloc o) := h.after (below_alloc (Below.refl _ _) o)
theorem Box.cells {g : Nat} {t : Tn} {w : World} (h : Box g t w) : w.cell? ⟨g, 0, none⟩ = some (uV t.1) ∧ w.cell? ⟨g, 1, none⟩ = some (uV t.2) :=
  ⟨cell_of_row w g 0 _ _ (0, 0) h, cell_of_row w g 1 _ _ (0, 0) h⟩
theorem Box.free {g : Nat} {t : Tn} {w : World} (h : Box g t w) : w.frozen? ⟨g, 0, none⟩ = false ∧ w.frozen? ⟨g, 1, none⟩ = false := by
  unfold Box at h
  constructor <;> simp [World.frozen?, h]
theorem Box.set0 {g : Nat} {t : Tn} {w : World} (h : Box g t w) (x : BitVec 64) : Box g (x, t.2) (w.setCell ⟨g, 0, none⟩ (uV x)) := by
  unfold Box at *
  simp [World.setCell, Array.getElem?_modify, h]
theorem Box.set1 {g : Nat} {t : Tn} {w : World} (h : Box g t w) (x : BitVec 64) : Box g (t.1, x) (w.setCell ⟨g, 1, none⟩ (uV x)) := by
  unfold Box at *
  simp [World.setCell, Array.getElem?_modify, h]
theorem Box.set {g : Nat} {t : Tn} {w : World} (h : Box g t w) (u : Tn) : Box g u ((w.setCell ⟨g, 0, none⟩ (uV u.1)).setCell ⟨g, 1, none⟩ (uV u.2)) := (h.set0 u.1).set1 u.2
theorem Box.other {g k o : Nat} {t : Tn} {w : World} (h : Box g t w) (v : Value) (hk : g ≠ k) : Box g t (w.setCell ⟨k, o, none⟩ v) := (Below.heap_setCell w ⟨k, o, none⟩ v g hk).trans h
/-- The boxes of two arguments, in whatever world has come of them. -/
def Pair (a b : Tn) (w u : World) : Prop := Below w.heap.size w u ∧ Box w.heap.size a u ∧ Box (w.heap.size + 1) b u
theorem Pair.new (a b : Tn) (w : World) : Pair a b w ((w.alloc (.cells #[uV a.1, uV a.2] 24)).alloc (.cells #[uV b.1, uV b.2] 24)) :=
  ⟨below_alloc (below_alloc (Below.refl _ _) _) _, (Box.new w a rfl).alloc _, Box.new _ b (by simp)⟩
theorem Pair.after {a b : Tn} {w u u' : World} (h : Pair a b w u) (k : Below u.heap.size u u') : Pair a b w u' := ⟨below_next' h.1 k, h.2.1.after k, h.2.2.after k⟩
theorem Pair.alloc {a b : Tn} {w u : World} (h : Pair a b w u) (o : Obj) : Pair a b w (u.alloc o) := h.after (below_alloc (Below.refl _ _) o)
theorem Pair.cells {a b : Tn} {w u : World} (h : Pair a b w u) : u.cell? ⟨w.heap.size, 0, none⟩ = some (uV a.1) ∧ u.cell? ⟨w.heap.size, 1, none⟩ = some (uV a.2) ∧
    u.cell? ⟨w.heap.size + 1, 0, none⟩ = some (uV b.1) ∧ u.cell? ⟨w.heap.size + 1, 1, none⟩ = some (uV b.2) := ⟨h.2.1.cells.1, h.2.1.cells.2, h.2.2.cells.1, h.2.2.cells.2⟩
/-- The same, and behind them a third box, a result's. -/
def Trio (a b t : Tn) (w u : World) : Prop := Pair a b w u ∧ Box (w.heap.size + 1 + 1) t u
theorem Trio.new (a b : Tn) (w : World) : Trio a b (0#64, 0#64) w (((w.alloc (.cells #[uV a.1, uV a.2] 24)).alloc (.cells #[uV b.1, uV b.2] 24)).alloc (.cells #[.int .u64 0, .int .u64 0] 24)) :=
  ⟨(Pair.new a b w).alloc _, Box.new _ (0#64, 0#64) (by simp)⟩
theorem Trio.after {a b t : Tn} {w u u' : World} (h : Trio a b t w u) (k : Below u.heap.size u u') : Trio a b t w u' := ⟨h.1.after k, h.2.after k⟩
theorem Trio.alloc {a b t : Tn} {w u : World} (h : Trio a b t w u) (o : Obj) : Trio a b t w (u.alloc o) := h.after (below_alloc (Below.refl _ _) o)
theorem Trio.set {a b t : Tn} {w u : World} (h : Trio a b t w u) (s : Tn) : Trio a b s w ((u.setCell ⟨w.heap.size + 1 + 1, 0, none⟩ (uV s.1)).setCell ⟨w.heap.size + 1 + 1, 1, none⟩ (uV s.2)) :=
  ⟨⟨(h.1.1.setCell (by simp; omega) _).setCell (by simp; omega) _, (h.1.2.1.other _ (by omega)).other _ (by omega), (h.1.2.2.other _ (by omega)).other _ (by omega)⟩, h.2.set s⟩
theorem bv_add' (x y : BitVec 64) : IntKind.u64.wrap ((x.toNat : Int) + (y.toNat : Int)) = ((x + y).toNat : Int) := by rw [IntKind.wrap_u64, bv_add]
theorem mask_int (k : Nat) (h : k ≤ 63) : IntKind.u64.wrap (IntKind.u64.wrap (2 ^ k) - 1) = 2 ^ k - 1 := by
  have h1 := pow_lt_64 k h
  have h2 := pow_le_64 k (by omega)
  rw [IntKind.wrap_u64, IntKind.wrap_u64, h1]
  omega
/-- The box of one argument, and behind it a result's. -/
def Duo (a t : Tn) (w u : World) : Prop := Below w.heap.size w u ∧ Box w.heap.size a u ∧ Box (w.heap.size + 1) t u
theorem Duo.new (a : Tn) (w : World) : Duo a (0#64, 0#64) w ((w.alloc (.cells #[uV a.1, uV a.2] 24)).alloc (.cells #[.int .u64 0, .int .u64 0] 24)) := Pair.new a (0#64, 0#64) w
theorem Duo.after {a t : Tn} {w u u' : World} (h : Duo a t w u) (k : Below u.heap.size u u') : Duo a t w u' := Pair.after h k
theorem Duo.set {a t : Tn} {w u : World} (h : Duo a t w u) (s : Tn) : Duo a s w ((u.setCell ⟨w.heap.size + 1, 0, none⟩ (uV s.1)).setCell ⟨w.heap.size + 1, 1, none⟩ (uV s.2)) :=
  ⟨(h.1.setCell (by simp) _).setCell (by simp) _, (h.2.1.other _ (by omega)).other _ (by omega), h.2.2.set s⟩
abbrev tBV (t : Tn) (ok : Bool) : Value := .tuple #[tV t, .bool ok]
/-- The boxes of mul: both arguments, the result, and what has come together so far. -/
def Quad (a b t : Tn) (w : World) (g : Nat) (u : World) : Prop := Trio a b (0#64, 0#64) w u ∧ w.heap.size + 1 + 1 < g ∧ Box g t u
theorem Quad.after {a b t : Tn} {w u u' : World} {g : Nat} (h : Quad a b t w g u) (k : Below u.heap.size u u') : Quad a b t w g u' := ⟨h.1.after k, h.2.1, h.2.2.after k⟩
theorem Quad.set {a b t : Tn} {w u : World} {g : Nat} (h : Quad a b t w g u) (s : Tn) : Quad a b s w g ((u.setCell ⟨g, 0, none⟩ (uV s.1)).setCell ⟨g, 1, none⟩ (uV s.2)) := by
  obtain ⟨⟨⟨h1, h2, h3⟩, h4⟩, h5, h6⟩ := h
  exact ⟨⟨⟨(h1.setCell (by simp; omega) _).setCell (by simp; omega) _, (h2.other _ (by omega)).other _ (by omega), (h3.other _ (by omega)).other _ (by omega)⟩, (h4.other _ (by omega)).other _ (by omega)⟩, h5, h6.set s⟩
end Go.Proofs.Ytdgckjkdimnpoaa
