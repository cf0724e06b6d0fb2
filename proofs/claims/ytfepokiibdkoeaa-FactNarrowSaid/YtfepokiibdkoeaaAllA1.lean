/-
  Layer 6: what its laws share: plain numbers, the program's functions, the document's own Settle, Join, Cut.
  Conditions: those that each theorem states.
-/
import Derived.Test.YtfepokiibdkoeaaRows
import Derived.WalkKit
import Derived.WalkSpells
import Derived.WalkLawsBesides
import Derived.Deep.QuietTactic
import Derived.BigQuiet
import Derived.Outline
import Derived.Below
import Derived.WalkSmall
import Derived.Lib.Hide
import Derived.Laws.BitsAllLaws
import Derived.Lib.BitFns
import Derived.LoopTactic
import Derived.Deep.RegionWith
import Derived.StillTailTactics

/-
  Small things that the walks from layer 3 on share: endings that are equal, 'Below' from call to call, rounds of a loop.
  Conditions: none.
-/
namespace Go.Proofs.Ytfepokiibdkoeaa
open Go.RowKit

theorem end_int {k : IntKind} {a b : Int} (h : a = b) : Ending.returned (.int k a) = .returned (.int k b) := by rw [h]
theorem end_bool {a b : Bool} (h : a = b) : Ending.returned (.bool a) = .returned (.bool b) := by rw [h]
theorem end_pair {a b c d : Value} (h : a = b) (h' : c = d) : Ending.returned (.tuple #[a, c]) = .returned (.tuple #[b, d]) := by rw [h, h']

/-- Two steps, each of which turns nothing that was there ahead of it. -/
theorem below_next {B : Nat} {a b c : World} (h : Below B a b) (hB : B ≤ b.heap.size) (k : Below b.heap.size b c) : Below B a c := h.trans (k.mono hB)
theorem below_next' {a b c : World} (h : Below a.heap.size a b) (k : Below b.heap.size b c) : Below a.heap.size a c := h.trans (k.mono h.size)

/-- A cell of a block that was laid in w0, in a later world. -/
theorem cell_lit {w0 w : World} {cs : Array Value} {t : TypeId} (h : Below (w0.heap.size + 1) (w0.alloc (.cells cs t)) w) (k : Nat) : w.cell? ⟨w0.heap.size, k, none⟩ = cs[k]? :=
  (h.cell (p := ⟨w0.heap.size, k, none⟩) (Nat.lt_succ_self _)).trans (World.cell?_alloc_new w0 cs t k)

end Go.Proofs.Ytfepokiibdkoeaa


/-
  Plain numbers: what is known of a number's bits, and what arithmetic makes of it. No program is named here.
-/
namespace Go.Proofs.Ytfepokiibdkoeaa
open Go Go.RowKit
set_option linter.unusedVariables false

/-- A number of 64 bits, as a value. -/
abbrev uV (x : BitVec 64) : Value := .int .u64 (x.toNat : Int)

theorem bv_of {a : Int} (h : 0 ≤ a ∧ a ≤ 18446744073709551615) : ∃ x : BitVec 64, a = (x.toNat : Int) := by
  refine ⟨BitVec.ofInt 64 a, ?_⟩
  rw [BitVec.toNat_ofInt]
  omega
theorem bv_lt (x : BitVec 64) : x.toNat < 18446744073709551616 := x.isLt
theorem bv_rng (x : BitVec 64) : 0 ≤ (x.toNat : Int) ∧ (x.toNat : Int) ≤ 18446744073709551615 := by have := bv_lt x; omega
theorem bv_and (x y : BitVec 64) : bits .and .u64 (x.toNat : Int) (y.toNat : Int) = ((x &&& y).toNat : Int) := by
  rw [u64_and_nat _ _ (bv_lt x) (bv_lt y), BitVec.toNat_and]
theorem bv_or (x y : BitVec 64) : bits .or .u64 (x.toNat : Int) (y.toNat : Int) = ((x ||| y).toNat : Int) := by
  rw [u64_or_nat _ _ (bv_lt x) (bv_lt y), BitVec.toNat_or]
theorem bv_xor (x y : BitVec 64) : bits .xor .u64 (x.toNat : Int) (y.toNat : Int) = ((x ^^^ y).toNat : Int) := by
  rw [u64_xor_nat _ _ (bv_lt x) (bv_lt y), BitVec.toNat_xor]
theorem bv_andNot (x y : BitVec 64) : bits .andNot .u64 (x.toNat : Int) (y.toNat : Int) = ((x &&& ~~~y).toNat : Int) := by
  rw [u64_andNot_nat _ _ (bv_lt x) (bv_lt y), BitVec.toNat_and, BitVec.toNat_not]
theorem bv_add (x y : BitVec 64) : ((x.toNat : Int) + (y.toNat : Int)) % 18446744073709551616 = ((x + y).toNat : Int) := by
  rw [BitVec.toNat_add]; omega
theorem bv_sub (x y : BitVec 64) : ((x.toNat : Int) - (y.toNat : Int)) % 18446744073709551616 = ((x - y).toNat : Int) := by
  rw [BitVec.toNat_sub]; have := bv_lt x; have := bv_lt y; omega
theorem bv_mul (x y : BitVec 64) : ((x.toNat : Int) * (y.toNat : Int)) % 18446744073709551616 = ((x * y).toNat : Int) := by
  rw [BitVec.toNat_mul]; simp
theorem bv_shl (x : BitVec 64) (k : Nat) : ((x.toNat : Int) * 2 ^ k) % 18446744073709551616 = ((x <<< k).toNat : Int) := by
  rw [BitVec.toNat_shiftLeft, Nat.shiftLeft_eq]; simp
theorem bv_shr (x : BitVec 64) (k : Nat) : (x.toNat : Int) / 2 ^ k = ((x >>> k).toNat : Int) := by
  rw [BitVec.toNat_ushiftRight, Nat.shiftRight_eq_div_pow]; simp
theorem bv_beq (x y : BitVec 64) : ((x.toNat : Int) == (y.toNat : Int)) = (x == y) := by
  rw [Bool.eq_iff_iff, beq_iff_eq, beq_iff_eq]
  exact ⟨fun h => BitVec.eq_of_toNat_eq (by omega), fun h => by rw [h]⟩
theorem bv_eq0 (x : BitVec 64) : ((x.toNat : Int) == 0) = (x == 0#64) := bv_beq x 0#64
theorem bv_ne0 (x : BitVec 64) : ((x.toNat : Int) != 0) = !(x == 0#64) := by
  show (!((x.toNat : Int) == 0)) = _
  rw [bv_eq0]

/-! What may be known: a value, and a mask of what is not. -/
abbrev Tn := BitVec 64 × BitVec 64
abbrev tV (t : Tn) : Value := .agg #[uV t.1, uV t.2]
def tR (t : Tn) : Bool := t.1 &&& t.2 == 0#64
def tRR (a b : Tn) : Bool := tR a && tR b
def tH (t : Tn) (n : BitVec 64) : Bool := n &&& ~~~t.2 == t.1
def tW (a b : Tn) : Bool := tR a && (a.2 &&& ~~~b.2 == 0#64) && tH b a.1
def tMade (v m : BitVec 64) : Tn := (v &&& ~~~m, m)
def tJ (a b : Tn) : Tn := if tRR a b then tMade a.1 (a.2 ||| b.2 ||| (a.1 ^^^ b.1)) else (0#64, 0#64)
def tMok (a b : Tn) : Bool := tRR a b && ((a.1 ^^^ b.1) &&& ~~~(a.2 ||| b.2) == 0#64)
def tM (a b : Tn) : Tn := if tMok a b then tMade (a.1 ||| b.1) (a.2 &&& b.2) else (0#64, 0#64)
def tAdd (a b : Tn) : Tn := tMade (a.1 + b.1) (((a.2 + b.2 + (a.1 + b.1)) ^^^ (a.1 + b.1)) ||| a.2 ||| b.2)
def tSub (a b : Tn) : Tn := tMade (a.1 - b.1) (((a.1 - b.1 + a.2) ^^^ (a.1 - b.1 - b.2)) ||| a.2 ||| b.2)
def tStep (a b : Tn) (i : Nat) (t : Tn) : Tn :=
  if b.1.getLsbD i then tAdd t (a.1 <<< i, a.2 <<< i) else if b.2.getLsbD i then tAdd t (0#64, (a.1 ||| a.2) <<< i) else t
def tMulTo (a b : Tn) : Nat → Tn
  | 0 => (0#64, 0#64)
  | i + 1 => tStep a b i (tMulTo a b i)
def tAnd (a b : Tn) : Tn := (a.1 &&& b.1, ((a.1 ||| a.2) &&& (b.1 ||| b.2)) &&& ~~~(a.1 &&& b.1))
def tOr (a b : Tn) : Tn := (a.1 ||| b.1, (a.2 ||| b.2) &&& ~~~(a.1 ||| b.1))
def tXor (a b : Tn) : Tn := tMade (a.1 ^^^ b.1) (a.2 ||| b.2)
def tLsh (a : Tn) (k : Nat) : Tn := (a.1 <<< k, a.2 <<< k)
def tRsh (a : Tn) (k : Nat) : Tn := (a.1 >>> k, a.2 >>> k)
def tKnown (b : Tn) : Bool := b.2 == 0#64 && decide (b.1.toNat < 64)
def tDok (op : Int) (a b : Tn) : Bool :=
  tRR a b && (op == 0 || op == 16 || op == 32 || op == 80 || op == 64 || op == 160 || ((op == 96 || op == 112) && tKnown b))
def tDo' (op : Int) (a b : Tn) : Tn :=
  if op = 0 then tAdd a b else if op = 16 then tSub a b else if op = 32 then tMulTo a b 64 else if op = 80 then tAnd a b else if op = 64 then tOr a b
  else if op = 160 then tXor a b else if op = 96 then tLsh a b.1.toNat else if op = 112 then tRsh a b.1.toNat else (0#64, 0#64)
def tDo (op : Int) (a b : Tn) : Tn := if tDok op a b then tDo' op a b else (0#64, 0#64)
def tLow (x : BitVec 64) (k : Nat) : BitVec 64 := BitVec.ofNat 64 (x.toNat % 2 ^ k)
def tC (t : Tn) (width : Int) : Tn :=
  if tR t then (if width < 1 ∨ 63 < width then t else (tLow t.1 width.toNat, tLow t.2 width.toNat)) else (0#64, 0#64)

end Go.Proofs.Ytfepokiibdkoeaa


/-
  What the laws of known bits say, of plain numbers: bit by bit, and carries between the least and the most. No program is named here.
-/
namespace Go.Proofs.Ytfepokiibdkoeaa
open Go Go.RowKit
set_option linter.unusedVariables false

theorem bv_ext {x y : BitVec 64} : x = y ↔ ∀ i, i < 64 → x.getLsbD i = y.getLsbD i := ⟨fun h i _ => by rw [h], BitVec.eq_of_getLsbD_eq⟩
theorem andn_bit (x y : BitVec 64) {i : Nat} (hi : i < 64) : (x &&& ~~~y).getLsbD i = (x.getLsbD i && !y.getLsbD i) := by
  rw [BitVec.getLsbD_and, BitVec.getLsbD_not]; simp [hi]
theorem zero_bit (i : Nat) : (0#64).getLsbD i = false := BitVec.getLsbD_zero
theorem tR_iff (t : Tn) : tR t = true ↔ ∀ i, i < 64 → (t.1.getLsbD i && t.2.getLsbD i) = false := by
  unfold tR
  rw [beq_iff_eq, bv_ext]
  simp only [BitVec.getLsbD_and, zero_bit]
theorem tH_iff (t : Tn) (n : BitVec 64) : tH t n = true ↔ ∀ i, i < 64 → (n.getLsbD i && !t.2.getLsbD i) = t.1.getLsbD i := by
  unfold tH
  rw [beq_iff_eq, bv_ext]
  constructor
  · intro h i hi; rw [← h i hi, andn_bit _ _ hi]
  · intro h i hi; rw [andn_bit _ _ hi, h i hi]
theorem tRR_iff (a b : Tn) : tRR a b = true ↔ tR a = true ∧ tR b = true := by unfold tRR; rw [Bool.and_eq_true]
theorem tW_iff (a b : Tn) : tW a b = true ↔ tR a = true ∧ ∀ i, i < 64 → (a.2.getLsbD i && !b.2.getLsbD i) = false ∧ (a.1.getLsbD i && !b.2.getLsbD i) = b.1.getLsbD i := by
  unfold tW
  rw [Bool.and_eq_true, Bool.and_eq_true, tH_iff, beq_iff_eq, bv_ext]
  constructor
  · rintro ⟨⟨h1, h2⟩, h3⟩
    exact ⟨h1, fun i hi => ⟨by rw [← andn_bit _ _ hi, h2 i hi, zero_bit], h3 i hi⟩⟩
  · rintro ⟨h1, h2⟩
    exact ⟨⟨h1, fun i hi => by rw [andn_bit _ _ hi, zero_bit, (h2 i hi).1]⟩, fun i hi => (h2 i hi).2⟩
theorem made_bit (v m : BitVec 64) {i : Nat} (hi : i < 64) : (tMade v m).1.getLsbD i = (v.getLsbD i && !m.getLsbD i) ∧ (tMade v m).2.getLsbD i = m.getLsbD i := ⟨andn_bit v m hi, rfl⟩
theorem made_right (v m : BitVec 64) : tR (tMade v m) = true := by
  rw [tR_iff]
  intro i hi
  obtain ⟨e1, e2⟩ := made_bit v m hi
  rw [e1, e2]
  cases v.getLsbD i <;> cases m.getLsbD i <;> rfl
/-- A number that may be what is known of it. -/
def pick (v m n : BitVec 64) : BitVec 64 := (v &&& ~~~m) ||| (n &&& m)
theorem pick_has (v m n : BitVec 64) : tH (tMade v m) (pick v m n) = true := by
  rw [tH_iff]
  intro i hi
  obtain ⟨e1, e2⟩ := made_bit v m hi
  rw [e1, e2]
  unfold pick
  rw [BitVec.getLsbD_or, andn_bit _ _ hi, BitVec.getLsbD_and]
  cases v.getLsbD i <;> cases m.getLsbD i <;> cases n.getLsbD i <;> rfl

/-! Carries. -/
theorem sub_mod (x y : BitVec 64) (h : x &&& y = x) (i : Nat) : x.toNat % 2 ^ i ≤ y.toNat % 2 ^ i := by
  have e : x.toNat % 2 ^ i = (x.toNat % 2 ^ i) &&& (y.toNat % 2 ^ i) := by
    rw [← Nat.and_mod_two_pow, ← BitVec.toNat_and, h]
  rw [e]
  exact Nat.and_le_right
theorem add_bit (x y : BitVec 64) {i : Nat} (hi : i < 64) : (x + y).getLsbD i = (x.getLsbD i ^^ (y.getLsbD i ^^ decide (2 ^ i ≤ x.toNat % 2 ^ i + y.toNat % 2 ^ i))) := by
  rw [BitVec.getLsbD_add hi]
  unfold BitVec.carry
  rfl
theorem mod_mod_pow (n : Nat) {i : Nat} (hi : i < 64) : n % 2 ^ 64 % 2 ^ i = n % 2 ^ i := Nat.mod_mod_of_dvd n (Nat.pow_dvd_pow 2 (by omega))
theorem sub_bit (x y : BitVec 64) {i : Nat} (hi : i < 64) : (x - y).getLsbD i = (x.getLsbD i ^^ (y.getLsbD i ^^ decide (x.toNat % 2 ^ i < y.toNat % 2 ^ i))) := by
  have hz : x = (x - y) + y := (BitVec.sub_add_cancel x y).symm
  have e1 := add_bit (x - y) y hi
  rw [← hz] at e1
  have e2 : x.toNat % 2 ^ i = ((x - y).toNat % 2 ^ i + y.toNat % 2 ^ i) % 2 ^ i := by
    conv => lhs; rw [hz]
    rw [BitVec.toNat_add, mod_mod_pow _ hi, Nat.add_mod]
  have hp : 0 < 2 ^ i := Nat.two_pow_pos i
  have l1 := Nat.mod_lt (x - y).toNat hp
  have l2 := Nat.mod_lt y.toNat hp
  have e3 : decide (2 ^ i ≤ (x - y).toNat % 2 ^ i + y.toNat % 2 ^ i) = decide (x.toNat % 2 ^ i < y.toNat % 2 ^ i) := by
    apply decide_eq_decide.mpr
    rw [e2]
    generalize (x - y).toNat % 2 ^ i = p at *
    generalize y.toNat % 2 ^ i = q at *
    generalize 2 ^ i = k at *
    by_cases hk : k ≤ p + q
    · rw [Nat.mod_eq_sub_mod hk, Nat.mod_eq_of_lt (by omega)]; omega
    · rw [Nat.mod_eq_of_lt (by omega)]; omega
  rw [e3] at e1
  rw [e1]
  cases (x - y).getLsbD i <;> cases y.getLsbD i <;> cases decide (x.toNat % 2 ^ i < y.toNat % 2 ^ i) <;> rfl

/-- The most that may be. -/
def most (t : Tn) : BitVec 64 := t.1 ||| t.2
theorem most_add (t : Tn) (h : tR t = true) : t.1 + t.2 = most t := by
  unfold tR at h
  rw [beq_iff_eq] at h
  exact BitVec.add_eq_or_of_and_eq_zero _ _ h
/-- What may be lies between the least and the most, in its lowest bits too. -/
theorem between (t : Tn) (n : BitVec 64) (hr : tR t = true) (h : tH t n = true) (i : Nat) : t.1.toNat % 2 ^ i ≤ n.toNat % 2 ^ i ∧ n.toNat % 2 ^ i ≤ (most t).toNat % 2 ^ i := by
  rw [tR_iff] at hr
  rw [tH_iff] at h
  constructor
  · apply sub_mod
    rw [bv_ext]
    intro j hj
    have h1 := hr j hj
    have h2 := h j hj
    rw [BitVec.getLsbD_and]
    revert h1 h2
    cases t.1.getLsbD j <;> cases t.2.getLsbD j <;> cases n.getLsbD j <;> simp
  · apply sub_mod
    rw [bv_ext]
    intro j hj
    have h1 := hr j hj
    have h2 := h j hj
    unfold most
    rw [BitVec.getLsbD_and, BitVec.getLsbD_or]
    revert h1 h2
    cases t.1.getLsbD j <;> cases t.2.getLsbD j <;> cases n.getLsbD j <;> simp

theorem add_sound (a b : Tn) (x y : BitVec 64) (ra : tR a = true) (rb : tR b = true) (ha : tH a x = true) (hb : tH b y = true) : tH (tAdd a b) (x + y) = true := by
  rw [tH_iff]
  intro i hi
  have es : a.2 + b.2 + (a.1 + b.1) = most a + most b := by
    rw [← most_add a ra, ← most_add b rb]
    ac_rfl
  obtain ⟨e1, e2⟩ := made_bit (a.1 + b.1) (((a.2 + b.2 + (a.1 + b.1)) ^^^ (a.1 + b.1)) ||| a.2 ||| b.2) hi
  unfold tAdd
  rw [e1, e2, es]
  simp only [BitVec.getLsbD_or, BitVec.getLsbD_xor]
  rw [add_bit _ _ hi, add_bit _ _ hi, add_bit _ _ hi]
  obtain ⟨l1, l2⟩ := between a x ra ha i
  obtain ⟨l3, l4⟩ := between b y rb hb i
  rw [tR_iff] at ra rb
  rw [tH_iff] at ha hb
  have h1 := ra i hi
  have h2 := rb i hi
  have h3 := ha i hi
  have h4 := hb i hi
  unfold most at *
  simp only [BitVec.getLsbD_or]
  generalize a.1.toNat % 2 ^ i = p1 at *
  generalize b.1.toNat % 2 ^ i = p2 at *
  generalize x.toNat % 2 ^ i = q1 at *
  generalize y.toNat % 2 ^ i = q2 at *
  generalize (a.1 ||| a.2).toNat % 2 ^ i = r1 at *
  generalize (b.1 ||| b.2).toNat % 2 ^ i = r2 at *
  generalize 2 ^ i = k at *
  have hc : (decide (k ≤ p1 + p2) = true → decide (k ≤ q1 + q2) = true) ∧ (decide (k ≤ q1 + q2) = true → decide (k ≤ r1 + r2) = true) := by
    simp only [decide_eq_true_eq]; omega
  generalize decide (k ≤ p1 + p2) = c1 at *
  generalize decide (k ≤ q1 + q2) = c2 at *
  generalize decide (k ≤ r1 + r2) = c3 at *
  revert hc h1 h2 h3 h4
  clear l1 l2 l3 l4 es e1 e2 ra rb ha hb
  generalize a.1.getLsbD i = u1
  generalize a.2.getLsbD i = u2
  generalize b.1.getLsbD i = u3
  generalize b.2.getLsbD i = u4
  generalize x.getLsbD i = u5
  generalize y.getLsbD i = u6
  cases u1 <;> cases u2 <;> cases u3 <;> cases u4 <;> cases u5 <;> cases u6 <;> cases c1 <;> cases c2 <;> cases c3 <;> simp

theorem sub_sound (a b : Tn) (x y : BitVec 64) (ra : tR a = true) (rb : tR b = true) (ha : tH a x = true) (hb : tH b y = true) : tH (tSub a b) (x - y) = true := by
  rw [tH_iff]
  intro i hi
  have es : a.1 - b.1 + a.2 = most a - b.1 := by
    rw [← most_add a ra, BitVec.sub_eq_add_neg, BitVec.sub_eq_add_neg]
    ac_rfl
  have et : a.1 - b.1 - b.2 = a.1 - most b := by
    rw [← most_add b rb, BitVec.sub_eq_add_neg, BitVec.sub_eq_add_neg, BitVec.sub_eq_add_neg, BitVec.neg_add, BitVec.sub_eq_add_neg]
    ac_rfl
  obtain ⟨e1, e2⟩ := made_bit (a.1 - b.1) (((a.1 - b.1 + a.2) ^^^ (a.1 - b.1 - b.2)) ||| a.2 ||| b.2) hi
  unfold tSub
  rw [e1, e2, es, et]
  simp only [BitVec.getLsbD_or, BitVec.getLsbD_xor]
  rw [sub_bit _ _ hi, sub_bit _ _ hi, sub_bit _ _ hi, sub_bit _ _ hi]
  obtain ⟨l1, l2⟩ := between a x ra ha i
  obtain ⟨l3, l4⟩ := between b y rb hb i
  rw [tR_iff] at ra rb
  rw [tH_iff] at ha hb
  have h1 := ra i hi
  have h2 := rb i hi
  have h3 := ha i hi
  have h4 := hb i hi
  unfold most at *
  simp only [BitVec.getLsbD_or]
  generalize a.1.toNat % 2 ^ i = p1 at *
  generalize b.1.toNat % 2 ^ i = p2 at *
  generalize x.toNat % 2 ^ i = q1 at *
  generalize y.toNat % 2 ^ i = q2 at *
  generalize (a.1 ||| a.2).toNat % 2 ^ i = r1 at *
  generalize (b.1 ||| b.2).toNat % 2 ^ i = r2 at *
  have hc : (decide (r1 < p2) = true → decide (q1 < q2) = true) ∧ (decide (q1 < q2) = true → decide (p1 < r2) = true) ∧ (decide (r1 < p2) = true → decide (p1 < p2) = true) ∧ (decide (p1 < p2) = true → decide (p1 < r2) = true) := by
    simp only [decide_eq_true_eq]; omega
  generalize decide (r1 < p2) = c1 at *
  generalize decide (q1 < q2) = c2 at *
  generalize decide (p1 < r2) = c3 at *
  generalize decide (p1 < p2) = c4 at *
  revert hc h1 h2 h3 h4
  clear l1 l2 l3 l4 es et e1 e2 ra rb ha hb
  generalize a.1.getLsbD i = u1
  generalize a.2.getLsbD i = u2
  generalize b.1.getLsbD i = u3
  generalize b.2.getLsbD i = u4
  generalize x.getLsbD i = u5
  generalize y.getLsbD i = u6
  cases u1 <;> cases u2 <;> cases u3 <;> cases u4 <;> cases u5 <;> cases u6 <;> cases c1 <;> cases c2 <;> cases c3 <;> cases c4 <;> simp

theorem add_right (a b : Tn) : tR (tAdd a b) = true := made_right _ _

/-! Times: place by place. -/
theorem shl_bit (x : BitVec 64) (k i : Nat) (hi : i < 64) : (x <<< k).getLsbD i = (!decide (i < k) && x.getLsbD (i - k)) := by
  rw [BitVec.getLsbD_shiftLeft]; simp [hi]
theorem lsh_right (a : Tn) (k : Nat) (ra : tR a = true) : tR (tLsh a k) = true := by
  rw [tR_iff] at *
  intro i hi
  show ((a.1 <<< k).getLsbD i && (a.2 <<< k).getLsbD i) = false
  rw [shl_bit _ _ _ hi, shl_bit _ _ _ hi]
  have h := ra (i - k) (by omega)
  revert h
  cases a.1.getLsbD (i - k) <;> cases a.2.getLsbD (i - k) <;> cases decide (i < k) <;> simp
theorem lsh_sound (a : Tn) (x : BitVec 64) (k : Nat) (ha : tH a x = true) : tH (tLsh a k) (x <<< k) = true := by
  rw [tH_iff] at *
  intro i hi
  show ((x <<< k).getLsbD i && !(a.2 <<< k).getLsbD i) = (a.1 <<< k).getLsbD i
  rw [shl_bit _ _ _ hi, shl_bit _ _ _ hi, shl_bit _ _ _ hi]
  have h := ha (i - k) (by omega)
  revert h
  cases a.1.getLsbD (i - k) <;> cases a.2.getLsbD (i - k) <;> cases x.getLsbD (i - k) <;> cases decide (i < k) <;> simp
theorem rsh_right (a : Tn) (k : Nat) (ra : tR a = true) : tR (tRsh a k) = true := by
  rw [tR_iff] at *
  intro i hi
  show ((a.1 >>> k).getLsbD i && (a.2 >>> k).getLsbD i) = false
  rw [BitVec.getLsbD_ushiftRight, BitVec.getLsbD_ushiftRight]
  by_cases h : k + i < 64
  · exact ra _ h
  · rw [BitVec.getLsbD_of_ge _ _ (by omega)]; rfl
theorem rsh_sound (a : Tn) (x : BitVec 64) (k : Nat) (ha : tH a x = true) : tH (tRsh a k) (x >>> k) = true := by
  rw [tH_iff] at *
  intro i hi
  show ((x >>> k).getLsbD i && !(a.2 >>> k).getLsbD i) = (a.1 >>> k).getLsbD i
  rw [BitVec.getLsbD_ushiftRight, BitVec.getLsbD_ushiftRight, BitVec.getLsbD_ushiftRight]
  by_cases h : k + i < 64
  · exact ha _ h
  · rw [BitVec.getLsbD_of_ge x _ (by omega), BitVec.getLsbD_of_ge a.1 _ (by omega)]; rfl
theorem maybe_has (a : Tn) (x : BitVec 64) (k : Nat) (z : BitVec 64) (ha : tH a x = true) (hz : z = 0#64 ∨ z = x <<< k) : tH (0#64, (a.1 ||| a.2) <<< k) z = true := by
  rw [tH_iff] at *
  intro i hi
  show (z.getLsbD i && !((a.1 ||| a.2) <<< k).getLsbD i) = (0#64).getLsbD i
  rw [shl_bit _ _ _ hi, BitVec.getLsbD_or, zero_bit]
  have h := ha (i - k) (by omega)
  rcases hz with rfl | rfl
  · rw [zero_bit]; rfl
  · rw [shl_bit _ _ _ hi]
    revert h
    cases a.1.getLsbD (i - k) <;> cases a.2.getLsbD (i - k) <;> cases x.getLsbD (i - k) <;> cases decide (i < k) <;> simp
theorem zero_right (m : BitVec 64) : tR (0#64, m) = true := by
  rw [tR_iff]; intro i _; show ((0#64).getLsbD i && _) = false; rw [zero_bit]; rfl

/-- A number's lowest bits. -/
def low (y : BitVec 64) (i : Nat) : BitVec 64 := BitVec.ofNat 64 (y.toNat % 2 ^ i)
theorem low_succ (y : BitVec 64) (i : Nat) : low y (i + 1) = low y i + (if y.getLsbD i then BitVec.twoPow 64 i else 0#64) := by
  have e : y.toNat % 2 ^ (i + 1) = y.toNat % 2 ^ i + (if y.getLsbD i then 2 ^ i else 0) := by
    rw [Nat.pow_succ, Nat.mod_mul]
    congr 1
    show 2 ^ i * (y.toNat / 2 ^ i % 2) = if y.toNat.testBit i then 2 ^ i else 0
    rw [Nat.testBit_eq_decide_div_mod_eq]
    have h := Nat.mod_two_eq_zero_or_one (y.toNat / 2 ^ i)
    rcases h with h | h <;> simp [h]
  unfold low
  rw [e, BitVec.ofNat_add]
  congr 1
  split
  · apply BitVec.eq_of_toNat_eq
    rw [BitVec.toNat_twoPow, BitVec.toNat_ofNat]
  · rfl
theorem low_all (y : BitVec 64) : low y 64 = y := by
  unfold low
  rw [Nat.mod_eq_of_lt y.isLt]
  exact BitVec.ofNat_toNat ..
theorem low_none (y : BitVec 64) : low y 0 = 0#64 := by
  unfold low
  rw [Nat.pow_zero, Nat.mod_one]

theorem step_right (a b t : Tn) (i : Nat) (h : tR t = true) : tR (tStep a b i t) = true := by
  unfold tStep
  split
  · exact add_right _ _
  · split
    · exact add_right _ _
    · exact h
theorem mulTo_right (a b : Tn) : ∀ i, tR (tMulTo a b i) = true
  | 0 => zero_right _
  | i + 1 => step_right a b _ i (mulTo_right a b i)
theorem mul_sound (a b : Tn) (x y : BitVec 64) (ra : tR a = true) (rb : tR b = true) (ha : tH a x = true) (hb : tH b y = true) : ∀ i, i ≤ 64 → tH (tMulTo a b i) (x * low y i) = true
  | 0, _ => by
    rw [low_none, BitVec.mul_zero]
    rw [tH_iff]
    intro j _
    show ((0#64).getLsbD j && _) = (0#64).getLsbD j
    rw [zero_bit]; rfl
  | i + 1, hi => by
    have ih := mul_sound a b x y ra rb ha hb i (by omega)
    have hr := mulTo_right a b i
    have e : x * low y (i + 1) = x * low y i + (if y.getLsbD i then x <<< i else 0#64) := by
      rw [low_succ, BitVec.mul_add]
      congr 1
      split
      · exact (BitVec.shiftLeft_eq_mul_twoPow _ _).symm
      · exact BitVec.mul_zero
    rw [e]
    show tH (tStep a b i (tMulTo a b i)) _ = true
    rw [tR_iff] at rb
    rw [tH_iff] at hb
    have h1 := rb i (by omega)
    have h2 := hb i (by omega)
    unfold tStep
    by_cases c1 : b.1.getLsbD i = true
    · rw [if_pos c1]
      rw [c1] at h1 h2
      have hy : y.getLsbD i = true := by revert h2; cases y.getLsbD i <;> simp
      rw [if_pos hy]
      exact add_sound _ _ _ _ hr (lsh_right a i ra) ih (lsh_sound a x i ha)
    · rw [if_neg c1]
      have c1' : b.1.getLsbD i = false := by simpa using c1
      by_cases c2 : b.2.getLsbD i = true
      · rw [if_pos c2]
        refine add_sound _ _ _ _ hr (zero_right _) ih (maybe_has a x i _ ha ?_)
        split
        · exact .inr rfl
        · exact .inl rfl
      · rw [if_neg c2]
        have c2' : b.2.getLsbD i = false := by simpa using c2
        rw [c1', c2'] at h2
        have hy : y.getLsbD i = false := by revert h2; cases y.getLsbD i <;> simp
        rw [hy, if_neg (by simp), BitVec.add_zero]
        exact ih

end Go.Proofs.Ytfepokiibdkoeaa


/-
  What the laws of known bits say, of plain numbers: what is both, either, within; and what arithmetic makes. No program is named here.
-/
namespace Go.Proofs.Ytfepokiibdkoeaa
open Go Go.RowKit
set_option linter.unusedVariables false

theorem and_all (x : BitVec 64) : x &&& ~~~0#64 = x := by
  rw [bv_ext]
  intro i hi
  rw [andn_bit _ _ hi, zero_bit]
  simp
theorem rr_of {a b : Tn} (ra : tR a = true) (rb : tR b = true) : tRR a b = true := by unfold tRR; rw [ra, rb]; rfl
theorem join_eq {a b : Tn} (ra : tR a = true) (rb : tR b = true) : tJ a b = tMade a.1 (a.2 ||| b.2 ||| (a.1 ^^^ b.1)) := by unfold tJ; rw [rr_of ra rb, if_pos rfl]
theorem join_right {a b : Tn} (ra : tR a = true) (rb : tR b = true) : tR (tJ a b) = true := by rw [join_eq ra rb]; exact made_right _ _
theorem join_bit {a b : Tn} (ra : tR a = true) (rb : tR b = true) {i : Nat} (hi : i < 64) :
    (tJ a b).2.getLsbD i = (a.2.getLsbD i || b.2.getLsbD i || (a.1.getLsbD i ^^ b.1.getLsbD i)) ∧ (tJ a b).1.getLsbD i = (a.1.getLsbD i && !(a.2.getLsbD i || b.2.getLsbD i || (a.1.getLsbD i ^^ b.1.getLsbD i))) := by
  rw [join_eq ra rb]
  obtain ⟨e1, e2⟩ := made_bit a.1 (a.2 ||| b.2 ||| (a.1 ^^^ b.1)) hi
  rw [e1, e2, BitVec.getLsbD_or, BitVec.getLsbD_or, BitVec.getLsbD_xor]
  exact ⟨rfl, rfl⟩

/-! Either. -/
theorem join_has {a b : Tn} (ra : tR a = true) (rb : tR b = true) {x : BitVec 64} (h : tH a x = true) : tH (tJ a b) x = true := by
  rw [tH_iff] at *
  intro i hi
  obtain ⟨e1, e2⟩ := join_bit ra rb hi
  rw [e1, e2]
  have h1 := (tR_iff a).mp ra i hi
  have h2 := (tR_iff b).mp rb i hi
  have h3 := h i hi
  revert h1 h2 h3
  generalize a.1.getLsbD i = u1
  generalize a.2.getLsbD i = u2
  generalize b.1.getLsbD i = u3
  generalize b.2.getLsbD i = u4
  generalize x.getLsbD i = u5
  cases u1 <;> cases u2 <;> cases u3 <;> cases u4 <;> cases u5 <;> simp
theorem join_left {a b : Tn} (ra : tR a = true) (rb : tR b = true) : tW a (tJ a b) = true := by
  rw [tW_iff]
  refine ⟨ra, fun i hi => ?_⟩
  obtain ⟨e1, e2⟩ := join_bit ra rb hi
  rw [e1, e2]
  have h1 := (tR_iff a).mp ra i hi
  have h2 := (tR_iff b).mp rb i hi
  revert h1 h2
  generalize a.1.getLsbD i = u1
  generalize a.2.getLsbD i = u2
  generalize b.1.getLsbD i = u3
  generalize b.2.getLsbD i = u4
  cases u1 <;> cases u2 <;> cases u3 <;> cases u4 <;> simp
theorem pair_ext {a b : Tn} (h : ∀ i, i < 64 → a.1.getLsbD i = b.1.getLsbD i ∧ a.2.getLsbD i = b.2.getLsbD i) : a = b :=
  Prod.ext (bv_ext.mpr fun i hi => (h i hi).1) (bv_ext.mpr fun i hi => (h i hi).2)
theorem join_comm {a b : Tn} (ra : tR a = true) (rb : tR b = true) : tJ b a = tJ a b := by
  refine pair_ext fun i hi => ?_
  obtain ⟨e1, e2⟩ := join_bit ra rb hi
  obtain ⟨e3, e4⟩ := join_bit rb ra hi
  rw [e1, e2, e3, e4]
  have h1 := (tR_iff a).mp ra i hi
  have h2 := (tR_iff b).mp rb i hi
  revert h1 h2
  generalize a.1.getLsbD i = u1
  generalize a.2.getLsbD i = u2
  generalize b.1.getLsbD i = u3
  generalize b.2.getLsbD i = u4
  cases u1 <;> cases u2 <;> cases u3 <;> cases u4 <;> simp
theorem join_right_of {a b : Tn} (ra : tR a = true) (rb : tR b = true) : tW b (tJ a b) = true := by rw [← join_comm ra rb]; exact join_left rb ra
theorem join_self {a : Tn} (ra : tR a = true) : tJ a a = a := by
  refine pair_ext fun i hi => ?_
  obtain ⟨e1, e2⟩ := join_bit ra ra hi
  rw [e1, e2]
  have h1 := (tR_iff a).mp ra i hi
  revert h1
  generalize a.1.getLsbD i = u1
  generalize a.2.getLsbD i = u2
  cases u1 <;> cases u2 <;> simp
theorem join_least {a b c : Tn} (ra : tR a = true) (rb : tR b = true) (rc : tR c = true) : tW (tJ a b) c = (tW a c && tW b c) := by
  rw [Bool.eq_iff_iff, Bool.and_eq_true, tW_iff, tW_iff, tW_iff]
  have key : ∀ i, i < 64 → (((tJ a b).2.getLsbD i && !c.2.getLsbD i) = false ∧ ((tJ a b).1.getLsbD i && !c.2.getLsbD i) = c.1.getLsbD i ↔
      ((a.2.getLsbD i && !c.2.getLsbD i) = false ∧ (a.1.getLsbD i && !c.2.getLsbD i) = c.1.getLsbD i) ∧ ((b.2.getLsbD i && !c.2.getLsbD i) = false ∧ (b.1.getLsbD i && !c.2.getLsbD i) = c.1.getLsbD i)) := by
    intro i hi
    obtain ⟨e1, e2⟩ := join_bit ra rb hi
    rw [e1, e2]
    have h1 := (tR_iff a).mp ra i hi
    have h2 := (tR_iff b).mp rb i hi
    have h3 := (tR_iff c).mp rc i hi
    revert h1 h2 h3
    generalize a.1.getLsbD i = u1
    generalize a.2.getLsbD i = u2
    generalize b.1.getLsbD i = u3
    generalize b.2.getLsbD i = u4
    generalize c.1.getLsbD i = u5
    generalize c.2.getLsbD i = u6
    cases u1 <;> cases u2 <;> cases u3 <;> cases u4 <;> cases u5 <;> cases u6 <;> simp
  constructor
  · rintro ⟨_, h⟩
    exact ⟨⟨ra, fun i hi => ((key i hi).mp (h i hi)).1⟩, ⟨rb, fun i hi => ((key i hi).mp (h i hi)).2⟩⟩
  · rintro ⟨⟨_, h1⟩, ⟨_, h2⟩⟩
    exact ⟨join_right ra rb, fun i hi => (key i hi).mpr ⟨h1 i hi, h2 i hi⟩⟩

/-! Within. -/
theorem within_has {a b : Tn} {x : BitVec 64} (hw : tW a b = true) (h : tH a x = true) : tH b x = true := by
  obtain ⟨ra, hw⟩ := (tW_iff a b).mp hw
  rw [tH_iff] at *
  intro i hi
  have h1 := (tR_iff a).mp ra i hi
  have h2 := h i hi
  have h3 := hw i hi
  revert h1 h2 h3
  generalize a.1.getLsbD i = u1
  generalize a.2.getLsbD i = u2
  generalize b.1.getLsbD i = u3
  generalize b.2.getLsbD i = u4
  generalize x.getLsbD i = u5
  cases u1 <;> cases u2 <;> cases u3 <;> cases u4 <;> cases u5 <;> simp
theorem within_on {a b c : Tn} (h1 : tW a b = true) (h2 : tW b c = true) : tW a c = true := by
  rw [tW_iff] at *
  refine ⟨h1.1, fun i hi => ?_⟩
  have k1 := h1.2 i hi
  have k2 := h2.2 i hi
  revert k1 k2
  generalize a.1.getLsbD i = u1
  generalize a.2.getLsbD i = u2
  generalize b.1.getLsbD i = u3
  generalize b.2.getLsbD i = u4
  generalize c.1.getLsbD i = u5
  generalize c.2.getLsbD i = u6
  cases u1 <;> cases u2 <;> cases u3 <;> cases u4 <;> cases u5 <;> cases u6 <;> simp
theorem within_self {a : Tn} (ra : tR a = true) : tW a a = true := by
  rw [tW_iff]
  refine ⟨ra, fun i hi => ?_⟩
  have h1 := (tR_iff a).mp ra i hi
  revert h1
  generalize a.1.getLsbD i = u1
  generalize a.2.getLsbD i = u2
  cases u1 <;> cases u2 <;> simp
theorem of_right (n : BitVec 64) : tR (n, 0#64) = true := by
  rw [tR_iff]
  intro i hi
  show (n.getLsbD i && (0#64).getLsbD i) = false
  rw [zero_bit, Bool.and_false]
theorem of_within (n : BitVec 64) (t : Tn) : tW (n, 0#64) t = tH t n := by
  rw [Bool.eq_iff_iff, tW_iff, tH_iff]
  constructor
  · rintro ⟨_, h⟩ i hi
    exact (h i hi).2
  · intro h
    refine ⟨of_right n, fun i hi => ⟨?_, h i hi⟩⟩
    show ((0#64).getLsbD i && _) = false
    rw [zero_bit, Bool.false_and]

/-! Both. -/
theorem mok_iff {a b : Tn} (ra : tR a = true) (rb : tR b = true) : tMok a b = true ↔ ∀ i, i < 64 → ((a.1.getLsbD i ^^ b.1.getLsbD i) && !(a.2.getLsbD i || b.2.getLsbD i)) = false := by
  unfold tMok
  rw [rr_of ra rb, Bool.true_and, beq_iff_eq, bv_ext]
  constructor
  · intro h i hi
    have e := h i hi
    rw [andn_bit _ _ hi, BitVec.getLsbD_xor, BitVec.getLsbD_or, zero_bit] at e
    exact e
  · intro h i hi
    rw [andn_bit _ _ hi, BitVec.getLsbD_xor, BitVec.getLsbD_or, zero_bit]
    exact h i hi
theorem meet_bit {a b : Tn} (h : tMok a b = true) {i : Nat} (hi : i < 64) :
    (tM a b).2.getLsbD i = (a.2.getLsbD i && b.2.getLsbD i) ∧ (tM a b).1.getLsbD i = ((a.1.getLsbD i || b.1.getLsbD i) && !(a.2.getLsbD i && b.2.getLsbD i)) := by
  unfold tM
  rw [if_pos h]
  obtain ⟨e1, e2⟩ := made_bit (a.1 ||| b.1) (a.2 &&& b.2) hi
  rw [e1, e2, BitVec.getLsbD_or, BitVec.getLsbD_and]
  exact ⟨rfl, rfl⟩
theorem meet_right {a b : Tn} (h : tMok a b = true) : tR (tM a b) = true := by
  unfold tM; rw [if_pos h]; exact made_right _ _
theorem meet_has {a b : Tn} (ra : tR a = true) (rb : tR b = true) (o : BitVec 64) : (tH a o && tH b o) = (tMok a b && tH (tM a b) o) := by
  rw [Bool.eq_iff_iff, Bool.and_eq_true, Bool.and_eq_true]
  constructor
  · rintro ⟨h1, h2⟩
    rw [tH_iff] at h1 h2
    have hm : tMok a b = true := by
      rw [mok_iff ra rb]
      intro i hi
      have k1 := h1 i hi
      have k2 := h2 i hi
      revert k1 k2
      generalize a.1.getLsbD i = u1
      generalize a.2.getLsbD i = u2
      generalize b.1.getLsbD i = u3
      generalize b.2.getLsbD i = u4
      generalize o.getLsbD i = u5
      cases u1 <;> cases u2 <;> cases u3 <;> cases u4 <;> cases u5 <;> simp
    refine ⟨hm, ?_⟩
    rw [tH_iff]
    intro i hi
    obtain ⟨e1, e2⟩ := meet_bit hm hi
    rw [e1, e2]
    have k1 := h1 i hi
    have k2 := h2 i hi
    have k3 := (tR_iff a).mp ra i hi
    have k4 := (tR_iff b).mp rb i hi
    revert k1 k2 k3 k4
    generalize a.1.getLsbD i = u1
    generalize a.2.getLsbD i = u2
    generalize b.1.getLsbD i = u3
    generalize b.2.getLsbD i = u4
    generalize o.getLsbD i = u5
    cases u1 <;> cases u2 <;> cases u3 <;> cases u4 <;> cases u5 <;> simp
  · rintro ⟨hm, h⟩
    have hm' := (mok_iff ra rb).mp hm
    rw [tH_iff] at h
    constructor
    all_goals
      rw [tH_iff]
      intro i hi
      have k0 := h i hi
      obtain ⟨e1, e2⟩ := meet_bit hm hi
      rw [e1, e2] at k0
      have k1 := hm' i hi
      have k3 := (tR_iff a).mp ra i hi
      have k4 := (tR_iff b).mp rb i hi
      clear e1 e2 h hm hm' ra rb
      revert k0 k1 k3 k4
      generalize a.1.getLsbD i = u1
      generalize a.2.getLsbD i = u2
      generalize b.1.getLsbD i = u3
      generalize b.2.getLsbD i = u4
      generalize o.getLsbD i = u5
      cases u1 <;> cases u2 <;> cases u3 <;> cases u4 <;> cases u5 <;> simp
theorem meet_within {a b : Tn} (ra : tR a = true) (rb : tR b = true) (h : tMok a b = true) : tW (tM a b) a = true ∧ tW (tM a b) b = true := by
  have hm' := (mok_iff ra rb).mp h
  constructor
  all_goals
    rw [tW_iff]
    refine ⟨meet_right h, fun i hi => ?_⟩
    obtain ⟨e1, e2⟩ := meet_bit h hi
    rw [e1, e2]
    have k1 := hm' i hi
    have k3 := (tR_iff a).mp ra i hi
    have k4 := (tR_iff b).mp rb i hi
    clear e1 e2 h hm' ra rb
    revert k1 k3 k4
    generalize a.1.getLsbD i = u1
    generalize a.2.getLsbD i = u2
    generalize b.1.getLsbD i = u3
    generalize b.2.getLsbD i = u4
    cases u1 <;> cases u2 <;> cases u3 <;> cases u4 <;> simp
theorem meet_self {a : Tn} (ra : tR a = true) : tMok a a = true ∧ tM a a = a := by
  have h : tMok a a = true := by
    rw [mok_iff ra ra]; intro i hi; simp
  refine ⟨h, pair_ext fun i hi => ?_⟩
  obtain ⟨e1, e2⟩ := meet_bit h hi
  rw [e1, e2]
  have k3 := (tR_iff a).mp ra i hi
  clear e1 e2
  revert k3
  generalize a.1.getLsbD i = u1
  generalize a.2.getLsbD i = u2
  cases u1 <;> cases u2 <;> simp

/-! The lowest bits. -/
theorem low_bit (x : BitVec 64) (k : Nat) {i : Nat} (hi : i < 64) : (tLow x k).getLsbD i = (decide (i < k) && x.getLsbD i) := by
  unfold tLow
  rw [BitVec.getLsbD_ofNat, Nat.testBit_mod_two_pow]
  simp only [hi, decide_true, Bool.true_and]
  rfl
theorem cut_has {t : Tn} (rt : tR t = true) {x : BitVec 64} (h : tH t x = true) (k : Int) (h1 : 1 ≤ k) (h2 : k ≤ 63) : tH (tC t k) (tLow x k.toNat) = true := by
  unfold tC
  rw [rt, if_pos rfl, if_neg (by omega)]
  rw [tH_iff] at *
  intro i hi
  show ((tLow x k.toNat).getLsbD i && !(tLow t.2 k.toNat).getLsbD i) = (tLow t.1 k.toNat).getLsbD i
  rw [low_bit _ _ hi, low_bit _ _ hi, low_bit _ _ hi]
  have k0 := h i hi
  revert k0
  generalize t.1.getLsbD i = u1
  generalize t.2.getLsbD i = u2
  generalize x.getLsbD i = u5
  cases u1 <;> cases u2 <;> cases u5 <;> cases decide (i < k.toNat) <;> simp
theorem cut_of (n : BitVec 64) (k : Int) (h1 : 1 ≤ k) (h2 : k ≤ 63) : tC (n, 0#64) k = (tLow n k.toNat, 0#64) := by
  unfold tC
  rw [of_right, if_pos rfl, if_neg (by omega)]
  congr 1

/-! Arithmetic. -/
/-- What arithmetic makes of two numbers. -/
def bvDo (op : Int) (x y : BitVec 64) : BitVec 64 :=
  if op = 0 then x + y else if op = 16 then x - y else if op = 32 then x * y else if op = 80 then x &&& y else if op = 64 then x ||| y
  else if op = 160 then x ^^^ y else if op = 96 then x <<< (y.toNat % 64) else if op = 112 then x >>> (y.toNat % 64) else 0#64
theorem and_sound {a b : Tn} {x y : BitVec 64} (ra : tR a = true) (rb : tR b = true) (ha : tH a x = true) (hb : tH b y = true) : tR (tAnd a b) = true ∧ tH (tAnd a b) (x &&& y) = true := by
  have e : ∀ i, i < 64 → (tAnd a b).1.getLsbD i = (a.1.getLsbD i && b.1.getLsbD i) ∧ (tAnd a b).2.getLsbD i = (((a.1.getLsbD i || a.2.getLsbD i) && (b.1.getLsbD i || b.2.getLsbD i)) && !(a.1.getLsbD i && b.1.getLsbD i)) := by
    intro i hi
    unfold tAnd
    simp only [BitVec.getLsbD_and, BitVec.getLsbD_or, BitVec.getLsbD_not, hi, decide_true, Bool.true_and]
    exact ⟨trivial, trivial⟩
  constructor
  · rw [tR_iff]
    intro i hi
    rw [(e i hi).1, (e i hi).2]
    cases a.1.getLsbD i <;> cases b.1.getLsbD i <;> simp
  · rw [tH_iff] at *
    intro i hi
    rw [(e i hi).1, (e i hi).2, BitVec.getLsbD_and]
    have h1 := (tR_iff a).mp ra i hi
    have h2 := (tR_iff b).mp rb i hi
    have h3 := ha i hi
    have h4 := hb i hi
    clear e ha hb
    revert h1 h2 h3 h4
    generalize a.1.getLsbD i = u1
    generalize a.2.getLsbD i = u2
    generalize b.1.getLsbD i = u3
    generalize b.2.getLsbD i = u4
    generalize x.getLsbD i = u5
    generalize y.getLsbD i = u6
    cases u1 <;> cases u2 <;> cases u3 <;> cases u4 <;> cases u5 <;> cases u6 <;> simp
theorem or_sound {a b : Tn} {x y : BitVec 64} (ra : tR a = true) (rb : tR b = true) (ha : tH a x = true) (hb : tH b y = true) : tR (tOr a b) = true ∧ tH (tOr a b) (x ||| y) = true := by
  have e : ∀ i, i < 64 → (tOr a b).1.getLsbD i = (a.1.getLsbD i || b.1.getLsbD i) ∧ (tOr a b).2.getLsbD i = ((a.2.getLsbD i || b.2.getLsbD i) && !(a.1.getLsbD i || b.1.getLsbD i)) := by
    intro i hi
    unfold tOr
    simp only [BitVec.getLsbD_and, BitVec.getLsbD_or, BitVec.getLsbD_not, hi, decide_true, Bool.true_and]
    exact ⟨trivial, trivial⟩
  constructor
  · rw [tR_iff]
    intro i hi
    rw [(e i hi).1, (e i hi).2]
    cases a.1.getLsbD i <;> cases b.1.getLsbD i <;> simp
  · rw [tH_iff] at *
    intro i hi
    rw [(e i hi).1, (e i hi).2, BitVec.getLsbD_or]
    have h1 := (tR_iff a).mp ra i hi
    have h2 := (tR_iff b).mp rb i hi
    have h3 := ha i hi
    have h4 := hb i hi
    clear e ha hb
    revert h1 h2 h3 h4
    generalize a.1.getLsbD i = u1
    generalize a.2.getLsbD i = u2
    generalize b.1.getLsbD i = u3
    generalize b.2.getLsbD i = u4
    generalize x.getLsbD i = u5
    generalize y.getLsbD i = u6
    cases u1 <;> cases u2 <;> cases u3 <;> cases u4 <;> cases u5 <;> cases u6 <;> simp
theorem xor_sound {a b : Tn} {x y : BitVec 64} (ra : tR a = true) (rb : tR b = true) (ha : tH a x = true) (hb : tH b y = true) : tR (tXor a b) = true ∧ tH (tXor a b) (x ^^^ y) = true := by
  refine ⟨made_right _ _, ?_⟩
  rw [tH_iff] at *
  intro i hi
  obtain ⟨e1, e2⟩ := made_bit (a.1 ^^^ b.1) (a.2 ||| b.2) hi
  show (_ && !(tMade (a.1 ^^^ b.1) (a.2 ||| b.2)).2.getLsbD i) = (tMade (a.1 ^^^ b.1) (a.2 ||| b.2)).1.getLsbD i
  rw [e1, e2, BitVec.getLsbD_or, BitVec.getLsbD_xor, BitVec.getLsbD_xor]
  have h1 := (tR_iff a).mp ra i hi
  have h2 := (tR_iff b).mp rb i hi
  have h3 := ha i hi
  have h4 := hb i hi
  clear e1 e2 ha hb
  revert h1 h2 h3 h4
  generalize a.1.getLsbD i = u1
  generalize a.2.getLsbD i = u2
  generalize b.1.getLsbD i = u3
  generalize b.2.getLsbD i = u4
  generalize x.getLsbD i = u5
  generalize y.getLsbD i = u6
  cases u1 <;> cases u2 <;> cases u3 <;> cases u4 <;> cases u5 <;> cases u6 <;> simp
theorem known_num {b : Tn} {y : BitVec 64} (hk : tKnown b = true) (hb : tH b y = true) : b.2 = 0#64 ∧ y = b.1 ∧ y.toNat % 64 = b.1.toNat := by
  unfold tKnown at hk
  rw [Bool.and_eq_true, beq_iff_eq, decide_eq_true_eq] at hk
  have e : y = b.1 := by
    unfold tH at hb
    rw [beq_iff_eq, hk.1, and_all] at hb
    exact hb
  exact ⟨hk.1, e, by rw [e]; exact Nat.mod_eq_of_lt hk.2⟩

/-- Which ops arithmetic of known bits does. -/
theorem dok_ops {op : Int} {a b : Tn} (h : tDok op a b = true) : (tR a = true ∧ tR b = true) ∧ (op = 0 ∨ op = 16 ∨ op = 32 ∨ op = 80 ∨ op = 64 ∨ op = 160 ∨ ((op = 96 ∨ op = 112) ∧ tKnown b = true)) := by
  unfold tDok at h
  rw [Bool.and_eq_true, tRR_iff] at h
  refine ⟨h.1, ?_⟩
  have h2 := h.2
  simp only [Bool.or_eq_true, Bool.and_eq_true, beq_iff_eq] at h2
  rcases h2 with (((((h | h) | h) | h) | h) | h) | h
  · exact .inl h
  · exact .inr (.inl h)
  · exact .inr (.inr (.inl h))
  · exact .inr (.inr (.inr (.inl h)))
  · exact .inr (.inr (.inr (.inr (.inl h))))
  · exact .inr (.inr (.inr (.inr (.inr (.inl h)))))
  · exact .inr (.inr (.inr (.inr (.inr (.inr h)))))
theorem do_sound {op : Int} {a b : Tn} {x y : BitVec 64} (h : tDok op a b = true) (ha : tH a x = true) (hb : tH b y = true) : tR (tDo op a b) = true ∧ tH (tDo op a b) (bvDo op x y) = true := by
  obtain ⟨⟨ra, rb⟩, ho⟩ := dok_ops h
  unfold tDo
  rw [if_pos h]
  rcases ho with rfl | rfl | rfl | rfl | rfl | rfl | ⟨rfl | rfl, hk⟩
  · exact ⟨add_right _ _, add_sound a b x y ra rb ha hb⟩
  · exact ⟨made_right _ _, sub_sound a b x y ra rb ha hb⟩
  · refine ⟨mulTo_right a b 64, ?_⟩
    have e := mul_sound a b x y ra rb ha hb 64 (by omega)
    rw [low_all] at e
    exact e
  · exact and_sound ra rb ha hb
  · exact or_sound ra rb ha hb
  · exact xor_sound ra rb ha hb
  · obtain ⟨_, _, e⟩ := known_num hk hb
    refine ⟨lsh_right a _ ra, ?_⟩
    show tH (tLsh a b.1.toNat) (x <<< (y.toNat % 64)) = true
    rw [e]
    exact lsh_sound a x _ ha
  · obtain ⟨_, _, e⟩ := known_num hk hb
    refine ⟨rsh_right a _ ra, ?_⟩
    show tH (tRsh a b.1.toNat) (x >>> (y.toNat % 64)) = true
    rw [e]
    exact rsh_sound a x _ ha

/-! Of numbers that are known. -/
theorem add_known {a b : Tn} (ha : a.2 = 0#64) (hb : b.2 = 0#64) : (tAdd a b).2 = 0#64 := by
  show ((a.2 + b.2 + (a.1 + b.1)) ^^^ (a.1 + b.1)) ||| a.2 ||| b.2 = 0#64
  rw [ha, hb]; simp
theorem mulTo_known (x y : BitVec 64) : ∀ i, (tMulTo (x, 0#64) (y, 0#64) i).2 = 0#64
  | 0 => rfl
  | i + 1 => by
    have ih := mulTo_known x y i
    show (tStep (x, 0#64) (y, 0#64) i (tMulTo (x, 0#64) (y, 0#64) i)).2 = 0#64
    unfold tStep
    split
    · exact add_known ih (by simp)
    · rw [if_neg (by rw [zero_bit]; decide)]
      exact ih
theorem of_has (x : BitVec 64) : tH (x, 0#64) x = true := by unfold tH; rw [beq_iff_eq]; exact and_all x
theorem do_known {op : Int} {x y : BitVec 64} (h : tDok op (x, 0#64) (y, 0#64) = true) : tDo op (x, 0#64) (y, 0#64) = (bvDo op x y, 0#64) := by
  obtain ⟨_, hs⟩ := do_sound h (of_has x) (of_has y)
  have hm : (tDo op (x, 0#64) (y, 0#64)).2 = 0#64 := by
    obtain ⟨_, ho⟩ := dok_ops h
    unfold tDo
    rw [if_pos h]
    rcases ho with rfl | rfl | rfl | rfl | rfl | rfl | ⟨rfl | rfl, hk⟩
    · exact add_known rfl rfl
    · show ((x - y + 0#64) ^^^ (x - y - 0#64)) ||| 0#64 ||| 0#64 = 0#64
      simp
    · exact mulTo_known x y 64
    · show ((x ||| 0#64) &&& (y ||| 0#64)) &&& ~~~(x &&& y) = 0#64
      simp
    · show (0#64 ||| 0#64) &&& ~~~(x ||| y) = 0#64
      simp
    · show 0#64 ||| 0#64 = 0#64
      simp
    · show 0#64 <<< _ = 0#64
      simp
    · show 0#64 >>> _ = 0#64
      simp
  generalize tDo op (x, 0#64) (y, 0#64) = t at *
  unfold tH at hs
  rw [beq_iff_eq, hm, and_all] at hs
  exact Prod.ext hs.symm hm

end Go.Proofs.Ytfepokiibdkoeaa


/-
  Plain numbers: bytes of an instruction, put together and taken apart. No program is named here.
-/
namespace Go.Proofs.Ytfepokiibdkoeaa
open Go Go.RowKit

/-- 'a | b' of bits that do not meet is the sum: the higher part is a multiple of 2^i, the lower one below 2^i. -/
theorem nat_or_low (i x y : Nat) (hx : x < 2 ^ i) (hy : y % 2 ^ i = 0) : x ||| y = x + y := by
  rw [Nat.or_comm, nat_join i y x hy hx]; omega

theorem or_u8 (i : Nat) (a b : Int) (h1 : 0 ≤ a) (h2 : a < 2 ^ i) (h3 : 0 ≤ b) (h4 : b < 256) (hi : (2 : Int) ^ i ≤ 256) (h5 : b.toNat % 2 ^ i = 0) : bits .or .u8 a b = a + b := by
  have ha : a.toNat < 2 ^ i := by
    have : (a.toNat : Int) < ((2 ^ i : Nat) : Int) := by push_cast; omega
    omega
  rw [u8_or a b h1 (by omega) h3 h4, nat_or_low i _ _ ha h5]; omega
theorem or_u16 (i : Nat) (a b : Int) (h1 : 0 ≤ a) (h2 : a < 2 ^ i) (h3 : 0 ≤ b) (h4 : b < 65536) (hi : (2 : Int) ^ i ≤ 65536) (h5 : b.toNat % 2 ^ i = 0) : bits .or .u16 a b = a + b := by
  have ha : a.toNat < 2 ^ i := by
    have : (a.toNat : Int) < ((2 ^ i : Nat) : Int) := by push_cast; omega
    omega
  rw [u16_or a b h1 (by omega) h3 h4, nat_or_low i _ _ ha h5]; omega
theorem or_u32 (i : Nat) (a b : Int) (h1 : 0 ≤ a) (h2 : a < 2 ^ i) (h3 : 0 ≤ b) (h4 : b < 4294967296) (hi : (2 : Int) ^ i ≤ 4294967296) (h5 : b.toNat % 2 ^ i = 0) : bits .or .u32 a b = a + b := by
  have ha : a.toNat < 2 ^ i := by
    have : (a.toNat : Int) < ((2 ^ i : Nat) : Int) := by push_cast; omega
    omega
  rw [u32_or a b h1 (by omega) h3 h4, nat_or_low i _ _ ha h5]; omega

theorem regs_or (d s : Int) (h1 : 0 ≤ d) (h2 : d ≤ 15) (h3 : 0 ≤ s) (h4 : s ≤ 15) : bits .or .u8 d (s * 16) = d + 16 * s := by
  rw [or_u8 4 d (s * 16) h1 (by omega) (by omega) (by omega) (by decide) (by omega)]; omega
theorem two_or (a b : Int) (h1 : 0 ≤ a ∧ a ≤ 255) (h2 : 0 ≤ b ∧ b ≤ 255) : bits .or .u16 a (b * 256) = a + 256 * b := by
  rw [or_u16 8 a (b * 256) h1.1 (by omega) (by omega) (by omega) (by decide) (by omega)]; omega
theorem four_or (a b c d : Int) (h1 : 0 ≤ a ∧ a ≤ 255) (h2 : 0 ≤ b ∧ b ≤ 255) (h3 : 0 ≤ c ∧ c ≤ 255) (h4 : 0 ≤ d ∧ d ≤ 255) :
    bits .or .u32 (bits .or .u32 (bits .or .u32 a (b * 256)) (c * 65536)) (d * 16777216) = a + 256 * b + 65536 * c + 16777216 * d := by
  rw [or_u32 8 a (b * 256) h1.1 (by omega) (by omega) (by omega) (by decide) (by omega),
    or_u32 16 (a + b * 256) (c * 65536) (by omega) (by omega) (by omega) (by omega) (by decide) (by omega),
    or_u32 24 (a + b * 256 + c * 65536) (d * 16777216) (by omega) (by omega) (by omega) (by omega) (by decide) (by omega)]; omega

/-! Taken from what was put, and put from what was taken: each part by its bytes. -/
theorem i16_bytes (off : Int) (h1 : -32768 ≤ off) (h2 : off ≤ 32767) : IntKind.i16.wrap (off % 256 + 256 * (off / 256 % 256)) = off := by
  have : IntKind.i16.wrap (off % 256 + 256 * (off / 256 % 256)) = (off % 256 + 256 * (off / 256 % 256) + 32768) % 65536 - 32768 := by
    simp [IntKind.wrap, IntKind.bits, IntKind.signed]; split <;> omega
  rw [this]; omega
theorem i32_bytes (imm : Int) (h1 : -2147483648 ≤ imm) (h2 : imm ≤ 2147483647) :
    wrap32 (imm % 256 + 256 * (imm / 256 % 256) + 65536 * (imm / 65536 % 256) + 16777216 * (imm / 16777216 % 256)) = imm := by
  unfold wrap32; omega
theorem i16_low (x : Int) : IntKind.i16.wrap x % 256 = x % 256 := by
  have : IntKind.i16.wrap x = (x + 32768) % 65536 - 32768 := by
    simp [IntKind.wrap, IntKind.bits, IntKind.signed]; split <;> omega
  rw [this]; omega
theorem i16_high (x : Int) : IntKind.i16.wrap x / 256 % 256 = x / 256 % 256 := by
  have : IntKind.i16.wrap x = (x + 32768) % 65536 - 32768 := by
    simp [IntKind.wrap, IntKind.bits, IntKind.signed]; split <;> omega
  rw [this]; omega
theorem i32_b0 (x : Int) : wrap32 x % 256 = x % 256 := by unfold wrap32; omega
theorem i32_b1 (x : Int) : wrap32 x / 256 % 256 = x / 256 % 256 := by unfold wrap32; omega
theorem i32_b2 (x : Int) : wrap32 x / 65536 % 256 = x / 65536 % 256 := by unfold wrap32; omega
theorem i32_b3 (x : Int) : wrap32 x / 16777216 % 256 = x / 16777216 % 256 := by unfold wrap32; omega

end Go.Proofs.Ytfepokiibdkoeaa


/-
  Plain numbers: what arithmetic makes of two numbers of 32 or 64 bits. No program is named here.
-/
namespace Go.Proofs.Ytfepokiibdkoeaa
open Go Go.RowKit
set_option linter.unusedVariables false

/-- A number's lowest bits (as many as Q = 2^w tells), signed. -/
def sgnP (Q a : Int) : Int := if a % Q * 2 < Q then a % Q else a % Q - Q
/-- A number's lowest w bits, signed, modulo 2^64; of a width that is none, the number. -/
def signW (a w : Int) : Int := if 1 ≤ w ∧ w ≤ 64 then sgnP (2 ^ w.toNat) a % 18446744073709551616 else a

theorem wrap64_sgn (a : Int) : wrap64 a = sgnP 18446744073709551616 a := by unfold wrap64 sgnP; split <;> omega
theorem wrap32_sgn (a : Int) : wrap32 a = sgnP 4294967296 a := by unfold wrap32 sgnP; split <;> omega
theorem signW_64 (a : Int) : signW a 64 = a % 18446744073709551616 := by
  unfold signW; rw [if_pos (by decide)]; show sgnP 18446744073709551616 a % _ = _; unfold sgnP; split <;> omega
theorem signW_32 (a : Int) : signW a 32 = wrap32 a % 18446744073709551616 := by
  unfold signW; rw [if_pos (by decide)]; show sgnP 4294967296 a % _ = _; rw [wrap32_sgn]
theorem signW_0 (a : Int) : signW a 0 = a := by unfold signW; rw [if_neg (by decide)]
theorem signW_range (a w : Int) (h0 : 0 ≤ a) (h1 : a ≤ 18446744073709551615) : 0 ≤ signW a w ∧ signW a w ≤ 18446744073709551615 := by
  unfold signW; split <;> omega

theorem two_pow_pos (n : Nat) : (0 : Int) < 2 ^ n := by
  have := Nat.two_pow_pos n
  have e : ((2 ^ n : Nat) : Int) = (2 : Int) ^ n := by push_cast; rfl
  omega
theorem two_pow_split (w : Int) (h1 : 0 ≤ w) (h2 : w ≤ 64) : (2 : Int) ^ (64 - w).toNat * 2 ^ w.toNat = 18446744073709551616 := by
  rw [← Int.pow_add]
  have : (64 - w).toNat + w.toNat = 64 := by omega
  rw [this]; rfl
theorem two_pow_succ (w : Int) (h1 : 1 ≤ w) : (2 : Int) ^ w.toNat = 2 ^ (w - 1).toNat * 2 := by
  rw [show w.toNat = (w - 1).toNat + 1 by omega, Int.pow_succ]

/-- Moved up and down again: the lowest bits. -/
theorem up_down (n w : Int) (h1 : 0 ≤ w) (h2 : w ≤ 64) : n * 2 ^ (64 - w).toNat % 18446744073709551616 / 2 ^ (64 - w).toNat = n % 2 ^ w.toNat := by
  have hP := two_pow_pos (64 - w).toNat
  rw [← two_pow_split w h1 h2, Int.mul_comm n, Int.mul_emod_mul_of_pos _ _ hP, Int.mul_ediv_cancel_left _ (by omega)]

/-- Moved up, and down again with the sign: the lowest bits, signed. -/
theorem up_down_signed (n w : Int) (h1 : 1 ≤ w) (h2 : w ≤ 64) : wrap64 (n * 2 ^ (64 - w).toNat % 18446744073709551616) / 2 ^ (64 - w).toNat = sgnP (2 ^ w.toNat) n := by
  have hP := two_pow_pos (64 - w).toNat
  have hs := two_pow_split w (by omega) h2
  rw [wrap64_sgn]
  unfold sgnP
  rw [Int.emod_emod_of_dvd _ (Int.dvd_refl _), ← hs, Int.mul_comm n, Int.mul_emod_mul_of_pos _ _ hP]
  generalize (2 : Int) ^ (64 - w).toNat = P at *
  generalize (2 : Int) ^ w.toNat = Q at *
  generalize n % Q = r
  have e : P * r * 2 < P * Q ↔ r * 2 < Q := by
    rw [Int.mul_assoc]
    exact ⟨fun h => Int.lt_of_mul_lt_mul_left h (by omega), fun h => Int.mul_lt_mul_of_pos_left h hP⟩
  by_cases h : r * 2 < Q
  · rw [if_pos (e.mpr h), if_pos h, Int.mul_ediv_cancel_left _ (by omega)]
  · rw [if_neg (fun x => h (e.mp x)), if_neg h, ← Int.mul_sub, Int.mul_ediv_cancel_left _ (by omega)]

/-! What arithmetic makes, before it is cut. -/
def aM (wide : Bool) : Int := if wide then 18446744073709551616 else 4294967296
def aB (wide : Bool) : Int := if wide then 64 else 32
def sg (wide : Bool) (x : Int) : Int := if wide then wrap64 x else wrap32 x

def aluFits (op : Int) (wide : Bool) (off : Int) : Bool :=
  if op = 48 ∨ op = 144 then off == 0 || off == 1
  else if op = 176 then off == 0 || off == 8 || off == 16 || (off == 32 && wide)
  else if op = 0 ∨ op = 16 ∨ op = 32 ∨ op = 64 ∨ op = 80 ∨ op = 160 ∨ op = 96 ∨ op = 112 ∨ op = 192 ∨ op = 128 then off == 0
  else false

def aluZ (wide : Bool) (op off x y : Int) : Int :=
  if op = 0 then x + y
  else if op = 16 then x - y
  else if op = 32 then x * y
  else if op = 64 then ((x.toNat ||| y.toNat : Nat) : Int)
  else if op = 80 then ((x.toNat &&& y.toNat : Nat) : Int)
  else if op = 160 then ((x.toNat ^^^ y.toNat : Nat) : Int)
  else if op = 96 then x * 2 ^ (y % aB wide).toNat
  else if op = 112 then x / 2 ^ (y % aB wide).toNat
  else if op = 192 then sg wide x / 2 ^ (y % aB wide).toNat
  else if op = 128 then -x
  else if op = 176 then signW y off
  else if op = 48 then (if off = 1 then sg wide ((sg wide x).tdiv (sg wide y)) else x / y)
  else if op = 144 then (if off = 1 then (sg wide x).tmod (sg wide y) else x % y)
  else 0

/-- What arithmetic makes of two numbers. -/
def aluV (wide : Bool) (op off a b : Int) : Int := if aluFits op wide off then aluZ wide op off (a % aM wide) (b % aM wide) % aM wide else 0
def aluE (wide : Bool) (op off : Int) : Int := if aluFits op wide off then 0 else 1

theorem aM_pos (wide : Bool) : 0 < aM wide ∧ aM wide ≤ 18446744073709551616 := by cases wide <;> decide
theorem aluV_range (wide : Bool) (op off a b : Int) : 0 ≤ aluV wide op off a b ∧ aluV wide op off a b ≤ 18446744073709551615 := by
  unfold aluV
  have h := aM_pos wide
  split
  · have h1 := Int.emod_nonneg (aluZ wide op off (a % aM wide) (b % aM wide)) (b := aM wide) (by omega)
    have h2 := Int.emod_lt_of_pos (aluZ wide op off (a % aM wide) (b % aM wide)) (b := aM wide) (by omega)
    omega
  · omega

theorem or_small (x y : Int) (hx : x ≤ 18446744073709551615) (hy : y ≤ 18446744073709551615) : ((x.toNat ||| y.toNat : Nat) : Int) = ((x.toNat ||| y.toNat : Nat) : Int) % 18446744073709551616 := by
  have h := Nat.or_lt_two_pow (n := 64) (x := x.toNat) (y := y.toNat) (by omega) (by omega)
  omega
theorem and_small (x y : Int) (hx : x ≤ 18446744073709551615) (hy : y ≤ 18446744073709551615) : ((x.toNat &&& y.toNat : Nat) : Int) = ((x.toNat &&& y.toNat : Nat) : Int) % 18446744073709551616 := by
  have h := Nat.and_lt_two_pow (n := 64) x.toNat (y := y.toNat) (by omega)
  omega
theorem xor_small (x y : Int) (hx : x ≤ 18446744073709551615) (hy : y ≤ 18446744073709551615) : ((x.toNat ^^^ y.toNat : Nat) : Int) = ((x.toNat ^^^ y.toNat : Nat) : Int) % 18446744073709551616 := by
  have h := Nat.xor_lt_two_pow (n := 64) (x := x.toNat) (y := y.toNat) (by omega) (by omega)
  omega
theorem shr_small (x : Int) (k : Nat) (hx : 0 ≤ x) (hx' : x ≤ 18446744073709551615) : x / 2 ^ k = x / 2 ^ k % 18446744073709551616 := by
  have h := two_pow_pos k
  have h1 := Int.ediv_le_self (2 ^ k) hx
  have h2 := Int.ediv_nonneg hx (b := 2 ^ k) (by omega)
  omega
theorem wrap64_low (x : Int) : wrap64 (x % 18446744073709551616) = wrap64 x := by unfold wrap64; omega
theorem wrap64_wrap32 (x : Int) : wrap64 (wrap32 x % 18446744073709551616) = wrap32 x := by unfold wrap64 wrap32; omega
/-- A number that is taken as signed is the same modulo as many bits. -/
theorem sg_mod (wide : Bool) (z : Int) : sg wide z % aM wide = z % aM wide := by
  cases wide
  · show wrap32 z % 4294967296 = z % 4294967296
    unfold wrap32; omega
  · show wrap64 z % 18446744073709551616 = z % 18446744073709551616
    unfold wrap64; omega

/-- Which arithmetic there is. -/
theorem fits_ops {op off : Int} {wide : Bool} (h : aluFits op wide off = true) :
    (op = 0 ∧ off = 0) ∨ (op = 16 ∧ off = 0) ∨ (op = 32 ∧ off = 0) ∨ (op = 64 ∧ off = 0) ∨ (op = 80 ∧ off = 0) ∨ (op = 160 ∧ off = 0) ∨ (op = 96 ∧ off = 0) ∨ (op = 112 ∧ off = 0) ∨
    (op = 192 ∧ off = 0) ∨ (op = 128 ∧ off = 0) ∨ (op = 176 ∧ (off = 0 ∨ off = 8 ∨ off = 16 ∨ (off = 32 ∧ wide = true))) ∨ (op = 48 ∧ (off = 0 ∨ off = 1)) ∨ (op = 144 ∧ (off = 0 ∨ off = 1)) := by
  unfold aluFits at h
  split at h
  · rename_i h'
    rcases h' with rfl | rfl
    · have h2 : off = 0 ∨ off = 1 := by simpa using h
      simp [h2]
    · have h2 : off = 0 ∨ off = 1 := by simpa using h
      simp [h2]
  · split at h
    · rename_i h'
      subst h'
      have h2 : off = 0 ∨ off = 8 ∨ off = 16 ∨ (off = 32 ∧ wide = true) := by simpa [or_assoc] using h
      simp [h2]
    · split at h
      · rename_i h'
        have h2 : off = 0 := by simpa using h
        subst h2
        rcases h' with rfl | rfl | rfl | rfl | rfl | rfl | rfl | rfl | rfl | rfl <;> simp
      · cases h

theorem fits_off {op off : Int} {wide : Bool} (h : aluFits op wide off = true) : 0 ≤ off ∧ off ≤ 32 := by
  rcases fits_ops h with h | h | h | h | h | h | h | h | h | h | h | h | h <;> omega

end Go.Proofs.Ytfepokiibdkoeaa


/-
  Plain numbers: what conditions ask of two numbers of 32 or 64 bits. No program is named here.
-/
namespace Go.Proofs.Ytfepokiibdkoeaa
open Go Go.RowKit
set_option linter.unusedVariables false

/-- Which conditions there are. -/
def condFits (op : Int) : Bool := op == 0 || op == 16 || op == 80 || op == 64 || op == 32 || op == 48 || op == 160 || op == 176 || op == 96 || op == 112 || op == 192 || op == 208
/-- What a condition asks of two numbers that are cut already. -/
def condXY (wide : Bool) (op x y : Int) : Bool :=
  if op = 0 then true
  else if op = 16 then decide (x = y)
  else if op = 80 then !decide (x = y)
  else if op = 64 then !decide (((x.toNat &&& y.toNat : Nat) : Int) = 0)
  else if op = 32 then decide (y < x)
  else if op = 48 then decide (y ≤ x)
  else if op = 160 then decide (x < y)
  else if op = 176 then decide (x ≤ y)
  else if op = 96 then decide (sg wide y < sg wide x)
  else if op = 112 then decide (sg wide y ≤ sg wide x)
  else if op = 192 then decide (sg wide x < sg wide y)
  else if op = 208 then decide (sg wide x ≤ sg wide y)
  else false
def condV (op : Int) (wide : Bool) (a b : Int) : Bool := condXY wide op (a % aM wide) (b % aM wide)
def condE (op : Int) : Int := if condFits op then 0 else 1

/-- Two signed numbers are one just if they are one. -/
theorem sg_inj (wide : Bool) (x y : Int) (hx : 0 ≤ x ∧ x < aM wide) (hy : 0 ≤ y ∧ y < aM wide) : sg wide x = sg wide y ↔ x = y := by
  constructor
  · intro h
    have h1 := sg_mod wide x
    have h2 := sg_mod wide y
    rw [h] at h1
    rw [h1] at h2
    rw [Int.emod_eq_of_lt hx.1 hx.2, Int.emod_eq_of_lt hy.1 hy.2] at h2
    exact h2
  · rintro rfl; rfl

theorem am_range (wide : Bool) (a : Int) : 0 ≤ a % aM wide ∧ a % aM wide < aM wide := by
  have h := (aM_pos wide).1
  exact ⟨Int.emod_nonneg _ (by omega), Int.emod_lt_of_pos _ h⟩

theorem fits_not {op : Int} (h : condFits op = false) : ¬ op = 0 ∧ ¬ op = 16 ∧ ¬ op = 80 ∧ ¬ op = 64 ∧ ¬ op = 32 ∧ ¬ op = 48 ∧ ¬ op = 160 ∧ ¬ op = 176 ∧ ¬ op = 96 ∧ ¬ op = 112 ∧ ¬ op = 192 ∧ ¬ op = 208 := by
  simpa [condFits, and_assoc] using h
theorem fits_is {op : Int} (h : condFits op = true) : op = 0 ∨ op = 16 ∨ op = 80 ∨ op = 64 ∨ op = 32 ∨ op = 48 ∨ op = 160 ∨ op = 176 ∨ op = 96 ∨ op = 112 ∨ op = 192 ∨ op = 208 := by
  simpa [condFits, or_assoc] using h

theorem condV_none {op : Int} (h : condFits op = false) (wide : Bool) (a b : Int) : condV op wide a b = false := by
  obtain ⟨h1, h2, h3, h4, h5, h6, h7, h8, h9, h10, h11, h12⟩ := fits_not h
  unfold condV condXY
  rw [if_neg h1, if_neg h2, if_neg h3, if_neg h4, if_neg h5, if_neg h6, if_neg h7, if_neg h8, if_neg h9, if_neg h10, if_neg h11, if_neg h12]

/-! Changed about. -/
theorem turn_160 (wide : Bool) (a b : Int) : condV 160 wide a b = condV 32 wide b a := rfl
theorem turn_176 (wide : Bool) (a b : Int) : condV 176 wide a b = condV 48 wide b a := rfl
theorem turn_192 (wide : Bool) (a b : Int) : condV 192 wide a b = condV 96 wide b a := rfl
theorem turn_208 (wide : Bool) (a b : Int) : condV 208 wide a b = condV 112 wide b a := rfl

end Go.Proofs.Ytfepokiibdkoeaa


/-
  Plain numbers: spans, what both have, and where what arithmetic makes is. No program is named here.
-/
namespace Go.Proofs.Ytfepokiibdkoeaa
open Go Go.RowKit
set_option linter.unusedVariables false

/-- A span: from the first number to the second one. -/
abbrev Sp := Int × Int
abbrev sV (s : Sp) : Value := .agg #[.int .u64 s.1, .int .u64 s.2]
def In64 (n : Int) : Prop := 0 ≤ n ∧ n ≤ 18446744073709551615
def sIn (s : Sp) : Prop := In64 s.1 ∧ In64 s.2
def sR (s : Sp) : Bool := decide (s.1 ≤ s.2)
def sRR (a b : Sp) : Bool := sR a && sR b
def sAll : Sp := (0, 18446744073709551615)
def sH (s : Sp) (n : Int) : Bool := decide (s.1 ≤ n) && decide (n ≤ s.2)
def sW (a b : Sp) : Bool := sRR a b && (decide (b.1 ≤ a.1) && decide (a.2 ≤ b.2))
def sJ (a b : Sp) : Sp := if sRR a b then (min a.1 b.1, max a.2 b.2) else (0, 0)
def sT (l h : Int) : Sp := if h < l then (0, 0) else (l, h)
def sTok (l h : Int) : Bool := decide (l ≤ h)
def sM (a b : Sp) : Sp := sT (max a.1 b.1) (min a.2 b.2)
def sMok (a b : Sp) : Bool := sTok (max a.1 b.1) (min a.2 b.2)
def sAdd (a b : Sp) : Sp := if a.2 + b.2 ≤ 18446744073709551615 then (a.1 + b.1, a.2 + b.2) else sAll
def sSub (a b : Sp) : Sp := if b.2 ≤ a.1 then (a.1 - b.2, a.2 - b.1) else sAll
def sMul (a b : Sp) : Sp := if a.2 * b.2 ≤ 18446744073709551615 then (a.1 * b.1, a.2 * b.2) else sAll
def sDo' (op : Int) (a b : Sp) : Sp :=
  if op = 0 then sAdd a b else if op = 16 then sSub a b else if op = 32 then sMul a b
  else if op = 48 ∧ b.1 ≠ 0 then (a.1 / b.2, a.2 / b.1)
  else if op = 144 ∧ b.1 ≠ 0 then (0, min a.2 (b.2 - 1))
  else if op = 80 then (0, min a.2 b.2)
  else if op = 112 ∧ b.2 < 64 then (a.1 / 2 ^ b.2.toNat, a.2 / 2 ^ b.1.toNat)
  else sAll
def sDo (op : Int) (a b : Sp) : Sp := if sRR a b then sDo' op a b else (0, 0)
/-- What is left of a, if it must not be b. -/
def sUn (a b : Sp) : Sp :=
  if b.1 = b.2 ∧ a.1 ≤ b.1 ∧ b.1 ≤ a.2 then (if a.1 = a.2 then (0, 0) else if a.1 = b.1 then (a.1 + 1, a.2) else if a.2 = b.2 then (a.1, a.2 - 1) else a) else a
def sUnok (a b : Sp) : Bool := !(decide (b.1 = b.2 ∧ a.1 ≤ b.1 ∧ b.1 ≤ a.2) && decide (a.1 = a.2))
def sIf' (op : Int) (a b : Sp) : Sp :=
  if op = 16 then sM a b else if op = 80 then sUn a b
  else if op = 64 then (if a.2 = 0 ∨ b.2 = 0 then (0, 0) else a)
  else if op = 32 then (if b.1 < a.2 then sT (max a.1 (b.1 + 1)) a.2 else (0, 0))
  else if op = 48 then (if b.1 ≤ a.2 then sT (max a.1 b.1) a.2 else (0, 0))
  else if op = 160 then (if a.1 < b.2 then sT a.1 (min a.2 (b.2 - 1)) else (0, 0))
  else if op = 176 then (if a.1 ≤ b.2 then sT a.1 (min a.2 b.2) else (0, 0))
  else a
def sIfok' (op : Int) (a b : Sp) : Bool :=
  if op = 16 then sMok a b else if op = 80 then sUnok a b
  else if op = 64 then !decide (a.2 = 0 ∨ b.2 = 0)
  else if op = 32 then decide (b.1 < a.2) && sTok (max a.1 (b.1 + 1)) a.2
  else if op = 48 then decide (b.1 ≤ a.2) && sTok (max a.1 b.1) a.2
  else if op = 160 then decide (a.1 < b.2) && sTok a.1 (min a.2 (b.2 - 1))
  else if op = 176 then decide (a.1 ≤ b.2) && sTok a.1 (min a.2 b.2)
  else true
def sIf (op : Int) (a b : Sp) : Sp := if sRR a b then sIf' op a b else (0, 0)
def sIfok (op : Int) (a b : Sp) : Bool := sRR a b && sIfok' op a b

/-- The statements' own spans, and numbers of them. -/
def sMade (a b : Int) : Sp := (min a b, max a b)
def sPick (a b n : Int) : Int := if max a b - min a b + 1 = 18446744073709551616 then n else min a b + n % (max a b - min a b + 1)

theorem sRR_true {a b : Sp} (h : sRR a b = true) : a.1 ≤ a.2 ∧ b.1 ≤ b.2 := by simpa [sRR, sR] using h
theorem smade_right (a b : Int) : sR (sMade a b) = true := decide_eq_true (show min a b ≤ max a b by omega)
theorem smade_in {a b : Int} (ha : In64 a) (hb : In64 b) : sIn (sMade a b) := by
  unfold sIn In64 sMade at *; simp only; omega
theorem spick_in {a b n : Int} (ha : In64 a) (hb : In64 b) (hn : In64 n) : In64 (sPick a b n) ∧ sH (sMade a b) (sPick a b n) = true := by
  unfold sPick
  have h : In64 (sPick a b n) ∧ min a b ≤ sPick a b n ∧ sPick a b n ≤ max a b := by
    unfold In64 sPick at *
    split
    · omega
    · have h1 := Int.emod_nonneg n (b := max a b - min a b + 1) (by omega)
      have h2 := Int.emod_lt_of_pos n (b := max a b - min a b + 1) (by omega)
      omega
  unfold sPick at h
  refine ⟨h.1, ?_⟩
  exact Bool.and_eq_true_iff.mpr ⟨decide_eq_true h.2.1, decide_eq_true h.2.2⟩

end Go.Proofs.Ytfepokiibdkoeaa


/-
  Plain numbers: what follows of aluV (Div and Mod go together; narrow hangs on the lowest bits; orders; bits moved up and down). No program is named here.
-/
namespace Go.Proofs.Ytfepokiibdkoeaa
open Go Go.RowKit
set_option linter.unusedVariables false

theorem aM_dvd (wide : Bool) : aM wide ∣ 18446744073709551616 := by cases wide <;> decide
theorem emod_self_mod (a m : Int) : a % m % m = a % m := Int.emod_emod_of_dvd a (Int.dvd_refl m)
theorem add_mod_l (a b m : Int) : (a % m + b) % m = (a + b) % m := by rw [Int.add_emod, emod_self_mod, ← Int.add_emod]
theorem add_mod_r (a b m : Int) : (a + b % m) % m = (a + b) % m := by rw [Int.add_emod, emod_self_mod, ← Int.add_emod]
theorem mul_mod_l (a b m : Int) : (a % m * b) % m = (a * b) % m := by rw [Int.mul_emod, emod_self_mod, ← Int.mul_emod]
theorem mul_mod_r (a b m : Int) : (a * (b % m)) % m = (a * b) % m := by rw [Int.mul_emod, emod_self_mod, ← Int.mul_emod]

/-! aluV, op by op. -/
section
variable (wide : Bool) (a b : Int)
theorem v_add : aluV wide 0 0 a b = (a + b) % aM wide := by
  show (a % aM wide + b % aM wide) % aM wide = _; rw [← Int.add_emod]
theorem v_sub : aluV wide 16 0 a b = (a - b) % aM wide := by
  show (a % aM wide - b % aM wide) % aM wide = _; rw [← Int.sub_emod]
theorem v_mul : aluV wide 32 0 a b = (a * b) % aM wide := by
  show (a % aM wide * (b % aM wide)) % aM wide = _; rw [← Int.mul_emod]
theorem v_mov : aluV wide 176 0 a b = b % aM wide := by
  show signW (b % aM wide) 0 % aM wide = _; rw [signW_0, emod_self_mod]
theorem v_neg : aluV wide 128 0 a b = (-a) % aM wide := by
  show (-(a % aM wide)) % aM wide = _
  rw [Int.neg_emod_eq_sub_emod, Int.sub_emod, emod_self_mod, ← Int.sub_emod, ← Int.neg_emod_eq_sub_emod]
theorem v_lsh : aluV wide 96 0 a b = (a * 2 ^ (b % aM wide % aB wide).toNat) % aM wide := by
  show (a % aM wide * 2 ^ (b % aM wide % aB wide).toNat) % aM wide = _; rw [mul_mod_l]
theorem v_rsh : aluV wide 112 0 a b = (a % aM wide / 2 ^ (b % aM wide % aB wide).toNat) % aM wide := rfl
theorem v_arsh : aluV wide 192 0 a b = (sg wide (a % aM wide) / 2 ^ (b % aM wide % aB wide).toNat) % aM wide := rfl
theorem v_div0 : aluV wide 48 0 a b = (a % aM wide / (b % aM wide)) % aM wide := rfl
theorem v_mod0 : aluV wide 144 0 a b = (a % aM wide % (b % aM wide)) % aM wide := rfl
theorem v_div1 : aluV wide 48 1 a b = ((sg wide (a % aM wide)).tdiv (sg wide (b % aM wide))) % aM wide := by
  show sg wide ((sg wide (a % aM wide)).tdiv (sg wide (b % aM wide))) % aM wide = _; rw [sg_mod]
theorem v_mod1 : aluV wide 144 1 a b = ((sg wide (a % aM wide)).tmod (sg wide (b % aM wide))) % aM wide := rfl
theorem v_or : aluV wide 64 0 a b = (((a % aM wide).toNat ||| (b % aM wide).toNat : Nat) : Int) % aM wide := rfl
theorem v_and : aluV wide 80 0 a b = (((a % aM wide).toNat &&& (b % aM wide).toNat : Nat) : Int) % aM wide := rfl
theorem v_xor : aluV wide 160 0 a b = (((a % aM wide).toNat ^^^ (b % aM wide).toNat : Nat) : Int) % aM wide := rfl
end

/-- What narrow makes is below 2^32, and hangs on the lowest 32 bits alone. -/
theorem narrow_range (op off a b : Int) : 0 ≤ aluV false op off a b ∧ aluV false op off a b ≤ 4294967295 := by
  unfold aluV
  split
  · have h1 : 0 ≤ aluZ false op off (a % aM false) (b % aM false) % 4294967296 := by omega
    have h2 : aluZ false op off (a % aM false) (b % aM false) % 4294967296 < 4294967296 := by omega
    exact ⟨h1, by show aluZ false op off (a % aM false) (b % aM false) % 4294967296 ≤ _; omega⟩
  · omega
theorem narrow_low (op off a b p q : Int) (h1 : p % 4294967296 = a % 4294967296) (h2 : q % 4294967296 = b % 4294967296) : aluV false op off p q = aluV false op off a b := by
  unfold aluV
  show (if _ then aluZ false op off (p % 4294967296) (q % 4294967296) % _ else 0) = (if _ then aluZ false op off (a % 4294967296) (b % 4294967296) % _ else 0)
  rw [h1, h2]

/-- Bits that are turned from the 32nd on leave the lowest 32 as they are. -/
theorem xor_high (a h : Int) (ha : 0 ≤ a) (ha' : a ≤ 18446744073709551615) (hh : 0 ≤ h) (hh' : h ≤ 18446744073709551615) (hm : h % 4294967296 = 0) :
    bits .xor .u64 a h % 4294967296 = a % 4294967296 ∧ 0 ≤ bits .xor .u64 a h ∧ bits .xor .u64 a h ≤ 18446744073709551615 := by
  have hlt := Nat.xor_lt_two_pow (n := 64) (x := a.toNat) (y := h.toNat) (by omega) (by omega)
  have hmod : (a.toNat ^^^ h.toNat) % 2 ^ 32 = a.toNat % 2 ^ 32 := by
    rw [Nat.xor_mod_two_pow, show h.toNat % 2 ^ 32 = 0 by omega, Nat.xor_zero]
  rw [u64_xor a h ha (by omega) hh (by omega)]
  omega

/-- Div and Mod go together. -/
theorem parts_eq (wide signed : Bool) (a b : Int) :
    aluV wide 0 0 (aluV wide 32 0 (aluV wide 48 (if signed then 1 else 0) a b) b) (aluV wide 144 (if signed then 1 else 0) a b) = aluV wide 176 0 0 a := by
  rw [v_add, v_mul, v_mov]
  cases signed
  · show ((aluV wide 48 0 a b * b) % aM wide + aluV wide 144 0 a b) % aM wide = _
    rw [v_div0, v_mod0, mul_mod_l, add_mod_r, add_mod_l]
    have e : (a % aM wide / (b % aM wide) * b) % aM wide = (a % aM wide / (b % aM wide) * (b % aM wide)) % aM wide := by rw [mul_mod_r]
    rw [← add_mod_l, e, add_mod_l, Int.mul_comm, Int.mul_ediv_add_emod, emod_self_mod]
  · show ((aluV wide 48 1 a b * b) % aM wide + aluV wide 144 1 a b) % aM wide = _
    rw [v_div1, v_mod1, mul_mod_l, add_mod_r, add_mod_l]
    generalize hx : sg wide (a % aM wide) = x
    generalize hy : sg wide (b % aM wide) = y
    have ex : x % aM wide = a % aM wide := by rw [← hx, sg_mod, emod_self_mod]
    have ey : y % aM wide = b % aM wide := by rw [← hy, sg_mod, emod_self_mod]
    have e : (x.tdiv y * b) % aM wide = (x.tdiv y * y) % aM wide := by rw [← mul_mod_r, ← ey, mul_mod_r]
    rw [← add_mod_l, e, add_mod_l, Int.tdiv_mul_add_tmod, ex]

/-! The order of numbers. -/
theorem low_nat (wide : Bool) (a : Int) : (a % aM wide).toNat < 2 ^ (if wide then 64 else 32) := by
  cases wide
  · show (a % 4294967296).toNat < 4294967296; omega
  · show (a % 18446744073709551616).toNat < 18446744073709551616; omega
theorem nat_mod (wide : Bool) (n : Nat) (h : n < 2 ^ (if wide then 64 else 32)) : (n : Int) % aM wide = n := by
  cases wide
  · have h' : n < 4294967296 := h
    show (n : Int) % 4294967296 = n; omega
  · have h' : n < 18446744073709551616 := h
    show (n : Int) % 18446744073709551616 = n; omega
theorem or_law (wide : Bool) (a b c : Int) : aluV wide 64 0 a b = aluV wide 64 0 b a ∧ aluV wide 64 0 (aluV wide 64 0 a b) c = aluV wide 64 0 a (aluV wide 64 0 b c) := by
  have ha := low_nat wide a
  have hb := low_nat wide b
  have hc := low_nat wide c
  simp only [v_or]
  rw [nat_mod wide _ (Nat.or_lt_two_pow ha hb), nat_mod wide _ (Nat.or_lt_two_pow hb hc), nat_mod wide _ (Nat.or_lt_two_pow ha hb), nat_mod wide _ (Nat.or_lt_two_pow hb ha), nat_mod wide _ (Nat.or_lt_two_pow hb hc)]
  simp only [Int.toNat_natCast]
  exact ⟨by rw [Nat.or_comm], by rw [Nat.or_assoc]⟩
theorem and_law (wide : Bool) (a b c : Int) : aluV wide 80 0 a b = aluV wide 80 0 b a ∧ aluV wide 80 0 (aluV wide 80 0 a b) c = aluV wide 80 0 a (aluV wide 80 0 b c) := by
  have ha := low_nat wide a
  have hb := low_nat wide b
  have hc := low_nat wide c
  simp only [v_and, emod_self_mod]
  rw [nat_mod wide _ (Nat.and_lt_two_pow (a % aM wide).toNat hb), nat_mod wide _ (Nat.and_lt_two_pow (b % aM wide).toNat ha), nat_mod wide _ (Nat.and_lt_two_pow (b % aM wide).toNat hc)]
  simp only [Int.toNat_natCast]
  rw [nat_mod wide _ (Nat.and_lt_two_pow _ hc), nat_mod wide _ (Nat.and_lt_two_pow _ (Nat.and_lt_two_pow _ hc))]
  exact ⟨by rw [Nat.and_comm], by rw [Nat.and_assoc]⟩
theorem xor_law (wide : Bool) (a b c : Int) : aluV wide 160 0 a b = aluV wide 160 0 b a ∧ aluV wide 160 0 (aluV wide 160 0 a b) c = aluV wide 160 0 a (aluV wide 160 0 b c) := by
  have ha := low_nat wide a
  have hb := low_nat wide b
  have hc := low_nat wide c
  simp only [v_xor]
  rw [nat_mod wide _ (Nat.xor_lt_two_pow ha hb), nat_mod wide _ (Nat.xor_lt_two_pow hb hc), nat_mod wide _ (Nat.xor_lt_two_pow ha hb), nat_mod wide _ (Nat.xor_lt_two_pow hb ha), nat_mod wide _ (Nat.xor_lt_two_pow hb hc)]
  simp only [Int.toNat_natCast]
  exact ⟨by rw [Nat.xor_comm], by rw [Nat.xor_assoc]⟩
theorem add_law (wide : Bool) (a b c : Int) : aluV wide 0 0 a b = aluV wide 0 0 b a ∧ aluV wide 0 0 (aluV wide 0 0 a b) c = aluV wide 0 0 a (aluV wide 0 0 b c) := by
  simp only [v_add]
  exact ⟨by rw [Int.add_comm], by rw [add_mod_l, add_mod_r, Int.add_assoc]⟩
theorem mul_law (wide : Bool) (a b c : Int) : aluV wide 32 0 a b = aluV wide 32 0 b a ∧ aluV wide 32 0 (aluV wide 32 0 a b) c = aluV wide 32 0 a (aluV wide 32 0 b c) := by
  simp only [v_mul]
  exact ⟨by rw [Int.mul_comm], by rw [mul_mod_l, mul_mod_r, Int.mul_assoc]⟩

/-! Bits moved up and down again. -/
theorem shift_of (wide : Bool) (n : Int) (h0 : 0 ≤ n) (h1 : n < aB wide) : n % aM wide % aB wide = n ∧ (n + aB wide) % aM wide % aB wide = n := by
  cases wide
  · replace h1 : n < 32 := h1
    show n % 4294967296 % 32 = n ∧ (n + 32) % 4294967296 % 32 = n; omega
  · replace h1 : n < 64 := h1
    show n % 18446744073709551616 % 64 = n ∧ (n + 64) % 18446744073709551616 % 64 = n; omega
theorem aM_pow (wide : Bool) (n : Int) (h0 : 0 ≤ n) (h1 : n < aB wide) : (2 : Int) ^ n.toNat * 2 ^ (aB wide - n).toNat = aM wide := by
  rw [← Int.pow_add]
  cases wide
  · replace h1 : n < 32 := h1
    show (2 : Int) ^ (n.toNat + (32 - n).toNat) = _
    rw [show n.toNat + (32 - n).toNat = 32 by omega]; rfl
  · replace h1 : n < 64 := h1
    show (2 : Int) ^ (n.toNat + (64 - n).toNat) = _
    rw [show n.toNat + (64 - n).toNat = 64 by omega]; rfl
/-- .. are the lowest ones. -/
theorem moves_low (wide : Bool) (a n : Int) (h0 : 0 ≤ n) (h1 : n < aB wide) : aluV wide 112 0 (aluV wide 96 0 a n) n = a % 2 ^ (aB wide - n).toNat := by
  obtain ⟨e1, _⟩ := shift_of wide n h0 h1
  have hP := two_pow_pos n.toNat
  have hQ := two_pow_pos (aB wide - n).toNat
  have hPQ := aM_pow wide n h0 h1
  rw [v_rsh, v_lsh, e1, emod_self_mod, ← hPQ, Int.mul_comm a, Int.mul_emod_mul_of_pos _ _ hP, Int.mul_ediv_cancel_left _ (by omega)]
  have h2 := Int.emod_nonneg a (b := 2 ^ (aB wide - n).toNat) (by omega)
  have h3 := Int.emod_lt_of_pos a hQ
  have h4 : (2 : Int) ^ (aB wide - n).toNat ≤ 2 ^ n.toNat * 2 ^ (aB wide - n).toNat := by
    have := Int.mul_le_mul_of_nonneg_right (show (1 : Int) ≤ 2 ^ n.toNat by omega) (show (0 : Int) ≤ 2 ^ (aB wide - n).toNat by omega)
    omega
  exact Int.emod_eq_of_lt h2 (by omega)
/-- .. down with the sign and up again, and taken off: what is left is below 2^n. -/
theorem moves_left (wide : Bool) (a n : Int) (h0 : 0 ≤ n) (h1 : n < aB wide) : aluV wide 16 0 a (aluV wide 96 0 (aluV wide 192 0 a n) n) < 2 ^ n.toNat := by
  obtain ⟨e1, _⟩ := shift_of wide n h0 h1
  have hP := two_pow_pos n.toNat
  have hQ := two_pow_pos (aB wide - n).toNat
  have hPQ := aM_pow wide n h0 h1
  rw [v_sub, v_lsh, v_arsh, e1, mul_mod_l]
  generalize hx : sg wide (a % aM wide) = x
  have ex : x % aM wide = a % aM wide := by rw [← hx, sg_mod, emod_self_mod]
  have e : (a - x / 2 ^ n.toNat * 2 ^ n.toNat % aM wide) % aM wide = (x % 2 ^ n.toNat) % aM wide := by
    rw [Int.sub_emod, emod_self_mod, ← ex, ← Int.sub_emod]
    congr 1
    have := Int.mul_ediv_add_emod x (2 ^ n.toNat)
    rw [Int.mul_comm] at this
    omega
  rw [e]
  have h2 := Int.emod_nonneg x (b := 2 ^ n.toNat) (by omega)
  have h3 := Int.emod_lt_of_pos x hP
  have h4 : (2 : Int) ^ n.toNat ≤ 2 ^ n.toNat * 2 ^ (aB wide - n).toNat := by
    have := Int.mul_le_mul_of_nonneg_left (show (1 : Int) ≤ 2 ^ (aB wide - n).toNat by omega) (show (0 : Int) ≤ 2 ^ n.toNat by omega)
    omega
  rw [Int.emod_eq_of_lt h2 (by omega)]
  exact h3
/-- .. moved by as many bits more as there are: the same. -/
theorem moves_more (wide : Bool) (a n : Int) (h0 : 0 ≤ n) (h1 : n < aB wide) : aluV wide 96 0 a (n + aB wide) = aluV wide 96 0 a n := by
  obtain ⟨e1, e2⟩ := shift_of wide n h0 h1
  rw [v_lsh, v_lsh, e1, e2]

theorem pow_le_64 (k : Nat) (h : k ≤ 64) : 1 ≤ (2 : Int) ^ k ∧ (2 : Int) ^ k ≤ 18446744073709551616 := by
  have h1 := Nat.two_pow_pos k
  have h2 : 2 ^ k ≤ 2 ^ 64 := Nat.pow_le_pow_right (by decide) h
  have e : ((2 ^ k : Nat) : Int) = (2 : Int) ^ k := by push_cast; rfl
  omega
theorem pow_lt_64 (k : Nat) (h : k ≤ 63) : (2 : Int) ^ k % 18446744073709551616 = 2 ^ k := by
  have h1 := Nat.two_pow_pos k
  have h2 : 2 ^ k ≤ 2 ^ 63 := Nat.pow_le_pow_right (by decide) h
  have e : ((2 ^ k : Nat) : Int) = (2 : Int) ^ k := by push_cast; rfl
  omega

/-- A number's lowest bits, by a mask. -/
theorem and_mask (a : Int) (k : Nat) (hk : k ≤ 64) (ha : 0 ≤ a) (ha' : a ≤ 18446744073709551615) : bits .and .u64 a (2 ^ k - 1) = a % 2 ^ k := by
  have hp := Nat.two_pow_pos k
  have hle : 2 ^ k ≤ 2 ^ 64 := Nat.pow_le_pow_right (by decide) hk
  have e : ((2 ^ k : Nat) : Int) = (2 : Int) ^ k := by push_cast; rfl
  have e2 : ((2 : Int) ^ k - 1).toNat = 2 ^ k - 1 := by omega
  rw [u64_and a (2 ^ k - 1) ha (by omega) (by omega) (by omega), e2, Nat.and_two_pow_sub_one_eq_mod]
  rw [← e]
  push_cast
  rw [Int.toNat_of_nonneg ha]

/-- What is taken off what was added is as it was. -/
theorem add_sub (a b : Int) (ha : 0 ≤ a) (ha' : a ≤ 18446744073709551615) : aluV true 16 0 (aluV true 0 0 a b) b = a ∧ aluV true 0 0 (aluV true 0 0 a b) (aluV true 128 0 b 0) = a := by
  rw [v_sub, v_add, v_add, v_neg]
  show ((a + b) % 18446744073709551616 - b) % 18446744073709551616 = a ∧ ((a + b) % 18446744073709551616 + (-b) % 18446744073709551616) % 18446744073709551616 = a
  omega

end Go.Proofs.Ytfepokiibdkoeaa


/-
  What the laws of conditions say, of plain numbers. No program is named here.
-/
namespace Go.Proofs.Ytfepokiibdkoeaa
open Go Go.RowKit
set_option linter.unusedVariables false

/-! Each condition, of numbers that are cut. -/
theorem cv_0 (wide : Bool) (a b : Int) : condV 0 wide a b = true := rfl
theorem cv_16 (wide : Bool) (a b : Int) : condV 16 wide a b = decide (a % aM wide = b % aM wide) := rfl
theorem cv_80 (wide : Bool) (a b : Int) : condV 80 wide a b = !decide (a % aM wide = b % aM wide) := rfl
theorem cv_64 (wide : Bool) (a b : Int) : condV 64 wide a b = !decide ((((a % aM wide).toNat &&& (b % aM wide).toNat : Nat) : Int) = 0) := rfl
theorem cv_32 (wide : Bool) (a b : Int) : condV 32 wide a b = decide (b % aM wide < a % aM wide) := rfl
theorem cv_48 (wide : Bool) (a b : Int) : condV 48 wide a b = decide (b % aM wide ≤ a % aM wide) := rfl
theorem cv_160 (wide : Bool) (a b : Int) : condV 160 wide a b = decide (a % aM wide < b % aM wide) := rfl
theorem cv_176 (wide : Bool) (a b : Int) : condV 176 wide a b = decide (a % aM wide ≤ b % aM wide) := rfl
theorem cv_96 (wide : Bool) (a b : Int) : condV 96 wide a b = decide (sg wide (b % aM wide) < sg wide (a % aM wide)) := rfl
theorem cv_112 (wide : Bool) (a b : Int) : condV 112 wide a b = decide (sg wide (b % aM wide) ≤ sg wide (a % aM wide)) := rfl
theorem cv_192 (wide : Bool) (a b : Int) : condV 192 wide a b = decide (sg wide (a % aM wide) < sg wide (b % aM wide)) := rfl
theorem cv_208 (wide : Bool) (a b : Int) : condV 208 wide a b = decide (sg wide (a % aM wide) ≤ sg wide (b % aM wide)) := rfl

theorem sg_same (wide : Bool) (a b : Int) : sg wide (a % aM wide) = sg wide (b % aM wide) ↔ a % aM wide = b % aM wide := sg_inj wide _ _ (am_range wide a) (am_range wide b)

/-- Of less, more and the same just one holds. -/
theorem just_one (wide : Bool) (a b : Int) :
    (condV 160 wide a b = true ∧ condV 32 wide a b = false ∧ condV 16 wide a b = false) ∨ (condV 160 wide a b = false ∧ condV 32 wide a b = true ∧ condV 16 wide a b = false) ∨
      (condV 160 wide a b = false ∧ condV 32 wide a b = false ∧ condV 16 wide a b = true) := by
  rw [cv_160, cv_32, cv_16]
  simp only [decide_eq_true_eq, decide_eq_false_iff_not]
  omega
theorem just_one_signed (wide : Bool) (a b : Int) :
    (condV 192 wide a b = true ∧ condV 96 wide a b = false ∧ condV 16 wide a b = false) ∨ (condV 192 wide a b = false ∧ condV 96 wide a b = true ∧ condV 16 wide a b = false) ∨
      (condV 192 wide a b = false ∧ condV 96 wide a b = false ∧ condV 16 wide a b = true) := by
  have h := sg_same wide a b
  rw [cv_192, cv_96, cv_16]
  simp only [decide_eq_true_eq, decide_eq_false_iff_not]
  omega

/-- What is not more goes on. -/
theorem le_on (wide : Bool) (a b c : Int) (h1 : condV 176 wide a b = true) (h2 : condV 176 wide b c = true) : condV 176 wide a c = true := by
  rw [cv_176, decide_eq_true_eq] at *
  omega
theorem sle_on (wide : Bool) (a b c : Int) (h1 : condV 208 wide a b = true) (h2 : condV 208 wide b c = true) : condV 208 wide a c = true := by
  rw [cv_208, decide_eq_true_eq] at *
  omega

/-- A condition, and the one that holds just if it does not. -/
theorem not_law (op k : Int) (h : (op = 16 ∧ k = 80) ∨ (op = 80 ∧ k = 16) ∨ (op = 32 ∧ k = 176) ∨ (op = 176 ∧ k = 32) ∨ (op = 48 ∧ k = 160) ∨ (op = 160 ∧ k = 48) ∨ (op = 96 ∧ k = 208) ∨ (op = 208 ∧ k = 96) ∨ (op = 112 ∧ k = 192) ∨ (op = 192 ∧ k = 112))
    (wide : Bool) (a b : Int) : (condV op wide a b != condV k wide a b) = true := by
  rcases h with ⟨rfl, rfl⟩ | ⟨rfl, rfl⟩ | ⟨rfl, rfl⟩ | ⟨rfl, rfl⟩ | ⟨rfl, rfl⟩ | ⟨rfl, rfl⟩ | ⟨rfl, rfl⟩ | ⟨rfl, rfl⟩ | ⟨rfl, rfl⟩ | ⟨rfl, rfl⟩
  all_goals
    simp only [cv_16, cv_80, cv_32, cv_48, cv_160, cv_176, cv_96, cv_112, cv_192, cv_208]
    first | (by_cases h : a % aM wide = b % aM wide <;> simp [h]; done) | (by_cases h : b % aM wide < a % aM wide <;> simp [h] <;> omega) | (by_cases h : b % aM wide ≤ a % aM wide <;> simp [h] <;> omega) | (by_cases h : sg wide (b % aM wide) < sg wide (a % aM wide) <;> simp [h] <;> omega) | (by_cases h : sg wide (b % aM wide) ≤ sg wide (a % aM wide) <;> simp [h] <;> omega)

/-- A condition, and the one of numbers changed about. -/
theorem turn_law (op k : Int) (h : (op = 16 ∧ k = 16) ∨ (op = 80 ∧ k = 80) ∨ (op = 64 ∧ k = 64) ∨ (op = 32 ∧ k = 160) ∨ (op = 160 ∧ k = 32) ∨ (op = 48 ∧ k = 176) ∨ (op = 176 ∧ k = 48) ∨ (op = 96 ∧ k = 192) ∨ (op = 192 ∧ k = 96) ∨ (op = 112 ∧ k = 208) ∨ (op = 208 ∧ k = 112))
    (wide : Bool) (a b : Int) : condV op wide a b = condV k wide b a := by
  rcases h with ⟨rfl, rfl⟩ | ⟨rfl, rfl⟩ | ⟨rfl, rfl⟩ | ⟨rfl, rfl⟩ | ⟨rfl, rfl⟩ | ⟨rfl, rfl⟩ | ⟨rfl, rfl⟩ | ⟨rfl, rfl⟩ | ⟨rfl, rfl⟩ | ⟨rfl, rfl⟩ | ⟨rfl, rfl⟩
  · rw [cv_16, cv_16]; exact decide_eq_decide.mpr ⟨Eq.symm, Eq.symm⟩
  · rw [cv_80, cv_80]; exact congrArg _ (decide_eq_decide.mpr ⟨Eq.symm, Eq.symm⟩)
  · rw [cv_64, cv_64, Nat.and_comm]
  all_goals rfl

end Go.Proofs.Ytfepokiibdkoeaa


/-
  Plain numbers: what arithmetic makes of numbers of two spans is where Do says; what If leaves. No program is named here.
-/
namespace Go.Proofs.Ytfepokiibdkoeaa
open Go Go.RowKit
set_option linter.unusedVariables false

theorem sH_iff {s : Sp} {n : Int} : sH s n = true ↔ s.1 ≤ n ∧ n ≤ s.2 := by simp [sH]
theorem div_down {x y z : Int} (hx : 0 ≤ x) (hy : 0 < y) (hz : y ≤ z) : x / z ≤ x / y := by
  have h0 := Int.ediv_nonneg hx (show 0 ≤ z by omega)
  refine (Int.le_ediv_iff_mul_le hy).mpr ?_
  have h1 : x / z * y ≤ x / z * z := Int.mul_le_mul_of_nonneg_left hz h0
  have h2 := Int.ediv_mul_le x (b := z) (by omega)
  omega
theorem div_up {x y z : Int} (hy : 0 < y) (hz : x ≤ z) : x / y ≤ z / y := Int.ediv_le_ediv hy hz
theorem pow_up {k n : Nat} (h : k ≤ n) : (2 : Int) ^ k ≤ 2 ^ n := by
  have h1 := Nat.pow_le_pow_right (n := 2) (by decide) h
  have e1 : ((2 ^ k : Nat) : Int) = (2 : Int) ^ k := by push_cast; rfl
  have e2 : ((2 ^ n : Nat) : Int) = (2 : Int) ^ n := by push_cast; rfl
  omega
theorem and_under (x y : Int) (hx : 0 ≤ x) (hy : 0 ≤ y) : 0 ≤ ((x.toNat &&& y.toNat : Nat) : Int) ∧ ((x.toNat &&& y.toNat : Nat) : Int) ≤ x ∧ ((x.toNat &&& y.toNat : Nat) : Int) ≤ y := by
  have h1 := Nat.and_le_left (n := x.toNat) (m := y.toNat)
  have h2 := Nat.and_le_right (n := x.toNat) (m := y.toNat)
  omega

theorem wide_low {x : Int} (h : In64 x) : x % aM true = x := Int.emod_eq_of_lt h.1 (by have := h.2; show x < 18446744073709551616; omega)
theorem wide_is (x : Int) : aM true = 18446744073709551616 := rfl

theorem sdo_sound {op : Int} {s t : Sp} {x y : Int} (hs : sIn s) (ht : sIn t) (rs : sR s = true) (rt : sR t = true) (ix : In64 x) (iy : In64 y) (hx : sH s x = true) (hy : sH t y = true)
    (he : aluE true op 0 = 0) : sH (sDo op s t) (aluV true op 0 x y) = true := by
  have hrr : sRR s t = true := by unfold sRR; rw [rs, rt]; rfl
  have hr := aluV_range true op 0 x y
  have hall : sH sAll (aluV true op 0 x y) = true := sH_iff.mpr hr
  have lx := wide_low ix
  have ly := wide_low iy
  have h1 := sH_iff.mp hx
  have h2 := sH_iff.mp hy
  unfold sDo
  rw [if_pos hrr]
  unfold sDo'
  clear hrr rs rt hx hy
  unfold sIn In64 at hs ht
  unfold In64 at ix iy
  have hM : aM true = 18446744073709551616 := rfl
  by_cases o0 : op = 0
  · subst o0
    rw [if_pos rfl, v_add, hM]
    unfold sAdd
    split
    · refine sH_iff.mpr ?_
      dsimp only
      omega
    · rw [v_add, hM] at hall; exact hall
  rw [if_neg o0]
  by_cases o1 : op = 16
  · subst o1
    rw [if_pos rfl, v_sub, hM]
    unfold sSub
    split
    · refine sH_iff.mpr ?_
      dsimp only
      omega
    · rw [v_sub, hM] at hall; exact hall
  rw [if_neg o1]
  by_cases o2 : op = 32
  · subst o2
    rw [if_pos rfl, v_mul, hM]
    unfold sMul
    split
    · rename_i hm
      have m1 : s.1 * t.1 ≤ x * y := Int.mul_le_mul h1.1 h2.1 ht.1.1 ix.1
      have m2 : x * y ≤ s.2 * t.2 := Int.mul_le_mul h1.2 h2.2 iy.1 hs.2.1
      have m3 : 0 ≤ x * y := Int.mul_nonneg ix.1 iy.1
      rw [Int.emod_eq_of_lt m3 (by omega)]
      exact sH_iff.mpr ⟨m1, m2⟩
    · rw [v_mul, hM] at hall; exact hall
  rw [if_neg o2]
  by_cases o3 : op = 48 ∧ t.1 ≠ 0
  · obtain ⟨rfl, hz⟩ := o3
    rw [if_pos ⟨rfl, hz⟩, v_div0, lx, ly, hM]
    have q0 := Int.ediv_nonneg ix.1 iy.1
    have q1 := Int.ediv_le_self y ix.1
    rw [Int.emod_eq_of_lt q0 (by omega)]
    refine sH_iff.mpr ⟨?_, ?_⟩
    · exact Int.le_trans (div_down hs.1.1 (show 0 < y by omega) h2.2) (div_up (by omega) h1.1)
    · exact Int.le_trans (div_up (by omega) h1.2) (div_down hs.2.1 (show 0 < t.1 by omega) h2.1)
  rw [if_neg o3]
  by_cases o4 : op = 144 ∧ t.1 ≠ 0
  · obtain ⟨rfl, hz⟩ := o4
    rw [if_pos ⟨rfl, hz⟩, v_mod0, lx, ly, hM]
    have q0 := Int.emod_nonneg x (b := y) (by omega)
    have q1 := Int.emod_lt_of_pos x (b := y) (by omega)
    have q2 : x % y ≤ x := by
      have e := Int.mul_ediv_add_emod x y
      have e2 := Int.mul_nonneg iy.1 (Int.ediv_nonneg ix.1 iy.1)
      omega
    rw [Int.emod_eq_of_lt q0 (by omega)]
    refine sH_iff.mpr ?_
    dsimp only
    omega
  rw [if_neg o4]
  by_cases o5 : op = 80
  · subst o5
    rw [if_pos rfl, v_and, lx, ly, hM]
    obtain ⟨q0, q1, q2⟩ := and_under x y ix.1 iy.1
    rw [Int.emod_eq_of_lt q0 (by omega)]
    refine sH_iff.mpr ?_
    dsimp only
    omega
  rw [if_neg o5]
  by_cases o6 : op = 112 ∧ t.2 < 64
  · obtain ⟨rfl, hz⟩ := o6
    rw [if_pos ⟨rfl, hz⟩, v_rsh, lx, ly, hM]
    have hb : y % aB true = y := Int.emod_eq_of_lt iy.1 (by show y < 64; omega)
    rw [hb]
    have p1 := two_pow_pos y.toNat
    have p2 := two_pow_pos t.1.toNat
    have p3 := pow_up (show t.1.toNat ≤ y.toNat by omega)
    have p4 := pow_up (show y.toNat ≤ t.2.toNat by omega)
    have q0 := Int.ediv_nonneg ix.1 (b := 2 ^ y.toNat) (by omega)
    have q1 := Int.ediv_le_self (2 ^ y.toNat) ix.1
    rw [Int.emod_eq_of_lt q0 (by omega)]
    refine sH_iff.mpr ⟨?_, ?_⟩
    · exact Int.le_trans (div_down hs.1.1 p1 p4) (div_up p1 h1.1)
    · exact Int.le_trans (div_up p1 h1.2) (div_down hs.2.1 p2 p3)
  rw [if_neg o6]
  exact hall

theorem and_zero_l (x y : Int) (h : x = 0) : ((x.toNat &&& y.toNat : Nat) : Int) = 0 := by rw [h]; simp
theorem and_zero_r (x y : Int) (h : y = 0) : ((x.toNat &&& y.toNat : Nat) : Int) = 0 := by rw [h]; simp
theorem sT_ok {l h : Int} (k : l ≤ h) : sT l h = (l, h) ∧ sTok l h = true := ⟨if_neg (by omega), decide_eq_true k⟩

/-- A number of which, with one of the other span, a condition holds is in what If leaves. -/
theorem sif_has {op : Int} {s t : Sp} {x y : Int} (rs : sR s = true) (rt : sR t = true) (ix : In64 x) (iy : In64 y) (hx : sH s x = true) (hy : sH t y = true) (hc : condV op true x y = true) :
    sIfok op s t = true ∧ sH (sIf op s t) x = true := by
  have hrr : sRR s t = true := by unfold sRR; rw [rs, rt]; rfl
  have h1 := sH_iff.mp hx
  have h2 := sH_iff.mp hy
  have lx := wide_low ix
  have ly := wide_low iy
  unfold sIf sIfok
  rw [hrr, if_pos rfl, Bool.true_and]
  unfold In64 at ix iy
  by_cases o1 : op = 16
  · subst o1
    have e1 : sIf' 16 s t = sT (max s.1 t.1) (min s.2 t.2) := rfl
    have e2 : sIfok' 16 s t = sTok (max s.1 t.1) (min s.2 t.2) := rfl
    rw [cv_16, lx, ly, decide_eq_true_eq] at hc
    obtain ⟨k1, k2⟩ := sT_ok (l := max s.1 t.1) (h := min s.2 t.2) (by omega)
    rw [e1, e2, k1, k2]
    exact ⟨rfl, sH_iff.mpr (by dsimp only; omega)⟩
  by_cases o2 : op = 80
  · subst o2
    have e1 : sIf' 80 s t = sUn s t := rfl
    have e2 : sIfok' 80 s t = sUnok s t := rfl
    rw [cv_80, lx, ly] at hc
    have hc' : ¬ x = y := by simpa using hc
    rw [e1, e2]
    unfold sUn sUnok
    by_cases k : t.1 = t.2 ∧ s.1 ≤ t.1 ∧ t.1 ≤ s.2
    · rw [if_pos k, decide_eq_true k, if_neg (by omega), decide_eq_false (p := s.1 = s.2) (by omega)]
      refine ⟨rfl, ?_⟩
      split
      · exact sH_iff.mpr (by dsimp only; omega)
      · split
        · exact sH_iff.mpr (by dsimp only; omega)
        · exact hx
    · rw [if_neg k, decide_eq_false k]
      exact ⟨rfl, hx⟩
  by_cases o3 : op = 64
  · subst o3
    have e1 : sIf' 64 s t = if s.2 = 0 ∨ t.2 = 0 then (0, 0) else s := rfl
    have e2 : sIfok' 64 s t = !decide (s.2 = 0 ∨ t.2 = 0) := rfl
    rw [cv_64, lx, ly] at hc
    have hc' : ¬ ((x.toNat &&& y.toNat : Nat) : Int) = 0 := by simpa using hc
    have hn : ¬ (s.2 = 0 ∨ t.2 = 0) := by
      rintro (k | k)
      · exact hc' (and_zero_l x y (by omega))
      · exact hc' (and_zero_r x y (by omega))
    rw [e1, e2, if_neg hn, decide_eq_false hn]
    exact ⟨rfl, hx⟩
  by_cases o4 : op = 32
  · subst o4
    have e1 : sIf' 32 s t = if t.1 < s.2 then sT (max s.1 (t.1 + 1)) s.2 else (0, 0) := rfl
    have e2 : sIfok' 32 s t = (decide (t.1 < s.2) && sTok (max s.1 (t.1 + 1)) s.2) := rfl
    rw [cv_32, lx, ly, decide_eq_true_eq] at hc
    obtain ⟨k1, k2⟩ := sT_ok (l := max s.1 (t.1 + 1)) (h := s.2) (by omega)
    rw [e1, e2, if_pos (by omega), decide_eq_true (p := t.1 < s.2) (by omega), k1, k2]
    exact ⟨rfl, sH_iff.mpr (by dsimp only; omega)⟩
  by_cases o5 : op = 48
  · subst o5
    have e1 : sIf' 48 s t = if t.1 ≤ s.2 then sT (max s.1 t.1) s.2 else (0, 0) := rfl
    have e2 : sIfok' 48 s t = (decide (t.1 ≤ s.2) && sTok (max s.1 t.1) s.2) := rfl
    rw [cv_48, lx, ly, decide_eq_true_eq] at hc
    obtain ⟨k1, k2⟩ := sT_ok (l := max s.1 t.1) (h := s.2) (by omega)
    rw [e1, e2, if_pos (by omega), decide_eq_true (p := t.1 ≤ s.2) (by omega), k1, k2]
    exact ⟨rfl, sH_iff.mpr (by dsimp only; omega)⟩
  by_cases o6 : op = 160
  · subst o6
    have e1 : sIf' 160 s t = if s.1 < t.2 then sT s.1 (min s.2 (t.2 - 1)) else (0, 0) := rfl
    have e2 : sIfok' 160 s t = (decide (s.1 < t.2) && sTok s.1 (min s.2 (t.2 - 1))) := rfl
    rw [cv_160, lx, ly, decide_eq_true_eq] at hc
    obtain ⟨k1, k2⟩ := sT_ok (l := s.1) (h := min s.2 (t.2 - 1)) (by omega)
    rw [e1, e2, if_pos (by omega), decide_eq_true (p := s.1 < t.2) (by omega), k1, k2]
    exact ⟨rfl, sH_iff.mpr (by dsimp only; omega)⟩
  by_cases o7 : op = 176
  · subst o7
    have e1 : sIf' 176 s t = if s.1 ≤ t.2 then sT s.1 (min s.2 t.2) else (0, 0) := rfl
    have e2 : sIfok' 176 s t = (decide (s.1 ≤ t.2) && sTok s.1 (min s.2 t.2)) := rfl
    rw [cv_176, lx, ly, decide_eq_true_eq] at hc
    obtain ⟨k1, k2⟩ := sT_ok (l := s.1) (h := min s.2 t.2) (by omega)
    rw [e1, e2, if_pos (by omega), decide_eq_true (p := s.1 ≤ t.2) (by omega), k1, k2]
    exact ⟨rfl, sH_iff.mpr (by dsimp only; omega)⟩
  have e1 : sIf' op s t = s := by unfold sIf'; rw [if_neg o1, if_neg o2, if_neg o3, if_neg o4, if_neg o5, if_neg o6, if_neg o7]
  have e2 : sIfok' op s t = true := by unfold sIfok'; rw [if_neg o1, if_neg o2, if_neg o3, if_neg o4, if_neg o5, if_neg o6, if_neg o7]
  rw [e1, e2]
  exact ⟨rfl, hx⟩

theorem sW_mk {a b : Sp} (h1 : a.1 ≤ a.2) (h2 : b.1 ≤ b.2) (h3 : b.1 ≤ a.1) (h4 : a.2 ≤ b.2) : sW a b = true := by
  unfold sW sRR sR
  rw [decide_eq_true h1, decide_eq_true h2, decide_eq_true h3, decide_eq_true h4]
  rfl
theorem sTok_le {l h : Int} (k : sTok l h = true) : l ≤ h := of_decide_eq_true k

/-- What If leaves is of the span. -/
theorem sif_within {op : Int} {s t : Sp} (rs : sR s = true) (hok : sIfok op s t = true) : sW (sIf op s t) s = true := by
  have r1 : s.1 ≤ s.2 := of_decide_eq_true rs
  unfold sIfok at hok
  rw [Bool.and_eq_true] at hok
  obtain ⟨hrr, hok⟩ := hok
  unfold sIf
  rw [if_pos hrr]
  by_cases o1 : op = 16
  · subst o1
    have k := sTok_le (show sTok (max s.1 t.1) (min s.2 t.2) = true from hok)
    have e1 : sIf' 16 s t = sT (max s.1 t.1) (min s.2 t.2) := rfl
    rw [e1, (sT_ok k).1]
    exact sW_mk k r1 (by dsimp only; omega) (by dsimp only; omega)
  by_cases o2 : op = 80
  · subst o2
    have e1 : sIf' 80 s t = sUn s t := rfl
    have hok' : sUnok s t = true := hok
    rw [e1]
    unfold sUnok at hok'
    unfold sUn
    by_cases k : t.1 = t.2 ∧ s.1 ≤ t.1 ∧ t.1 ≤ s.2
    · rw [decide_eq_true k] at hok'
      have hne : ¬ s.1 = s.2 := by simpa using hok'
      rw [if_pos k, if_neg hne]
      split
      · exact sW_mk (by dsimp only; omega) r1 (by dsimp only; omega) (by dsimp only; omega)
      · split
        · exact sW_mk (by dsimp only; omega) r1 (by dsimp only; omega) (by dsimp only; omega)
        · exact sW_mk r1 r1 (by omega) (by omega)
    · rw [if_neg k]
      exact sW_mk r1 r1 (by omega) (by omega)
  by_cases o3 : op = 64
  · subst o3
    have e1 : sIf' 64 s t = if s.2 = 0 ∨ t.2 = 0 then (0, 0) else s := rfl
    have hok' : (!decide (s.2 = 0 ∨ t.2 = 0)) = true := hok
    have hn : ¬ (s.2 = 0 ∨ t.2 = 0) := by simpa using hok'
    rw [e1, if_neg hn]
    exact sW_mk r1 r1 (by omega) (by omega)
  by_cases o4 : op = 32
  · subst o4
    have e1 : sIf' 32 s t = if t.1 < s.2 then sT (max s.1 (t.1 + 1)) s.2 else (0, 0) := rfl
    obtain ⟨k1, k2⟩ := Bool.and_eq_true_iff.mp (show (decide (t.1 < s.2) && sTok (max s.1 (t.1 + 1)) s.2) = true from hok)
    have k := sTok_le k2
    rw [e1, if_pos (of_decide_eq_true k1), (sT_ok k).1]
    exact sW_mk k r1 (by dsimp only; omega) (by dsimp only; omega)
  by_cases o5 : op = 48
  · subst o5
    have e1 : sIf' 48 s t = if t.1 ≤ s.2 then sT (max s.1 t.1) s.2 else (0, 0) := rfl
    obtain ⟨k1, k2⟩ := Bool.and_eq_true_iff.mp (show (decide (t.1 ≤ s.2) && sTok (max s.1 t.1) s.2) = true from hok)
    have k := sTok_le k2
    rw [e1, if_pos (of_decide_eq_true k1), (sT_ok k).1]
    exact sW_mk k r1 (by dsimp only; omega) (by dsimp only; omega)
  by_cases o6 : op = 160
  · subst o6
    have e1 : sIf' 160 s t = if s.1 < t.2 then sT s.1 (min s.2 (t.2 - 1)) else (0, 0) := rfl
    obtain ⟨k1, k2⟩ := Bool.and_eq_true_iff.mp (show (decide (s.1 < t.2) && sTok s.1 (min s.2 (t.2 - 1))) = true from hok)
    have k := sTok_le k2
    rw [e1, if_pos (of_decide_eq_true k1), (sT_ok k).1]
    exact sW_mk k r1 (by dsimp only; omega) (by dsimp only; omega)
  by_cases o7 : op = 176
  · subst o7
    have e1 : sIf' 176 s t = if s.1 ≤ t.2 then sT s.1 (min s.2 t.2) else (0, 0) := rfl
    obtain ⟨k1, k2⟩ := Bool.and_eq_true_iff.mp (show (decide (s.1 ≤ t.2) && sTok s.1 (min s.2 t.2)) = true from hok)
    have k := sTok_le k2
    rw [e1, if_pos (of_decide_eq_true k1), (sT_ok k).1]
    exact sW_mk k r1 (by dsimp only; omega) (by dsimp only; omega)
  have e1 : sIf' op s t = s := by unfold sIf'; rw [if_neg o1, if_neg o2, if_neg o3, if_neg o4, if_neg o5, if_neg o6, if_neg o7]
  rw [e1]
  exact sW_mk r1 r1 (by omega) (by omega)

theorem sT_no {l h : Int} (k : sTok l h = false) : sT l h = (0, 0) := if_pos (by have := of_decide_eq_false k; omega)
theorem sif_zero {op : Int} {s t : Sp} (hok : sIfok op s t = false) : sIf op s t = (0, 0) := by
  unfold sIfok at hok
  unfold sIf
  cases hrr : sRR s t
  · rfl
  rw [hrr, Bool.true_and] at hok
  rw [if_pos rfl]
  by_cases o1 : op = 16
  · subst o1
    exact sT_no hok
  by_cases o2 : op = 80
  · subst o2
    have hok' : sUnok s t = false := hok
    unfold sUnok at hok'
    show sUn s t = (0, 0)
    unfold sUn
    by_cases k : t.1 = t.2 ∧ s.1 ≤ t.1 ∧ t.1 ≤ s.2
    · rw [decide_eq_true k] at hok'
      rw [if_pos k, if_pos (by simpa using hok')]
    · rw [decide_eq_false k] at hok'
      cases hok'
  by_cases o3 : op = 64
  · subst o3
    have hok' : (!decide (s.2 = 0 ∨ t.2 = 0)) = false := hok
    show (if s.2 = 0 ∨ t.2 = 0 then (0, 0) else s) = (0, 0)
    rw [if_pos (of_decide_eq_true (by simpa only [Bool.not_eq_false'] using hok'))]
  by_cases o4 : op = 32
  · subst o4
    have hok' : (decide (t.1 < s.2) && sTok (max s.1 (t.1 + 1)) s.2) = false := hok
    show (if t.1 < s.2 then sT (max s.1 (t.1 + 1)) s.2 else (0, 0)) = (0, 0)
    by_cases k : t.1 < s.2
    · rw [decide_eq_true k, Bool.true_and] at hok'
      rw [if_pos k, sT_no hok']
    · rw [if_neg k]
  by_cases o5 : op = 48
  · subst o5
    have hok' : (decide (t.1 ≤ s.2) && sTok (max s.1 t.1) s.2) = false := hok
    show (if t.1 ≤ s.2 then sT (max s.1 t.1) s.2 else (0, 0)) = (0, 0)
    by_cases k : t.1 ≤ s.2
    · rw [decide_eq_true k, Bool.true_and] at hok'
      rw [if_pos k, sT_no hok']
    · rw [if_neg k]
  by_cases o6 : op = 160
  · subst o6
    have hok' : (decide (s.1 < t.2) && sTok s.1 (min s.2 (t.2 - 1))) = false := hok
    show (if s.1 < t.2 then sT s.1 (min s.2 (t.2 - 1)) else (0, 0)) = (0, 0)
    by_cases k : s.1 < t.2
    · rw [decide_eq_true k, Bool.true_and] at hok'
      rw [if_pos k, sT_no hok']
    · rw [if_neg k]
  by_cases o7 : op = 176
  · subst o7
    have hok' : (decide (s.1 ≤ t.2) && sTok s.1 (min s.2 t.2)) = false := hok
    show (if s.1 ≤ t.2 then sT s.1 (min s.2 t.2) else (0, 0)) = (0, 0)
    by_cases k : s.1 ≤ t.2
    · rw [decide_eq_true k, Bool.true_and] at hok'
      rw [if_pos k, sT_no hok']
    · rw [if_neg k]
  have e2 : sIfok' op s t = true := by unfold sIfok'; rw [if_neg o1, if_neg o2, if_neg o3, if_neg o4, if_neg o5, if_neg o6, if_neg o7]
  rw [e2] at hok
  cases hok

theorem right_le {s : Sp} (h : sR s = true) : s.1 ≤ s.2 := of_decide_eq_true h
theorem sW_iff {a b : Sp} : sW a b = true ↔ (a.1 ≤ a.2 ∧ b.1 ≤ b.2) ∧ b.1 ≤ a.1 ∧ a.2 ≤ b.2 := by simp [sW, sRR, sR]
theorem sM_has {a b : Sp} {o : Int} (ra : sR a = true) (rb : sR b = true) (h : sMok a b = true) : sH (sM a b) o = (sH a o && sH b o) := by
  have h1 := right_le ra
  have h2 := right_le rb
  have k := sTok_le (show sTok (max a.1 b.1) (min a.2 b.2) = true from h)
  unfold sM
  rw [(sT_ok k).1, Bool.eq_iff_iff, Bool.and_eq_true, sH_iff, sH_iff, sH_iff]
  dsimp only
  omega
theorem sM_none {a b : Sp} {o : Int} (h : sMok a b = false) : (sH a o && sH b o) = false := by
  have k := of_decide_eq_false (show decide (max a.1 b.1 ≤ min a.2 b.2) = false from h)
  cases hq : sH a o && sH b o
  · rfl
  · rw [Bool.and_eq_true, sH_iff, sH_iff] at hq
    omega
theorem sM_within {a b : Sp} (ra : sR a = true) (rb : sR b = true) (h : sMok a b = true) : sW (sM a b) a = true ∧ sW (sM a b) b = true := by
  have h1 := right_le ra
  have h2 := right_le rb
  have k := sTok_le (show sTok (max a.1 b.1) (min a.2 b.2) = true from h)
  unfold sM
  rw [(sT_ok k).1, sW_iff, sW_iff]
  dsimp only
  omega
theorem sJ_within {a b : Sp} (ra : sR a = true) (rb : sR b = true) : sW a (sJ a b) = true ∧ sW b (sJ a b) = true := by
  have h1 := right_le ra
  have h2 := right_le rb
  unfold sJ
  rw [if_pos (by unfold sRR; rw [ra, rb]; rfl), sW_iff, sW_iff]
  dsimp only
  omega
theorem sW_all {a : Sp} (ia : sIn a) (ra : sR a = true) : sW a sAll = true := by
  have h1 := right_le ra
  unfold sIn In64 at ia
  rw [sW_iff]
  have e1 : sAll.1 = 0 := rfl
  have e2 : sAll.2 = 18446744073709551615 := rfl
  omega
theorem sW_on {a b c : Sp} (h1 : sW a b = true) (h2 : sW b c = true) : sW a c = true := by
  rw [sW_iff] at *
  omega

end Go.Proofs.Ytfepokiibdkoeaa


/-
  Plain numbers: what is known of a number, brought in line. No program is named here.
-/
namespace Go.Proofs.Ytfepokiibdkoeaa
open Go Go.RowKit
set_option linter.unusedVariables false

/-! How many bits a number has; the numbers of so many bits. -/
def bl (x : BitVec 64) : Nat := if x = 0#64 then 0 else x.toNat.log2 + 1
theorem bl_iff (x : BitVec 64) (j : Nat) : bl x ≤ j ↔ x.toNat < 2 ^ j := by
  unfold bl
  split
  · rename_i h
    subst h
    simp [Nat.two_pow_pos]
  · rename_i h
    have hx : x.toNat ≠ 0 := fun k => h (BitVec.eq_of_toNat_eq (by simpa using k))
    rw [Nat.succ_le_iff, Nat.log2_lt hx]
theorem bl_le (x : BitVec 64) : bl x ≤ 64 := (bl_iff x 64).mpr x.isLt
def mk (k : Nat) : BitVec 64 := BitVec.ofNat 64 (2 ^ k - 1)
theorem mk_bit (k : Nat) {i : Nat} (hi : i < 64) : (mk k).getLsbD i = decide (i < k) := by
  unfold mk
  rw [BitVec.getLsbD_ofNat, Nat.testBit_two_pow_sub_one]
  simp [hi]
theorem bit_div (x : BitVec 64) (k i : Nat) : (x.toNat / 2 ^ k).testBit i = x.getLsbD (k + i) := by
  rw [Nat.testBit_div_two_pow, Nat.add_comm]
  rfl
theorem hi_iff (x y : BitVec 64) (k : Nat) : (x ^^^ y).toNat < 2 ^ k ↔ x.toNat / 2 ^ k = y.toNat / 2 ^ k := by
  constructor
  · intro h
    apply Nat.eq_of_testBit_eq
    intro i
    rw [bit_div, bit_div]
    have h1 : (x ^^^ y).toNat.testBit (k + i) = false := Nat.testBit_lt_two_pow (Nat.lt_of_lt_of_le h (Nat.pow_le_pow_right (by decide) (by omega)))
    have h2 : (x ^^^ y).getLsbD (k + i) = false := h1
    rw [BitVec.getLsbD_xor] at h2
    revert h2
    cases x.getLsbD (k + i) <;> cases y.getLsbD (k + i) <;> simp
  · intro h
    apply Nat.lt_pow_two_of_testBit
    intro i hi
    show (x ^^^ y).getLsbD i = false
    have h1 := congrArg (fun n => n.testBit (i - k)) h
    simp only [bit_div] at h1
    rw [show k + (i - k) = i by omega] at h1
    rw [BitVec.getLsbD_xor, h1]
    simp
theorem hi_bit {x y : BitVec 64} {k : Nat} (h : x.toNat / 2 ^ k = y.toNat / 2 ^ k) {i : Nat} (hi : k ≤ i) : x.getLsbD i = y.getLsbD i := by
  have h1 := congrArg (fun n => n.testBit (i - k)) h
  simp only [bit_div] at h1
  rw [show k + (i - k) = i by omega] at h1
  exact h1

/-- What a range tells of bits. -/
def rng (l h : BitVec 64) : Tn := tMade l (mk (bl (l ^^^ h)))
theorem rng_right (l h : BitVec 64) : tR (rng l h) = true := made_right _ _
theorem rng_bit (l h : BitVec 64) {i : Nat} (hi : i < 64) : (rng l h).1.getLsbD i = (l.getLsbD i && !decide (i < bl (l ^^^ h))) ∧ (rng l h).2.getLsbD i = decide (i < bl (l ^^^ h)) := by
  obtain ⟨e1, e2⟩ := made_bit l (mk (bl (l ^^^ h))) hi
  unfold rng
  rw [e1, e2, mk_bit _ hi]
  exact ⟨rfl, rfl⟩
theorem hi_of {l h n : BitVec 64} (h1 : l.toNat ≤ n.toNat) (h2 : n.toNat ≤ h.toNat) : n.toNat / 2 ^ bl (l ^^^ h) = l.toNat / 2 ^ bl (l ^^^ h) := by
  have e := (hi_iff l h _).mp ((bl_iff (l ^^^ h) _).mp (Nat.le_refl _))
  have d1 := Nat.div_le_div_right (c := 2 ^ bl (l ^^^ h)) h1
  have d2 := Nat.div_le_div_right (c := 2 ^ bl (l ^^^ h)) h2
  omega
theorem rng_has {l h n : BitVec 64} (h1 : l.toNat ≤ n.toNat) (h2 : n.toNat ≤ h.toNat) : tH (rng l h) n = true := by
  rw [tH_iff]
  intro i hi
  obtain ⟨e1, e2⟩ := rng_bit l h hi
  rw [e1, e2]
  by_cases k : i < bl (l ^^^ h)
  · simp [k]
  · rw [hi_bit (hi_of h1 h2) (by omega)]
theorem rng_mono {l h a b : BitVec 64} (h1 : l.toNat ≤ a.toNat) (h2 : a.toNat ≤ b.toNat) (h3 : b.toNat ≤ h.toNat) : tW (rng a b) (rng l h) = true := by
  have ea := hi_of h1 (Nat.le_trans h2 h3)
  have eb := hi_of (Nat.le_trans h1 h2) h3
  have hk : bl (a ^^^ b) ≤ bl (l ^^^ h) := by
    rw [bl_iff, hi_iff, ea, eb]
  rw [tW_iff]
  refine ⟨rng_right _ _, fun i hi => ?_⟩
  obtain ⟨e1, e2⟩ := rng_bit l h hi
  obtain ⟨e3, e4⟩ := rng_bit a b hi
  rw [e1, e2, e3, e4]
  by_cases k : i < bl (l ^^^ h)
  · simp [k]
  · have k' : ¬ i < bl (a ^^^ b) := by omega
    rw [hi_bit ea (by omega)]
    simp [k, k']

/-! A fact: what is known of bits, and from where to where. -/
abbrev Fc := Tn × Sp
abbrev fV (f : Fc) : Value := .agg #[uV f.1.1, uV f.1.2, .int .u64 f.2.1, .int .u64 f.2.2]
def fRR (f : Fc) : Bool := tR f.1 && sR f.2
def fIn (f : Fc) : Prop := sIn f.2
def fHas (f : Fc) (n : BitVec 64) : Bool := tH f.1 n && sH f.2 n.toNat
def fLe (a b : Fc) : Bool := tW a.1 b.1 && sW a.2 b.2
def bSp (t : Tn) : Sp := ((t.1.toNat : Int), ((t.1 ||| t.2).toNat : Int))
def rS (s : Sp) : Tn := rng (BitVec.ofInt 64 s.1) (BitVec.ofInt 64 s.2)
def rdS (f : Fc) : Sp := sM f.2 (bSp f.1)
def rdok (f : Fc) : Bool := sMok f.2 (bSp f.1) && tMok f.1 (rS (rdS f))
/-- One round. -/
def rd (f : Fc) : Fc := (tM f.1 (rS (rdS f)), rdS f)
def fIt : Nat → Fc → Option Fc
  | 0, f => some f
  | n + 1, f => if rdok f then (if rd f = f then some f else fIt n (rd f)) else none
def fS (f : Fc) : Option Fc := if fRR f then fIt 80 f else none

theorem ofInt_nat {x : Int} (h : In64 x) : ((BitVec.ofInt 64 x).toNat : Int) = x := by
  unfold In64 at h
  rw [BitVec.toNat_ofInt]
  omega
theorem fRR_iff {f : Fc} : fRR f = true ↔ tR f.1 = true ∧ sR f.2 = true := Bool.and_eq_true_iff
theorem fHas_iff {f : Fc} {n : BitVec 64} : fHas f n = true ↔ tH f.1 n = true ∧ sH f.2 n.toNat = true := Bool.and_eq_true_iff
theorem fLe_iff {a b : Fc} : fLe a b = true ↔ tW a.1 b.1 = true ∧ sW a.2 b.2 = true := Bool.and_eq_true_iff
theorem rdok_iff {f : Fc} : rdok f = true ↔ sMok f.2 (bSp f.1) = true ∧ tMok f.1 (rS (rdS f)) = true := Bool.and_eq_true_iff
theorem bSp_in (t : Tn) : sIn (bSp t) := by
  have h1 := bv_rng t.1
  have h2 := bv_rng (t.1 ||| t.2)
  exact ⟨h1, h2⟩
theorem bSp_has {t : Tn} {n : BitVec 64} (rt : tR t = true) (h : tH t n = true) : sH (bSp t) n.toNat = true := by
  have hb := between t n rt h 64
  rw [Nat.mod_eq_of_lt t.1.isLt, Nat.mod_eq_of_lt n.isLt, Nat.mod_eq_of_lt (most t).isLt] at hb
  refine sH_iff.mpr ?_
  have e : (bSp t).2 = ((most t).toNat : Int) := rfl
  have e1 : (bSp t).1 = (t.1.toNat : Int) := rfl
  omega
theorem bSp_right {t : Tn} (rt : tR t = true) : sR (bSp t) = true := by
  have hp : tH t t.1 = true := by
    rw [tH_iff]
    rw [tR_iff] at rt
    intro i hi
    have h := rt i hi
    revert h
    cases t.1.getLsbD i <;> cases t.2.getLsbD i <;> simp
  have h := sH_iff.mp (bSp_has rt hp)
  exact decide_eq_true (by omega)
theorem sM_in {a b : Sp} (ha : sIn a) (hb : sIn b) : sIn (sM a b) := by
  unfold sIn In64 sM sT at *
  split <;> (dsimp only; omega)
theorem rS_right (s : Sp) : tR (rS s) = true := rng_right _ _
theorem rS_has {s : Sp} (hs : sIn s) {n : BitVec 64} (h : sH s n.toNat = true) : tH (rS s) n = true := by
  have h1 := sH_iff.mp h
  have e1 := ofInt_nat hs.1
  have e2 := ofInt_nat hs.2
  exact rng_has (by omega) (by omega)
theorem rS_mono {s a : Sp} (hs : sIn s) (ha : sIn a) (h : sW a s = true) : tW (rS a) (rS s) = true := by
  have h1 := sW_iff.mp h
  have e1 := ofInt_nat hs.1
  have e2 := ofInt_nat hs.2
  have e3 := ofInt_nat ha.1
  have e4 := ofInt_nat ha.2
  exact rng_mono (by omega) (by omega) (by omega)
theorem bSp_mono {a b : Tn} (h : tW a b = true) (rb : tR b = true) : sW (bSp a) (bSp b) = true := by
  have ra := ((tW_iff a b).mp h).1
  have h1 : tH a a.1 = true := by
    rw [tH_iff]
    rw [tR_iff] at ra
    intro i hi
    have h := ra i hi
    revert h
    cases a.1.getLsbD i <;> cases a.2.getLsbD i <;> simp
  have h2 : tH a (most a) = true := by
    rw [tH_iff]
    rw [tR_iff] at ra
    intro i hi
    have h := ra i hi
    unfold most
    rw [BitVec.getLsbD_or]
    revert h
    cases a.1.getLsbD i <;> cases a.2.getLsbD i <;> simp
  have k1 := sH_iff.mp (bSp_has rb (within_has h h1))
  have k2 := sH_iff.mp (bSp_has rb (within_has h h2))
  have k3 := right_le (bSp_right ra)
  have k4 := right_le (bSp_right rb)
  have e1 : (bSp a).1 = (a.1.toNat : Int) := rfl
  have e2 : (bSp a).2 = ((most a).toNat : Int) := rfl
  exact sW_mk (by omega) (by omega) (by omega) (by omega)

theorem rdS_in {f : Fc} (hf : fIn f) : sIn (rdS f) := sM_in hf (bSp_in _)
theorem rd_in {f : Fc} (hf : fIn f) : fIn (rd f) := rdS_in hf
theorem rd_right {f : Fc} (h : rdok f = true) : fRR (rd f) = true := by
  obtain ⟨h1, h2⟩ := rdok_iff.mp h
  refine fRR_iff.mpr ⟨meet_right h2, ?_⟩
  have k := sTok_le (show sTok _ _ = true from h1)
  show sR (sM f.2 (bSp f.1)) = true
  unfold sM
  rw [(sT_ok k).1]
  exact decide_eq_true k
/-- A number that may be it may be it behind a round. -/
theorem rd_has {f : Fc} (hf : fIn f) (hr : fRR f = true) {n : BitVec 64} (h : fHas f n = true) : rdok f = true ∧ fHas (rd f) n = true := by
  obtain ⟨rt, rs⟩ := fRR_iff.mp hr
  obtain ⟨h1, h2⟩ := fHas_iff.mp h
  have h3 := bSp_has rt h1
  have hok : sMok f.2 (bSp f.1) = true := by
    cases hq : sMok f.2 (bSp f.1)
    · have hn := sM_none (o := n.toNat) hq
      rw [h2, h3] at hn
      cases hn
    · rfl
  have hs : sH (rdS f) n.toNat = true := by
    have := sM_has (o := n.toNat) rs (bSp_right rt) hok
    rw [h2, h3] at this
    exact this
  have ht := meet_has rt (rS_right (rdS f)) n
  rw [h1, rS_has (rdS_in hf) hs, Bool.and_self] at ht
  have ht' := Bool.and_eq_true_iff.mp ht.symm
  exact ⟨rdok_iff.mpr ⟨hok, ht'.1⟩, fHas_iff.mpr ⟨ht'.2, hs⟩⟩
/-- A round makes nothing more. -/
theorem rd_le {f : Fc} (hr : fRR f = true) (h : rdok f = true) : fLe (rd f) f = true := by
  obtain ⟨rt, rs⟩ := fRR_iff.mp hr
  obtain ⟨h1, h2⟩ := rdok_iff.mp h
  exact fLe_iff.mpr ⟨(meet_within rt (rS_right _) h2).1, (sM_within rs (bSp_right rt) h1).1⟩

end Go.Proofs.Ytfepokiibdkoeaa


/-
  How many bits a number has: math/bits' Len64 tells it.
  Conditions: none; the number is one of 64 bits.
-/
namespace Go.Proofs.Ytfepokiibdkoeaa
open Go.RowKit
set_option linter.unusedVariables false

theorem lt_halvings : ∀ (f x : Nat), x < 2 ^ f → x < 2 ^ Lib.bitLenAux f x := by
  intro f
  induction f with
  | zero => intro x h; exact h
  | succ f ih =>
    intro x h
    unfold Lib.bitLenAux
    split
    · rename_i h0
      rw [h0]
      decide
    · have h1 := ih (x / 2) (by rw [Nat.pow_succ] at h; omega)
      rw [Nat.pow_add]
      omega
theorem bitLen_bl (x : BitVec 64) : Lib.bitLen x.toNat = bl x := by
  apply Nat.le_antisymm
  · exact Lib.bitLen_le _ _ (bl_le x) ((bl_iff x _).mp (Nat.le_refl _))
  · rw [bl_iff]
    exact lt_halvings 64 _ x.isLt

theorem tab_at (i : Nat) (h : i < Lib.len8tab.size) : Lib.len8tab[i].toNat = Lib.bitLen i ∧ Lib.bitLen i ≤ 8 := by
  have h' : i < 256 := by rw [Lib.len8tab_size] at h; exact h
  have e := Lib.len8_eq ⟨i, h'⟩
  have l := Lib.bitLen_le8 ⟨i, h'⟩
  unfold Lib.len8 at e
  have e2 : (((Lib.len8tab[i]?).getD 0).toNat : Int) = (Lib.bitLen i : Int) := e
  rw [getElem?_pos Lib.len8tab i h] at e2
  exact ⟨by exact_mod_cast e2, l⟩
theorem bits_above (x y k : Nat) (hx : x < 18446744073709551616) (e : x / 2 ^ k = y) (h : k = 0 ∨ 2 ^ k ≤ x) : Lib.bitLen x = k + Lib.bitLen y := by
  rcases h with rfl | h
  · rw [← e]; simp
  · rw [← e]
    exact Lib.bitLen_shift k x h hx

theorem wrap_tab (x y m : Int) (k P : Nat) (hm : m = k) (hk : k ≤ 56) (hP : 2 ^ k = P) (h0 : 0 ≤ x) (h1 : x ≤ 18446744073709551615) (e : x.toNat / P = y.toNat) (h : k = 0 ∨ P ≤ x.toNat) (hl : Lib.bitLen y.toNat ≤ 8) :
    wrap64 (m + wrap64 (Lib.bitLen y.toNat : Int)) = (Lib.bitLen x.toNat : Int) := by
  subst hP
  rw [bits_above x.toNat y.toNat k (by omega) e h, hm]
  unfold wrap64
  omega
theorem wrap_tab0 (x : Int) (hl : Lib.bitLen x.toNat ≤ 8) : wrap64 (wrap64 (Lib.bitLen x.toNat : Int)) = (Lib.bitLen x.toNat : Int) := by
  unfold wrap64
  omega

set_option maxHeartbeats 4000000 in
set_option maxRecDepth 100000 in
theorem len64_int (x : Int) (w : World) (h0 : 0 ≤ x) (h1 : x ≤ 18446744073709551615) :
    Calls Try.prog 103 #[.int .u64 x] w fun e w' => e = .returned (.int .i64 (Lib.bitLen x.toNat)) ∧ w = w' := by
  go_enter Try.func103, Try.ntmps103
  go_wp2
  all_goals first
    | (exfalso; rename_i h; exact h (by rw [Lib.len8tab_size]; omega))
    | (go_ret; refine ⟨congrArg Ending.returned (congrArg (Value.int IntKind.i64) ?_), rfl⟩)
  all_goals
    rename_i h
    first
      | have hs := (Int.toNat_lt' (n := Lib.len8tab.size) (by rw [Lib.len8tab_size]; decide)).mpr h.2
      | have hs := (Int.toNat_lt' (n := Lib.len8tab.size) (by rw [Lib.len8tab_size]; decide)).mpr h
    obtain ⟨t1, t2⟩ := tab_at _ hs
    rw [t1]
    first
      | exact wrap_tab x _ _ 56 72057594037927936 rfl (by decide) (by decide) h0 h1 (by omega) (by omega) t2
      | exact wrap_tab x _ _ 48 281474976710656 rfl (by decide) (by decide) h0 h1 (by omega) (by omega) t2
      | exact wrap_tab x _ _ 40 1099511627776 rfl (by decide) (by decide) h0 h1 (by omega) (by omega) t2
      | exact wrap_tab x _ _ 32 4294967296 rfl (by decide) (by decide) h0 h1 (by omega) (by omega) t2
      | exact wrap_tab x _ _ 24 16777216 rfl (by decide) (by decide) h0 h1 (by omega) (by omega) t2
      | exact wrap_tab x _ _ 16 65536 rfl (by decide) (by decide) h0 h1 (by omega) (by omega) t2
      | exact wrap_tab x _ _ 8 256 rfl (by decide) (by decide) h0 h1 (by omega) (by omega) t2
      | exact wrap_tab x _ _ 0 1 rfl (by decide) (by decide) h0 h1 (by omega) (by omega) t2
      | exact wrap_tab0 x t2

theorem len64_says (x : BitVec 64) (w : World) : Calls Try.prog 103 #[uV x] w fun e w' => e = .returned (.int .i64 (bl x : Int)) ∧ w = w' := by
  have h := bv_rng x
  have h1 := len64_int (x.toNat : Int) w h.1 h.2
  rw [Int.toNat_natCast, bitLen_bl] at h1
  exact h1

end Go.Proofs.Ytfepokiibdkoeaa


/-
  Plain numbers: rounds come to an end, and what they come to. No program is named here.
-/
namespace Go.Proofs.Ytfepokiibdkoeaa
open Go Go.RowKit
set_option linter.unusedVariables false

/-! How many of the lowest k bits are not known. -/
def pcTo (m : BitVec 64) : Nat → Nat
  | 0 => 0
  | k + 1 => pcTo m k + (if m.getLsbD k then 1 else 0)
theorem pcTo_le (m : BitVec 64) : ∀ k, pcTo m k ≤ k
  | 0 => Nat.le_refl _
  | k + 1 => by
    have := pcTo_le m k
    unfold pcTo
    split <;> omega
theorem pcTo_sub {m n : BitVec 64} (h : ∀ i, i < 64 → m.getLsbD i = true → n.getLsbD i = true) : ∀ k, k ≤ 64 → pcTo m k ≤ pcTo n k
  | 0, _ => Nat.le_refl _
  | k + 1, hk => by
    have ih := pcTo_sub h k (by omega)
    have h1 := h k (by omega)
    unfold pcTo
    cases hm : m.getLsbD k
    · simp; omega
    · rw [h1 hm]; simp; omega
theorem pcTo_lt {m n : BitVec 64} (h : ∀ i, i < 64 → m.getLsbD i = true → n.getLsbD i = true) {j : Nat} (h1 : m.getLsbD j = false) (h2 : n.getLsbD j = true) : ∀ k, k ≤ 64 → j < k → pcTo m k < pcTo n k
  | 0, _, hj => by omega
  | k + 1, hk, hj => by
    unfold pcTo
    by_cases e : j = k
    · subst e
      have := pcTo_sub h j (by omega)
      rw [h1, h2]
      simp; omega
    · have ih := pcTo_lt h h1 h2 k (by omega) (by omega)
      have h3 := h k (by omega)
      cases hm : m.getLsbD k
      · simp; omega
      · rw [h3 hm]; simp; omega
def pc (f : Fc) : Nat := pcTo f.1.2 64
theorem pc_le (f : Fc) : pc f ≤ 64 := pcTo_le _ _

theorem tW_same {a b : Tn} (h : tW a b = true) (e : a.2 = b.2) : a = b := by
  obtain ⟨ra, h1⟩ := (tW_iff a b).mp h
  rw [tR_iff] at ra
  apply pair_ext
  intro i hi
  have h2 := ra i hi
  have h3 := (h1 i hi).2
  rw [e] at h2
  refine ⟨?_, by rw [e]⟩
  revert h2 h3
  cases a.1.getLsbD i <;> cases b.1.getLsbD i <;> cases b.2.getLsbD i <;> simp
theorem tW_less {a b : Tn} (h : tW a b = true) (e : ¬ a.2 = b.2) : pcTo a.2 64 < pcTo b.2 64 := by
  obtain ⟨ra, h1⟩ := (tW_iff a b).mp h
  have hs : ∀ i, i < 64 → a.2.getLsbD i = true → b.2.getLsbD i = true := by
    intro i hi ha
    have h2 := (h1 i hi).1
    rw [ha] at h2
    simpa using h2
  have hj : ∃ j, j < 64 ∧ a.2.getLsbD j = false ∧ b.2.getLsbD j = true := by
    apply Classical.byContradiction
    intro hn
    apply e
    rw [bv_ext]
    intro i hi
    have h2 := hs i hi
    cases ha : a.2.getLsbD i
    · cases hb : b.2.getLsbD i
      · rfl
      · exact absurd ⟨i, hi, ha, hb⟩ hn
    · exact (h2 ha).symm
  obtain ⟨j, hj, ha, hb⟩ := hj
  exact pcTo_lt hs ha hb 64 (Nat.le_refl _) hj

theorem sM_again {a b : Sp} (h : sMok a b = true) : sM (sM a b) b = sM a b := by
  have k := sTok_le (show sTok (max a.1 b.1) (min a.2 b.2) = true from h)
  have e : sM a b = (max a.1 b.1, min a.2 b.2) := (sT_ok k).1
  rw [e]
  unfold sM sT
  dsimp only
  rw [show max (max a.1 b.1) b.1 = max a.1 b.1 by omega, show min (min a.2 b.2) b.2 = min a.2 b.2 by omega, if_neg (by omega)]

/-- A round that makes no bit known is followed by one that changes nothing. -/
theorem rd_again {f : Fc} (h : rdok f = true) (e : (rd f).1 = f.1) : rd (rd f) = rd f := by
  have hs : rdS (rd f) = rdS f := by
    show sM (rdS f) (bSp (rd f).1) = _
    rw [e]
    exact sM_again (rdok_iff.mp h).1
  have h1 : rd (rd f) = (tM (rd f).1 (rS (rdS (rd f))), rdS (rd f)) := rfl
  rw [h1, hs, e]
  rfl
/-- Either a round makes a bit known, or it makes none. -/
theorem rd_less {f : Fc} (hr : fRR f = true) (h : rdok f = true) : (rd f).1 = f.1 ∨ pc (rd f) < pc f := by
  have hw := (fLe_iff.mp (rd_le hr h)).1
  by_cases e : (rd f).1.2 = f.1.2
  · exact .inl (tW_same hw e)
  · exact .inr (tW_less hw e)

theorem fIt_no {n : Nat} {f : Fc} (h : rdok f = false) : fIt (n + 1) f = none := by unfold fIt; rw [h]; rfl
theorem fIt_end {n : Nat} {f : Fc} (h : rdok f = true) (e : rd f = f) : fIt (n + 1) f = some f := by unfold fIt; rw [if_pos h, if_pos e]
theorem fIt_on {n : Nat} {f : Fc} (h : rdok f = true) (e : ¬ rd f = f) : fIt (n + 1) f = fIt n (rd f) := by
  have e1 : fIt (n + 1) f = if rdok f then (if rd f = f then some f else fIt n (rd f)) else none := rfl
  rw [e1, if_pos h, if_neg e]

theorem fIt_irrel : ∀ (n m : Nat) (f : Fc), fRR f = true → pc f + 2 ≤ n → pc f + 2 ≤ m → fIt n f = fIt m f
  | 0, _, _, _, h, _ => by omega
  | n + 1, 0, _, _, _, h => by omega
  | n + 1, m + 1, f, hr, hn, hm => by
    cases h : rdok f
    · rw [fIt_no h, fIt_no h]
    · by_cases e : rd f = f
      · rw [fIt_end h e, fIt_end h e]
      · rw [fIt_on h e, fIt_on h e]
        rcases rd_less hr h with k | k
        · obtain ⟨p, rfl⟩ : ∃ p, n = p + 1 := ⟨n - 1, by omega⟩
          obtain ⟨q, rfl⟩ : ∃ q, m = q + 1 := ⟨m - 1, by omega⟩
          cases h2 : rdok (rd f)
          · rw [fIt_no h2, fIt_no h2]
          · rw [fIt_end h2 (rd_again h k), fIt_end h2 (rd_again h k)]
        · exact fIt_irrel n m (rd f) (rd_right h) (by omega) (by omega)

/-- What rounds come to, from a fact on whose bits and range are right. -/
def fE (f : Fc) : Option Fc := fIt (pc f + 2) f
theorem fE_it {n : Nat} {f : Fc} (hr : fRR f = true) (h : pc f + 2 ≤ n) : fIt n f = fE f := fIt_irrel _ _ f hr h (Nat.le_refl _)
theorem fS_eq (f : Fc) : fS f = if fRR f then fE f else none := by
  unfold fS
  cases h : fRR f
  · rfl
  · rw [if_pos rfl, if_pos rfl]
    exact fE_it h (by have := pc_le f; omega)
theorem fE_no {f : Fc} (h : rdok f = false) : fE f = none := fIt_no h
theorem fE_end {f : Fc} (h : rdok f = true) (e : rd f = f) : fE f = some f := fIt_end h e
theorem fE_on {f : Fc} (hr : fRR f = true) (h : rdok f = true) (e : ¬ rd f = f) : fE f = fE (rd f) := by
  have h1 : fIt 100 f = fE f := fE_it hr (by have := pc_le f; omega)
  have h2 : fIt 99 (rd f) = fE (rd f) := fE_it (rd_right h) (by have := pc_le (rd f); omega)
  rw [← h1, ← h2]
  exact fIt_on h e
/-- What goes down from round to round. -/
def fM (f : Fc) : Nat := 2 * pc f + (if rd f = f then 0 else 1)
theorem fM_less {f : Fc} (hr : fRR f = true) (h : rdok f = true) (e : ¬ rd f = f) : fM (rd f) < fM f := by
  unfold fM
  rw [if_neg e]
  rcases rd_less hr h with k | k
  · rw [if_pos (rd_again h k)]
    have : pc (rd f) = pc f := by unfold pc; rw [k]
    omega
  · split <;> omega

/-- A fact that is settled. -/
def fFix (f : Fc) : Prop := fRR f = true ∧ rdok f = true ∧ rd f = f
/-- A way to show something of what rounds come to. -/
theorem fE_ind {P : Fc → Prop} (step : ∀ f, fRR f = true → rdok f = true → P f → P (rd f)) : ∀ (n : Nat) (f g : Fc), fM f ≤ n → fRR f = true → P f → fE f = some g → P g ∧ fFix g := by
  intro n
  induction n with
  | zero =>
    intro f g hn hr hp he
    cases h : rdok f
    · rw [fE_no h] at he; cases he
    · by_cases e : rd f = f
      · rw [fE_end h e] at he
        cases he
        exact ⟨hp, hr, h, e⟩
      · have := fM_less hr h e
        omega
  | succ n ih =>
    intro f g hn hr hp he
    cases h : rdok f
    · rw [fE_no h] at he; cases he
    · by_cases e : rd f = f
      · rw [fE_end h e] at he
        cases he
        exact ⟨hp, hr, h, e⟩
      · rw [fE_on hr h e] at he
        exact ih (rd f) g (by have := fM_less hr h e; omega) (rd_right h) (step f hr h hp) he
/-- A way to show that rounds come to something. -/
theorem fE_some {P : Fc → Prop} (step : ∀ f, fRR f = true → P f → rdok f = true ∧ P (rd f)) : ∀ (n : Nat) (f : Fc), fM f ≤ n → fRR f = true → P f → ∃ g, fE f = some g := by
  intro n
  induction n with
  | zero =>
    intro f hn hr hp
    obtain ⟨h, hp'⟩ := step f hr hp
    by_cases e : rd f = f
    · exact ⟨f, fE_end h e⟩
    · have := fM_less hr h e
      omega
  | succ n ih =>
    intro f hn hr hp
    obtain ⟨h, hp'⟩ := step f hr hp
    by_cases e : rd f = f
    · exact ⟨f, fE_end h e⟩
    · rw [fE_on hr h e]
      exact ih (rd f) (by have := fM_less hr h e; omega) (rd_right h) hp'

theorem fS_some {f g : Fc} (h : fS f = some g) : fRR f = true ∧ fE f = some g := by
  rw [fS_eq] at h
  cases hr : fRR f
  · rw [hr] at h; cases h
  · rw [hr] at h; exact ⟨rfl, h⟩
theorem fS_fix {f g : Fc} (h : fS f = some g) : fFix g := by
  obtain ⟨hr, he⟩ := fS_some h
  exact (fE_ind (P := fun _ => True) (fun _ _ _ _ => trivial) _ f g (Nat.le_refl _) hr trivial he).2
theorem fS_in {f g : Fc} (hf : fIn f) (h : fS f = some g) : fIn g := by
  obtain ⟨hr, he⟩ := fS_some h
  exact (fE_ind (P := fIn) (fun _ _ _ hp => rd_in hp) _ f g (Nat.le_refl _) hr hf he).1
theorem fLe_on {a b c : Fc} (h1 : fLe a b = true) (h2 : fLe b c = true) : fLe a c = true := by
  obtain ⟨a1, a2⟩ := fLe_iff.mp h1
  obtain ⟨b1, b2⟩ := fLe_iff.mp h2
  exact fLe_iff.mpr ⟨within_on a1 b1, sW_on a2 b2⟩
theorem fLe_self {f : Fc} (hr : fRR f = true) : fLe f f = true := by
  obtain ⟨h1, h2⟩ := fRR_iff.mp hr
  have h3 := right_le h2
  exact fLe_iff.mpr ⟨within_self h1, sW_mk h3 h3 (Int.le_refl _) (Int.le_refl _)⟩
/-- What is settled is within what it was. -/
theorem fS_le {f g : Fc} (h : fS f = some g) : fLe g f = true := by
  obtain ⟨hr, he⟩ := fS_some h
  exact (fE_ind (P := fun x => fLe x f = true) (fun x hx hk hp => fLe_on (rd_le hx hk) hp) _ f g (Nat.le_refl _) hr (fLe_self hr) he).1
/-- A number that may be it may be what it is settled to. -/
theorem fS_has {f : Fc} {n : BitVec 64} (hf : fIn f) (hr : fRR f = true) (h : fHas f n = true) : ∃ g, fS f = some g ∧ fHas g n = true := by
  obtain ⟨g, hg⟩ := fE_some (P := fun x => fIn x ∧ fHas x n = true) (fun x hx hp => ⟨(rd_has hp.1 hx hp.2).1, rd_in hp.1, (rd_has hp.1 hx hp.2).2⟩) _ f (Nat.le_refl _) hr ⟨hf, h⟩
  have := (fE_ind (P := fun x => fIn x ∧ fHas x n = true) (fun x hx hk hp => ⟨rd_in hp.1, (rd_has hp.1 hx hp.2).2⟩) _ f g (Nat.le_refl _) hr ⟨hf, h⟩ hg).1
  exact ⟨g, by rw [fS_eq, if_pos hr, hg], this.2⟩
theorem fFix_S {f : Fc} (h : fFix f) : fS f = some f := by
  rw [fS_eq, if_pos h.1]
  exact fE_end h.2.1 h.2.2

/-! What is within, stays within. -/
theorem sM_mono {a b c : Sp} (h1 : sW a b = true) (h2 : sW a c = true) : sMok b c = true ∧ sW a (sM b c) = true := by
  have k1 := sW_iff.mp h1
  have k2 := sW_iff.mp h2
  have k : max b.1 c.1 ≤ min b.2 c.2 := by omega
  obtain ⟨e1, e2⟩ := sT_ok k
  refine ⟨e2, ?_⟩
  unfold sM
  rw [e1]
  exact sW_mk (by omega) k (by dsimp only; omega) (by dsimp only; omega)
theorem tM_mono {a b c : Tn} (rb : tR b = true) (rc : tR c = true) (h1 : tW a b = true) (h2 : tW a c = true) : tMok b c = true ∧ tW a (tM b c) = true := by
  obtain ⟨ra, k1⟩ := (tW_iff a b).mp h1
  obtain ⟨_, k2⟩ := (tW_iff a c).mp h2
  have hok : tMok b c = true := by
    rw [mok_iff rb rc]
    intro i hi
    have e1 := (k1 i hi).2
    have e2 := (k2 i hi).2
    revert e1 e2
    cases a.1.getLsbD i <;> cases b.1.getLsbD i <;> cases b.2.getLsbD i <;> cases c.1.getLsbD i <;> cases c.2.getLsbD i <;> simp
  refine ⟨hok, ?_⟩
  rw [tW_iff]
  refine ⟨ra, fun i hi => ?_⟩
  have e1 := k1 i hi
  have e2 := k2 i hi
  obtain ⟨m1, m2⟩ := meet_bit hok hi
  rw [m1, m2]
  rw [tR_iff] at rb rc
  have r1 := rb i hi
  have r2 := rc i hi
  revert e1 e2 r1 r2
  cases a.1.getLsbD i <;> cases a.2.getLsbD i <;> cases b.1.getLsbD i <;> cases b.2.getLsbD i <;> cases c.1.getLsbD i <;> cases c.2.getLsbD i <;> simp
theorem fix_parts {a : Fc} (h : fFix a) : sW a.2 (bSp a.1) = true ∧ tW a.1 (rS a.2) = true := by
  obtain ⟨hr, hk, he⟩ := h
  obtain ⟨rt, rs⟩ := fRR_iff.mp hr
  obtain ⟨h1, h2⟩ := rdok_iff.mp hk
  have e2 : rdS a = a.2 := congrArg Prod.snd he
  have e1 : tM a.1 (rS (rdS a)) = a.1 := congrArg Prod.fst he
  have k1 := (sM_within rs (bSp_right rt) h1).2
  have k2 := (meet_within rt (rS_right _) h2).2
  rw [show sM a.2 (bSp a.1) = a.2 from e2] at k1
  rw [e1, e2] at k2
  exact ⟨k1, k2⟩
theorem rd_mono {a f : Fc} (ha : fFix a) (ia : fIn a) (hf : fIn f) (hr : fRR f = true) (h : fLe a f = true) : rdok f = true ∧ fLe a (rd f) = true := by
  obtain ⟨p1, p2⟩ := fix_parts ha
  obtain ⟨h1, h2⟩ := fLe_iff.mp h
  obtain ⟨rt, rs⟩ := fRR_iff.mp hr
  obtain ⟨k1, k2⟩ := sM_mono h2 (sW_on p1 (bSp_mono h1 rt))
  obtain ⟨k3, k4⟩ := tM_mono rt (rS_right (rdS f)) h1 (within_on p2 (rS_mono (rdS_in hf) ia k2))
  exact ⟨rdok_iff.mpr ⟨k1, k3⟩, fLe_iff.mpr ⟨k4, k2⟩⟩
/-- What is settled and within a fact is within what that is settled to. -/
theorem fS_mono {a f : Fc} (ha : fFix a) (ia : fIn a) (hf : fIn f) (hr : fRR f = true) (h : fLe a f = true) : ∃ g, fS f = some g ∧ fLe a g = true := by
  obtain ⟨g, hg⟩ := fE_some (P := fun x => fIn x ∧ fLe a x = true) (fun x hx hp => ⟨(rd_mono ha ia hp.1 hx hp.2).1, rd_in hp.1, (rd_mono ha ia hp.1 hx hp.2).2⟩) _ f (Nat.le_refl _) hr ⟨hf, h⟩
  have := (fE_ind (P := fun x => fIn x ∧ fLe a x = true) (fun x hx hk hp => ⟨rd_in hp.1, (rd_mono ha ia hp.1 hx hp.2).2⟩) _ f g (Nat.le_refl _) hr ⟨hf, h⟩ hg).1
  exact ⟨g, by rw [fS_eq, if_pos hr, hg], this.2⟩

end Go.Proofs.Ytfepokiibdkoeaa


/-
  Plain numbers: what may be known of a number, and of one of two. No program is named here.
-/
namespace Go.Proofs.Ytfepokiibdkoeaa
open Go Go.RowKit
set_option linter.unusedVariables false

def fZ : Fc := ((0#64, 0#64), (0, 0))
/-- Is it settled? -/
def fR (f : Fc) : Bool := decide (fS f = some f)
def fOf (n : BitVec 64) : Fc := ((n, 0#64), ((n.toNat : Int), (n.toNat : Int)))
def fAny : Fc := ((0#64, BitVec.allOnes 64), sAll)
/-- What one comes to; nothing, if it comes to none. -/
def fSd (f : Fc) : Fc := (fS f).getD fZ
def fHs (f : Fc) (n : BitVec 64) : Bool := fR f && fHas f n
def fWi (a b : Fc) : Bool := fR a && fR b && fLe a b
def fK (f : Fc) : Bool := fR f && (f.1.2 == 0#64)
def fKv (f : Fc) : BitVec 64 := if fK f then f.1.1 else 0#64
def fJ (a b : Fc) : Fc := if fR a && fR b then fSd (tJ a.1 b.1, sJ a.2 b.2) else fZ
def fCs (s : Sp) : Sp := if 4294967296 ≤ s.2 then (0, 4294967295) else s
def fC (f : Fc) : Fc := if fR f then fSd (tC f.1 32, fCs f.2) else fZ

theorem fR_iff {f : Fc} : fR f = true ↔ fFix f := by
  unfold fR
  rw [decide_eq_true_iff]
  exact ⟨fS_fix, fFix_S⟩
theorem fSd_some {f g : Fc} (h : fS f = some g) : fSd f = g := by unfold fSd; rw [h]; rfl
theorem fOf_in (n : BitVec 64) : fIn (fOf n) := ⟨bv_rng n, bv_rng n⟩
theorem fOf_RR (n : BitVec 64) : fRR (fOf n) = true := fRR_iff.mpr ⟨of_right n, decide_eq_true (Int.le_refl _)⟩
theorem fOf_has (n : BitVec 64) : fHas (fOf n) n = true := fHas_iff.mpr ⟨of_has n, sH_iff.mpr ⟨Int.le_refl _, Int.le_refl _⟩⟩
theorem sW_eq {a : Sp} {n : Int} (h : sW a (n, n) = true) : a = (n, n) := by
  have k := sW_iff.mp h
  have k1 : n ≤ a.1 := k.2.1
  have k2 : a.2 ≤ n := k.2.2
  have e1 : a.1 = n := by have := k.1.1; omega
  have e2 : a.2 = n := by have := k.1.1; omega
  exact Prod.ext e1 e2
theorem tW_eq {a : Tn} {n : BitVec 64} (h : tW a (n, 0#64) = true) : a = (n, 0#64) := by
  refine tW_same h ?_
  obtain ⟨_, h1⟩ := (tW_iff a _).mp h
  rw [bv_ext]
  intro i hi
  have h2 := (h1 i hi).1
  show a.2.getLsbD i = (0#64).getLsbD i
  rw [zero_bit]
  have h3 : (a.2.getLsbD i && !(0#64).getLsbD i) = false := h2
  rw [zero_bit] at h3
  simpa using h3
theorem fLe_of {a : Fc} {n : BitVec 64} (h : fLe a (fOf n) = true) : a = fOf n := by
  obtain ⟨h1, h2⟩ := fLe_iff.mp h
  exact Prod.ext (tW_eq h1) (sW_eq h2)
theorem fOf_fix (n : BitVec 64) : fFix (fOf n) := by
  obtain ⟨g, hg, hh⟩ := fS_has (fOf_in n) (fOf_RR n) (fOf_has n)
  have e := fLe_of (fS_le hg)
  have hx := fS_fix hg
  rw [e] at hx
  exact hx
theorem all_bit {i : Nat} (hi : i < 64) : (BitVec.allOnes 64).getLsbD i = true := by rw [BitVec.getLsbD_allOnes]; exact decide_eq_true hi
theorem any_right : tR (0#64, BitVec.allOnes 64) = true := zero_right _
theorem tW_any {a : Tn} (ra : tR a = true) : tW a (0#64, BitVec.allOnes 64) = true := by
  rw [tW_iff]
  refine ⟨ra, fun i hi => ?_⟩
  show (a.2.getLsbD i && !(BitVec.allOnes 64).getLsbD i) = false ∧ (a.1.getLsbD i && !(BitVec.allOnes 64).getLsbD i) = (0#64).getLsbD i
  rw [all_bit hi, zero_bit]
  simp
theorem tH_any (n : BitVec 64) : tH (0#64, BitVec.allOnes 64) n = true := within_has (tW_any (of_right n)) (of_has n)
theorem sAll_in : sIn sAll := by unfold sIn In64 sAll; decide
theorem fAny_in : fIn fAny := sAll_in
theorem fAny_RR : fRR fAny = true := fRR_iff.mpr ⟨any_right, by decide⟩
theorem sH_all {n : Int} (h : In64 n) : sH sAll n = true := sH_iff.mpr h
theorem fAny_has (n : BitVec 64) : fHas fAny n = true := fHas_iff.mpr ⟨tH_any n, sH_all (bv_rng n)⟩
theorem fLe_any {f : Fc} (hi : fIn f) (hr : fRR f = true) : fLe f fAny = true := by
  obtain ⟨h1, h2⟩ := fRR_iff.mp hr
  exact fLe_iff.mpr ⟨tW_any h1, sW_all hi h2⟩
theorem tW_anti {a b : Tn} (h1 : tW a b = true) (h2 : tW b a = true) : a = b := by
  obtain ⟨ra, k1⟩ := (tW_iff a b).mp h1
  obtain ⟨rb, k2⟩ := (tW_iff b a).mp h2
  refine tW_same h1 ?_
  rw [bv_ext]
  intro i hi
  have e1 := (k1 i hi).1
  have e2 := (k2 i hi).1
  revert e1 e2
  cases a.2.getLsbD i <;> cases b.2.getLsbD i <;> simp
theorem fLe_anti {a b : Fc} (h1 : fLe a b = true) (h2 : fLe b a = true) : a = b := by
  obtain ⟨a1, a2⟩ := fLe_iff.mp h1
  obtain ⟨b1, b2⟩ := fLe_iff.mp h2
  have k1 := sW_iff.mp a2
  have k2 := sW_iff.mp b2
  refine Prod.ext (tW_anti a1 b1) (Prod.ext ?_ ?_) <;> omega
theorem fHas_le {a b : Fc} {n : BitVec 64} (h : fLe a b = true) (ha : fHas a n = true) : fHas b n = true := by
  obtain ⟨h1, h2⟩ := fLe_iff.mp h
  obtain ⟨k1, k2⟩ := fHas_iff.mp ha
  have e1 := sW_iff.mp h2
  have e2 := sH_iff.mp k2
  exact fHas_iff.mpr ⟨within_has h1 k1, sH_iff.mpr (by omega)⟩
theorem fOf_le {f : Fc} {n : BitVec 64} (hr : fRR f = true) : fLe (fOf n) f = fHas f n := by
  obtain ⟨h1, h2⟩ := fRR_iff.mp hr
  have h3 := right_le h2
  unfold fLe fHas
  show (tW (n, 0#64) f.1 && sW ((n.toNat : Int), (n.toNat : Int)) f.2) = _
  rw [of_within]
  congr 1
  rw [Bool.eq_iff_iff, sW_iff, sH_iff]
  dsimp only
  omega
theorem fAny_fix : fFix fAny := by
  obtain ⟨g, hg, hh⟩ := fS_has fAny_in fAny_RR (fAny_has 0#64)
  have hx := fS_fix hg
  have h0 : ∀ n, fHas g n = true := fun n => by
    obtain ⟨g', hg', hh'⟩ := fS_has fAny_in fAny_RR (fAny_has n)
    rw [hg] at hg'
    cases hg'
    exact hh'
  have e : g = fAny := by
    refine fLe_anti (fS_le hg) ?_
    refine fLe_iff.mpr ⟨?_, ?_⟩
    · rw [tW_iff]
      refine ⟨any_right, fun i hi => ?_⟩
      have z := (tH_iff _ _).mp (fHas_iff.mp (h0 0#64)).1 i hi
      have o := (tH_iff _ _).mp (fHas_iff.mp (h0 (BitVec.allOnes 64))).1 i hi
      rw [zero_bit] at z
      rw [all_bit hi] at o
      show ((BitVec.allOnes 64).getLsbD i && !g.1.2.getLsbD i) = false ∧ ((0#64).getLsbD i && !g.1.2.getLsbD i) = g.1.1.getLsbD i
      rw [all_bit hi, zero_bit]
      revert z o
      cases g.1.1.getLsbD i <;> cases g.1.2.getLsbD i <;> simp
    · have z := sH_iff.mp (fHas_iff.mp (h0 0#64)).2
      have o := sH_iff.mp (fHas_iff.mp (h0 (BitVec.allOnes 64))).2
      have e1 : ((0#64).toNat : Int) = 0 := rfl
      have e2 : ((BitVec.allOnes 64).toNat : Int) = 18446744073709551615 := by decide
      rw [e1] at z
      rw [e2] at o
      exact sW_mk (by decide) (by omega) (by show g.2.1 ≤ 0; omega) (by show (18446744073709551615 : Int) ≤ g.2.2; omega)
  rw [e] at hx
  exact hx
/-- What is settled, and known, is one number. -/
theorem known_of {f : Fc} (hf : fFix f) (hi : fIn f) (h : f.1.2 = 0#64) : f = fOf f.1.1 := by
  obtain ⟨p1, _⟩ := fix_parts hf
  have e : f.1 = (f.1.1, 0#64) := Prod.ext rfl h
  have e2 : bSp f.1 = ((f.1.1.toNat : Int), (f.1.1.toNat : Int)) := by
    unfold bSp
    rw [h]
    simp
  rw [e2] at p1
  exact Prod.ext e (sW_eq p1)
theorem known_has {f : Fc} {n : BitVec 64} (h : fHas f n = true) (e : f.1.2 = 0#64) : n = f.1.1 := by
  have h1 := (fHas_iff.mp h).1
  unfold tH at h1
  rw [beq_iff_eq, e, and_all] at h1
  exact h1

/-! What comes of parts that have a number. -/
theorem fSd_has {f : Fc} {n : BitVec 64} (hf : fIn f) (hr : fRR f = true) (h : fHas f n = true) : fFix (fSd f) ∧ fIn (fSd f) ∧ fHas (fSd f) n = true ∧ fLe (fSd f) f = true := by
  obtain ⟨g, hg, hh⟩ := fS_has hf hr h
  rw [fSd_some hg]
  exact ⟨fS_fix hg, fS_in hf hg, hh, fS_le hg⟩
theorem sJ_in {a b : Sp} (ha : sIn a) (hb : sIn b) : sIn (sJ a b) := by
  unfold sIn In64 sJ at *
  split <;> (dsimp only; omega)
theorem sJ_right {a b : Sp} (ra : sR a = true) (rb : sR b = true) : sR (sJ a b) = true := by
  have h := sW_iff.mp (sJ_within ra rb).1
  exact decide_eq_true (by omega)
theorem fJ_eq {a b : Fc} (ha : fFix a) (hb : fFix b) : fJ a b = fSd (tJ a.1 b.1, sJ a.2 b.2) := by
  unfold fJ
  rw [fR_iff.mpr ha, fR_iff.mpr hb]
  rfl
theorem fJ_parts {a b : Fc} (ha : fFix a) (hb : fFix b) (ia : fIn a) (ib : fIn b) : fIn (tJ a.1 b.1, sJ a.2 b.2) ∧ fRR (tJ a.1 b.1, sJ a.2 b.2) = true ∧ fLe a (tJ a.1 b.1, sJ a.2 b.2) = true ∧ fLe b (tJ a.1 b.1, sJ a.2 b.2) = true := by
  obtain ⟨r1, r2⟩ := fRR_iff.mp ha.1
  obtain ⟨r3, r4⟩ := fRR_iff.mp hb.1
  exact ⟨sJ_in ia ib, fRR_iff.mpr ⟨join_right r1 r3, sJ_right r2 r4⟩, fLe_iff.mpr ⟨join_left r1 r3, (sJ_within r2 r4).1⟩, fLe_iff.mpr ⟨join_right_of r1 r3, (sJ_within r2 r4).2⟩⟩
/-- Join: both are within it. -/
theorem fJ_has {a b : Fc} (ha : fFix a) (hb : fFix b) (ia : fIn a) (ib : fIn b) : fFix (fJ a b) ∧ fIn (fJ a b) ∧ fLe a (fJ a b) = true ∧ fLe b (fJ a b) = true := by
  obtain ⟨p1, p2, p3, p4⟩ := fJ_parts ha hb ia ib
  rw [fJ_eq ha hb]
  obtain ⟨g, hg, h1⟩ := fS_mono ha ia p1 p2 p3
  obtain ⟨g', hg', h2⟩ := fS_mono hb ib p1 p2 p4
  rw [hg] at hg'
  cases hg'
  rw [fSd_some hg]
  exact ⟨fS_fix hg, fS_in p1 hg, h1, h2⟩
theorem fJ_self {a : Fc} (ha : fFix a) (ia : fIn a) : fJ a a = a := by
  obtain ⟨r1, r2⟩ := fRR_iff.mp ha.1
  rw [fJ_eq ha ha]
  have e : (tJ a.1 a.1, sJ a.2 a.2) = a := by
    refine Prod.ext (join_self r1) ?_
    show sJ a.2 a.2 = a.2
    unfold sJ
    rw [if_pos (by unfold sRR; rw [r2]; rfl)]
    refine Prod.ext ?_ ?_ <;> (dsimp only; omega)
  rw [e]
  exact fSd_some (fFix_S ha)

/-! The lowest 32 bits. -/
theorem tLow_nat (x : BitVec 64) (k : Nat) (h : k ≤ 64) : (tLow x k).toNat = x.toNat % 2 ^ k := by
  unfold tLow
  rw [BitVec.toNat_ofNat]
  exact Nat.mod_eq_of_lt (Nat.lt_of_le_of_lt (Nat.mod_le _ _) x.isLt)
theorem tC_right {t : Tn} (rt : tR t = true) : tR (tC t 32) = true := by
  unfold tC
  rw [rt, if_pos rfl, if_neg (by omega)]
  rw [tR_iff] at *
  intro i hi
  show ((tLow t.1 32).getLsbD i && (tLow t.2 32).getLsbD i) = false
  rw [low_bit _ _ hi, low_bit _ _ hi]
  have h := rt i hi
  revert h
  cases t.1.getLsbD i <;> cases t.2.getLsbD i <;> simp
theorem fCs_in {s : Sp} (h : sIn s) : sIn (fCs s) := by
  unfold fCs sIn In64 at *
  split
  · decide
  · exact h
theorem fCs_right {s : Sp} (h : sR s = true) : sR (fCs s) = true := by
  unfold fCs
  split
  · decide
  · exact h
theorem fCs_has {s : Sp} {x : BitVec 64} (h : sH s x.toNat = true) : sH (fCs s) (tLow x 32).toNat = true := by
  have h1 := sH_iff.mp h
  have e := tLow_nat x 32 (by decide)
  have e2 : (2 : Nat) ^ 32 = 4294967296 := by decide
  rw [e2] at e
  rw [e]
  unfold fCs
  split
  · refine sH_iff.mpr ?_
    dsimp only
    omega
  · refine sH_iff.mpr ?_
    have : x.toNat % 4294967296 = x.toNat := Nat.mod_eq_of_lt (by omega)
    rw [this]
    exact h1
theorem fC_parts {f : Fc} (hf : fFix f) (hi : fIn f) : fC f = fSd (tC f.1 32, fCs f.2) ∧ fIn (tC f.1 32, fCs f.2) ∧ fRR (tC f.1 32, fCs f.2) = true := by
  obtain ⟨r1, r2⟩ := fRR_iff.mp hf.1
  refine ⟨?_, fCs_in hi, fRR_iff.mpr ⟨tC_right r1, fCs_right r2⟩⟩
  unfold fC
  rw [fR_iff.mpr hf]
  rfl
theorem fC_has {f : Fc} (hf : fFix f) (hi : fIn f) {x : BitVec 64} (h : fHas f x = true) : fFix (fC f) ∧ fIn (fC f) ∧ fHas (fC f) (tLow x 32) = true := by
  obtain ⟨e, p1, p2⟩ := fC_parts hf hi
  obtain ⟨h1, h2⟩ := fHas_iff.mp h
  have r1 := (fRR_iff.mp hf.1).1
  rw [e]
  have hh : fHas (tC f.1 32, fCs f.2) (tLow x 32) = true := fHas_iff.mpr ⟨cut_has r1 h1 32 (by omega) (by omega), fCs_has h2⟩
  obtain ⟨q1, q2, q3, _⟩ := fSd_has p1 p2 hh
  exact ⟨q1, q2, q3⟩
theorem fC_of (n : BitVec 64) : fC (fOf n) = fOf (tLow n 32) := by
  obtain ⟨e, p1, p2⟩ := fC_parts (fOf_fix n) (fOf_in n)
  obtain ⟨h1, h2, h3⟩ := fC_has (fOf_fix n) (fOf_in n) (fOf_has n)
  have hk : (fC (fOf n)).1.2 = 0#64 := by
    rw [e]
    obtain ⟨g, hg, hh⟩ := fS_has p1 p2 (n := tLow n 32) (fHas_iff.mpr ⟨cut_has (of_right n) (of_has n) 32 (by omega) (by omega), fCs_has (fHas_iff.mp (fOf_has n)).2⟩)
    rw [fSd_some hg]
    have hle := (fLe_iff.mp (fS_le hg)).1
    have e1 : tC (fOf n).1 32 = (tLow n 32, 0#64) := cut_of n 32 (by omega) (by omega)
    have hle' : tW g.1 (tLow n 32, 0#64) = true := by rw [← e1]; exact hle
    rw [tW_eq hle']
  rw [known_of h1 h2 hk, ← known_has h3 hk]
theorem low32 (x : BitVec 64) : (tLow x 32).toNat = x.toNat % 4294967296 := tLow_nat x 32 (by decide)

end Go.Proofs.Ytfepokiibdkoeaa


/-
  Plain numbers: what is known of what arithmetic makes. No program is named here.
-/
namespace Go.Proofs.Ytfepokiibdkoeaa
open Go Go.RowKit
set_option linter.unusedVariables false

theorem nat64 (x : BitVec 64) : In64 (x.toNat : Int) := bv_rng x
theorem lowM (x : BitVec 64) : (x.toNat : Int) % aM true = (x.toNat : Int) := wide_low (nat64 x)
theorem ofInt_eq {x : BitVec 64} {z : Int} (h : (x.toNat : Int) = z) : BitVec.ofInt 64 z = x := by
  apply BitVec.eq_of_toNat_eq
  rw [BitVec.toNat_ofInt]
  have := bv_lt x
  omega
/-- Arithmetic of 64 bits, as numbers. -/
theorem bv_alu {op : Int} (h : op = 0 ∨ op = 16 ∨ op = 32 ∨ op = 80 ∨ op = 64 ∨ op = 160 ∨ op = 96 ∨ op = 112) (x y : BitVec 64) : ((bvDo op x y).toNat : Int) = aluV true op 0 (x.toNat : Int) (y.toNat : Int) := by
  have hM : aM true = 18446744073709551616 := rfl
  have hB : aB true = 64 := rfl
  have hs : ((y.toNat : Int) % aM true % aB true).toNat = y.toNat % 64 := by rw [lowM, hB]; omega
  have l1 := bv_lt x
  have l2 := bv_lt y
  rcases h with rfl | rfl | rfl | rfl | rfl | rfl | rfl | rfl
  · rw [v_add, hM, bv_add]; rfl
  · rw [v_sub, hM, bv_sub]; rfl
  · rw [v_mul, hM, bv_mul]; rfl
  · rw [v_and, lowM, lowM, hM, Int.toNat_natCast, Int.toNat_natCast]
    show ((x &&& y).toNat : Int) = _
    have := bv_lt (x &&& y)
    rw [BitVec.toNat_and] at *
    omega
  · rw [v_or, lowM, lowM, hM, Int.toNat_natCast, Int.toNat_natCast]
    show ((x ||| y).toNat : Int) = _
    have := bv_lt (x ||| y)
    rw [BitVec.toNat_or] at *
    omega
  · rw [v_xor, lowM, lowM, hM, Int.toNat_natCast, Int.toNat_natCast]
    show ((x ^^^ y).toNat : Int) = _
    have := bv_lt (x ^^^ y)
    rw [BitVec.toNat_xor] at *
    omega
  · rw [v_lsh, hs, hM, bv_shl]; rfl
  · rw [v_rsh, hs, lowM, hM, bv_shr]
    show ((x >>> (y.toNat % 64)).toNat : Int) = _
    have := bv_lt (x >>> (y.toNat % 64))
    omega

theorem sDo_in {op : Int} {a b : Sp} (ia : sIn a) (ib : sIn b) : sIn (sDo op a b) := by
  unfold sDo
  cases h : sRR a b
  · exact (show sIn ((0, 0) : Sp) from ⟨⟨by decide, by decide⟩, by decide, by decide⟩)
  obtain ⟨ra, rb⟩ := sRR_true h
  rw [if_pos rfl]
  have hall := sAll_in
  unfold sIn In64 at ia ib
  unfold sDo'
  by_cases o0 : op = 0
  · rw [if_pos o0]
    unfold sAdd
    split
    · unfold sIn In64; dsimp only; omega
    · exact hall
  rw [if_neg o0]
  by_cases o1 : op = 16
  · rw [if_pos o1]
    unfold sSub
    split
    · unfold sIn In64; dsimp only; omega
    · exact hall
  rw [if_neg o1]
  by_cases o2 : op = 32
  · rw [if_pos o2]
    unfold sMul
    split
    · have m1 : 0 ≤ a.1 * b.1 := Int.mul_nonneg ia.1.1 ib.1.1
      have m2 : a.1 * b.1 ≤ a.2 * b.2 := Int.mul_le_mul ra rb ib.1.1 ia.2.1
      unfold sIn In64; dsimp only; omega
    · exact hall
  rw [if_neg o2]
  by_cases o3 : op = 48 ∧ b.1 ≠ 0
  · rw [if_pos o3]
    have m1 := Int.ediv_nonneg ia.1.1 ib.2.1
    have m2 := Int.ediv_le_self b.2 ia.1.1
    have m3 := Int.ediv_nonneg ia.2.1 ib.1.1
    have m4 := Int.ediv_le_self b.1 ia.2.1
    unfold sIn In64; dsimp only; omega
  rw [if_neg o3]
  by_cases o4 : op = 144 ∧ b.1 ≠ 0
  · rw [if_pos o4]
    unfold sIn In64; dsimp only; omega
  rw [if_neg o4]
  by_cases o5 : op = 80
  · rw [if_pos o5]
    unfold sIn In64; dsimp only; omega
  rw [if_neg o5]
  by_cases o6 : op = 112 ∧ b.2 < 64
  · rw [if_pos o6]
    have p1 := two_pow_pos b.2.toNat
    have p2 := two_pow_pos b.1.toNat
    have m1 := Int.ediv_nonneg ia.1.1 (b := 2 ^ b.2.toNat) (by omega)
    have m2 := Int.ediv_le_self (2 ^ b.2.toNat) ia.1.1
    have m3 := Int.ediv_nonneg ia.2.1 (b := 2 ^ b.1.toNat) (by omega)
    have m4 := Int.ediv_le_self (2 ^ b.1.toNat) ia.2.1
    unfold sIn In64; dsimp only; omega
  rw [if_neg o6]
  exact hall

def fT (op : Int) (a b : Tn) : Tn := if tDok op a b then tDo op a b else (0#64, BitVec.allOnes 64)
/-- Both parts' Do, settled. -/
def fA (op : Int) (x y : Fc) : Fc := fSd (fT op x.1 y.1, sDo op x.2 y.2)
def fShK (narrow : Bool) (q : BitVec 64) : BitVec 64 := BitVec.ofNat 64 (q.toNat % (if narrow then 32 else 64))
def fW (op : Int) (narrow : Bool) (off : Int) (x y : Fc) : Fc :=
  if fK x && fK y then fOf (BitVec.ofInt 64 (aluV (!narrow) op off ((fKv x).toNat : Int) ((fKv y).toNat : Int)))
  else if op = 176 ∧ off = 0 then y
  else if (op = 48 ∨ op = 144) ∧ off = 0 ∧ fK y = true ∧ fKv y = 0#64 then (if op = 48 then fOf 0#64 else x)
  else if op = 96 ∨ op = 112 then (if fK y then fA op x (fOf (fShK narrow (fKv y))) else fAny)
  else if op = 0 ∨ op = 16 ∨ op = 32 ∨ op = 80 ∨ op = 64 ∨ op = 160 ∨ ((op = 48 ∨ op = 144) ∧ off = 0) then fA op x y
  else fAny
def fDo (op : Int) (wide : Bool) (off : Int) (a b : Fc) : Fc :=
  if aluE wide op off = 0 ∧ fR a = true ∧ fR b = true then (if wide then fW op false off a b else fC (fW op true off (fC a) (fC b))) else fZ
def fDe (op : Int) (wide : Bool) (off : Int) (a b : Fc) : Int := if aluE wide op off = 0 ∧ fR a = true ∧ fR b = true then 0 else 1

/-- A fact that is settled, and a number that may be it. -/
structure Good (f : Fc) (n : BitVec 64) : Prop where
  fix : fFix f
  inn : fIn f
  has : fHas f n = true
theorem Good.of (n : BitVec 64) : Good (fOf n) n := ⟨fOf_fix n, fOf_in n, fOf_has n⟩
theorem Good.any (n : BitVec 64) : Good fAny n := ⟨fAny_fix, fAny_in, fAny_has n⟩
theorem Good.cut {f : Fc} {n : BitVec 64} (h : Good f n) : Good (fC f) (tLow n 32) := by
  obtain ⟨h1, h2, h3⟩ := fC_has h.fix h.inn h.has
  exact ⟨h1, h2, h3⟩
theorem fK_iff {f : Fc} : fK f = true ↔ fFix f ∧ f.1.2 = 0#64 := by
  unfold fK
  rw [Bool.and_eq_true, fR_iff, beq_iff_eq]
theorem Good.known {f : Fc} {n : BitVec 64} (h : Good f n) (k : fK f = true) : f = fOf n ∧ fKv f = n := by
  obtain ⟨_, e⟩ := fK_iff.mp k
  have e1 := known_has h.has e
  refine ⟨?_, ?_⟩
  · rw [known_of h.fix h.inn e, ← e1]
  · unfold fKv
    rw [if_pos k, e1]

theorem aluE_fits {wide : Bool} {op off : Int} : aluE wide op off = 0 ↔ aluFits op wide off = true := by
  unfold aluE
  cases aluFits op wide off <;> simp
theorem aluV_ofInt (wide : Bool) (op off a b : Int) : ((BitVec.ofInt 64 (aluV wide op off a b)).toNat : Int) = aluV wide op off a b := ofInt_nat (aluV_range wide op off a b)
theorem aluV_mod (wide : Bool) (op off a b : Int) : aluV wide op off a b % aM wide = aluV wide op off a b := by
  unfold aluV
  split
  · exact Int.emod_emod_of_dvd _ (Int.dvd_refl _)
  · exact Int.zero_emod _

theorem fA_good {op : Int} {x y : Fc} {p q : BitVec 64} (hx : Good x p) (hy : Good y q) (he : aluE true op 0 = 0) :
    Good (fA op x y) (BitVec.ofInt 64 (aluV true op 0 (p.toNat : Int) (q.toNat : Int))) := by
  obtain ⟨r1, r2⟩ := fRR_iff.mp hx.fix.1
  obtain ⟨r3, r4⟩ := fRR_iff.mp hy.fix.1
  obtain ⟨h1, h2⟩ := fHas_iff.mp hx.has
  obtain ⟨h3, h4⟩ := fHas_iff.mp hy.has
  have hs := sdo_sound hx.inn hy.inn r2 r4 (nat64 p) (nat64 q) h2 h4 he
  have hsr : sR (sDo op x.2 y.2) = true := by
    have := sH_iff.mp hs
    exact decide_eq_true (by omega)
  have ht : tR (fT op x.1 y.1) = true ∧ tH (fT op x.1 y.1) (BitVec.ofInt 64 (aluV true op 0 (p.toNat : Int) (q.toNat : Int))) = true := by
    unfold fT
    cases hk : tDok op x.1 y.1
    · exact ⟨any_right, tH_any _⟩
    · rw [if_pos rfl]
      obtain ⟨k1, k2⟩ := do_sound hk h1 h3
      have ho : op = 0 ∨ op = 16 ∨ op = 32 ∨ op = 80 ∨ op = 64 ∨ op = 160 ∨ op = 96 ∨ op = 112 := by
        obtain ⟨_, ho⟩ := dok_ops hk
        rcases ho with h | h | h | h | h | h | ⟨h, _⟩ <;> omega
      rw [ofInt_eq (bv_alu ho p q)]
      exact ⟨k1, k2⟩
  have hh : fHas (fT op x.1 y.1, sDo op x.2 y.2) (BitVec.ofInt 64 (aluV true op 0 (p.toNat : Int) (q.toNat : Int))) = true := by
    refine fHas_iff.mpr ⟨ht.2, ?_⟩
    rw [aluV_ofInt]
    exact hs
  obtain ⟨q1, q2, q3, _⟩ := fSd_has (f := (fT op x.1 y.1, sDo op x.2 y.2)) (sDo_in hx.inn hy.inn) (fRR_iff.mpr ⟨ht.1, hsr⟩) hh
  exact ⟨q1, q2, q3⟩

/-- What is narrow, of numbers below 2^32, is what is wide, cut. -/
theorem narrow_of_wide {op p q : Int} (hp : 0 ≤ p ∧ p < 4294967296) (hq : 0 ≤ q ∧ q < 4294967296)
    (h : op = 0 ∨ op = 16 ∨ op = 32 ∨ op = 80 ∨ op = 64 ∨ op = 160 ∨ op = 48 ∨ op = 144) : aluV true op 0 p q % 4294967296 = aluV false op 0 p q := by
  have hT : aM true = 18446744073709551616 := rfl
  have hF : aM false = 4294967296 := rfl
  have e1 : p % 18446744073709551616 = p := by omega
  have e2 : q % 18446744073709551616 = q := by omega
  have e3 : p % 4294967296 = p := by omega
  have e4 : q % 4294967296 = q := by omega
  have hd : (4294967296 : Int) ∣ 18446744073709551616 := by decide
  rcases h with rfl | rfl | rfl | rfl | rfl | rfl | rfl | rfl
  · rw [v_add, v_add, hT, hF, Int.emod_emod_of_dvd _ hd]
  · rw [v_sub, v_sub, hT, hF, Int.emod_emod_of_dvd _ hd]
  · rw [v_mul, v_mul, hT, hF, Int.emod_emod_of_dvd _ hd]
  · rw [v_and, v_and, hT, hF, e1, e2, e3, e4, Int.emod_emod_of_dvd _ hd]
  · rw [v_or, v_or, hT, hF, e1, e2, e3, e4, Int.emod_emod_of_dvd _ hd]
  · rw [v_xor, v_xor, hT, hF, e1, e2, e3, e4, Int.emod_emod_of_dvd _ hd]
  · rw [v_div0, v_div0, hT, hF, e1, e2, e3, e4, Int.emod_emod_of_dvd _ hd]
  · rw [v_mod0, v_mod0, hT, hF, e1, e2, e3, e4, Int.emod_emod_of_dvd _ hd]
theorem shift_narrow {op p q : Int} (narrow : Bool) (hp : 0 ≤ p) (hp' : narrow = true → p < 4294967296) (hp2 : p < 18446744073709551616) (hq : 0 ≤ q) (h : op = 96 ∨ op = 112) (hq2 : q < 18446744073709551616) :
    aluV true op 0 p (q % (if narrow then 32 else 64)) % aM (!narrow) = aluV (!narrow) op 0 p q := by
  have hT : aM true = 18446744073709551616 := rfl
  have hF : aM false = 4294967296 := rfl
  have bT : aB true = 64 := rfl
  have bF : aB false = 32 := rfl
  have hd : (4294967296 : Int) ∣ 18446744073709551616 := by decide
  cases narrow
  · have e1 : q % 64 % 18446744073709551616 % 64 = q % 64 := by omega
    have e2 : q % 18446744073709551616 % 64 = q % 64 := by omega
    have e3 : p % 18446744073709551616 = p := by omega
    rcases h with rfl | rfl
    · show aluV true 96 0 p (q % 64) % aM true = aluV true 96 0 p q
      rw [v_lsh, v_lsh, hT, bT, e1, e2, Int.emod_emod_of_dvd _ (Int.dvd_refl _)]
    · show aluV true 112 0 p (q % 64) % aM true = aluV true 112 0 p q
      rw [v_rsh, v_rsh, hT, bT, e1, e2, Int.emod_emod_of_dvd _ (Int.dvd_refl _)]
  · have e1 : q % 32 % 18446744073709551616 % 64 = q % 32 := by omega
    have e2 : q % 4294967296 % 32 = q % 32 := by omega
    have e3 : p % 18446744073709551616 = p := by omega
    have e4 : p % 4294967296 = p := by have := hp' rfl; omega
    rcases h with rfl | rfl
    · show aluV true 96 0 p (q % 32) % aM false = aluV false 96 0 p q
      rw [v_lsh, v_lsh, hT, hF, bT, bF, e1, e2, Int.emod_emod_of_dvd _ hd]
    · show aluV true 112 0 p (q % 32) % aM false = aluV false 112 0 p q
      rw [v_rsh, v_rsh, hT, hF, bT, bF, e1, e2, e3, e4, Int.emod_emod_of_dvd _ hd]

theorem fShK_nat (narrow : Bool) (q : BitVec 64) : ((fShK narrow q).toNat : Int) = (q.toNat : Int) % (if narrow then 32 else 64) := by
  unfold fShK
  rw [BitVec.toNat_ofNat]
  have := bv_lt q
  cases narrow <;> simp <;> omega

/-- What is known of what arithmetic makes, ahead of the cut. -/
theorem fW_good {op off : Int} {narrow : Bool} {x y : Fc} {p q : BitVec 64} (hx : Good x p) (hy : Good y q) (he : aluE (!narrow) op off = 0)
    (hp : narrow = true → p.toNat < 4294967296) (hq : narrow = true → q.toNat < 4294967296) :
    ∃ v, Good (fW op narrow off x y) v ∧ (v.toNat : Int) % aM (!narrow) = aluV (!narrow) op off (p.toNat : Int) (q.toNat : Int) := by
  have hf := aluE_fits.mp he
  have anyv : ∃ v, Good fAny v ∧ (v.toNat : Int) % aM (!narrow) = aluV (!narrow) op off (p.toNat : Int) (q.toNat : Int) :=
    ⟨_, Good.any (BitVec.ofInt 64 (aluV (!narrow) op off (p.toNat : Int) (q.toNat : Int))), by rw [aluV_ofInt, aluV_mod]⟩
  have lp := bv_lt p
  have lq := bv_lt q
  unfold fW
  by_cases hb : (fK x && fK y) = true
  · rw [if_pos hb]
    obtain ⟨k1, k2⟩ := Bool.and_eq_true_iff.mp hb
    rw [(hx.known k1).2, (hy.known k2).2]
    exact ⟨_, Good.of _, by rw [aluV_ofInt, aluV_mod]⟩
  rw [if_neg hb]
  by_cases hm : op = 176 ∧ off = 0
  · obtain ⟨rfl, rfl⟩ := hm
    rw [if_pos ⟨rfl, rfl⟩]
    exact ⟨q, hy, by rw [v_mov]⟩
  rw [if_neg hm]
  by_cases hz : (op = 48 ∨ op = 144) ∧ off = 0 ∧ fK y = true ∧ fKv y = 0#64
  · rw [if_pos hz]
    obtain ⟨ho, rfl, k, kv⟩ := hz
    have e0 : q = 0#64 := by rw [← (hy.known k).2, kv]
    subst e0
    have z : ((0#64).toNat : Int) = 0 := rfl
    rcases ho with rfl | rfl
    · rw [if_pos rfl]
      refine ⟨0#64, Good.of _, ?_⟩
      rw [v_div0, z, Int.zero_emod, Int.ediv_zero, Int.zero_emod]
    · rw [if_neg (by decide)]
      refine ⟨p, hx, ?_⟩
      rw [v_mod0, z, Int.zero_emod, Int.emod_zero, Int.emod_emod_of_dvd _ (Int.dvd_refl _)]
  rw [if_neg hz]
  by_cases hs : op = 96 ∨ op = 112
  · rw [if_pos hs]
    have ho : off = 0 := by
      rcases fits_ops hf with h | h | h | h | h | h | h | h | h | h | h | h | h <;> omega
    subst ho
    cases k : fK y
    · exact anyv
    · rw [if_pos rfl, (hy.known k).2]
      have he' : aluE true op 0 = 0 := by rcases hs with rfl | rfl <;> rfl
      refine ⟨_, fA_good hx (Good.of (fShK narrow q)) he', ?_⟩
      rw [aluV_ofInt, fShK_nat]
      exact shift_narrow narrow (by omega) (fun h => by have := hp h; omega) (by omega) (by omega) hs (by omega)
  rw [if_neg hs]
  by_cases ha : op = 0 ∨ op = 16 ∨ op = 32 ∨ op = 80 ∨ op = 64 ∨ op = 160 ∨ ((op = 48 ∨ op = 144) ∧ off = 0)
  · rw [if_pos ha]
    have ho : off = 0 := by
      rcases fits_ops hf with h | h | h | h | h | h | h | h | h | h | h | h | h <;> omega
    subst ho
    have hl : op = 0 ∨ op = 16 ∨ op = 32 ∨ op = 80 ∨ op = 64 ∨ op = 160 ∨ op = 48 ∨ op = 144 := by omega
    have he' : aluE true op 0 = 0 := by rcases hl with rfl | rfl | rfl | rfl | rfl | rfl | rfl | rfl <;> rfl
    refine ⟨_, fA_good hx hy he', ?_⟩
    rw [aluV_ofInt]
    cases narrow
    · exact aluV_mod true op 0 _ _
    · have h1 := hp rfl
      have h2 := hq rfl
      exact narrow_of_wide ⟨by omega, by omega⟩ ⟨by omega, by omega⟩ hl
  rw [if_neg ha]
  exact anyv

/-- What is known of what arithmetic makes. -/
theorem fDo_good {op off : Int} {wide : Bool} {a b : Fc} {p q : BitVec 64} (ha : Good a p) (hb : Good b q) (he : aluE wide op off = 0) :
    Good (fDo op wide off a b) (BitVec.ofInt 64 (aluV wide op off (p.toNat : Int) (q.toNat : Int))) ∧ fDe op wide off a b = 0 := by
  have h1 := fR_iff.mpr ha.fix
  have h2 := fR_iff.mpr hb.fix
  have hc : aluE wide op off = 0 ∧ fR a = true ∧ fR b = true := ⟨he, h1, h2⟩
  unfold fDo fDe
  rw [if_pos hc, if_pos hc]
  refine ⟨?_, rfl⟩
  cases wide
  · rw [if_neg (by decide)]
    have lp := low32 p
    have lq := low32 q
    obtain ⟨v, hv, e⟩ := fW_good (narrow := true) ha.cut hb.cut he (fun _ => by omega) (fun _ => by omega)
    have e' : (v.toNat : Int) % 4294967296 = aluV false op off ((tLow p 32).toNat : Int) ((tLow q 32).toNat : Int) := e
    have hl := narrow_low op off (p.toNat : Int) (q.toNat : Int) ((tLow p 32).toNat : Int) ((tLow q 32).toNat : Int) (by omega) (by omega)
    rw [hl] at e'
    have hv' := hv.cut
    have hz : BitVec.ofInt 64 (aluV false op off (p.toNat : Int) (q.toNat : Int)) = tLow v 32 := ofInt_eq (by rw [← e']; have := low32 v; omega)
    rw [hz]
    exact hv'
  · rw [if_pos rfl]
    obtain ⟨v, hv, e⟩ := fW_good (narrow := false) ha hb he (fun h => by cases h) (fun h => by cases h)
    have e' : (v.toNat : Int) % 18446744073709551616 = aluV true op off (p.toNat : Int) (q.toNat : Int) := e
    have lv := bv_lt v
    rw [ofInt_eq (x := v) (by rw [← e']; omega)]
    exact hv
theorem fDo_err {op off : Int} {wide : Bool} {a b : Fc} (he : ¬ aluE wide op off = 0) : fDo op wide off a b = fZ ∧ fDe op wide off a b = 1 := by
  unfold fDo fDe
  rw [if_neg (fun h => he h.1), if_neg (fun h => he h.1)]
  exact ⟨rfl, rfl⟩

end Go.Proofs.Ytfepokiibdkoeaa


/-
  Plain numbers: what is known of both, if a condition holds. No program is named here.
-/
namespace Go.Proofs.Ytfepokiibdkoeaa
open Go Go.RowKit
set_option linter.unusedVariables false

/-- The condition of numbers changed about; none of others. -/
def turnOf (op : Int) : Int :=
  if op = 16 then 16 else if op = 80 then 80 else if op = 64 then 64 else if op = 32 then 160 else if op = 160 then 32 else if op = 48 then 176 else if op = 176 then 48
  else if op = 96 then 192 else if op = 192 then 96 else if op = 112 then 208 else if op = 208 then 112 else 0
def turns (op : Int) : Bool := op == 16 || op == 80 || op == 64 || op == 32 || op == 160 || op == 48 || op == 176 || op == 96 || op == 192 || op == 112 || op == 208
/-- The bits of both, met if they are one. -/
def fIt1 (op : Int) (a b : Fc) : Tn := if op = 16 then tM a.1 b.1 else a.1
def fItok (op : Int) (a b : Fc) : Bool := if op = 16 then tMok a.1 b.1 else true
def fIt2 (op : Int) (a b : Fc) : Tn := if op = 16 then tM a.1 b.1 else b.1
def fIx (op : Int) (a b : Fc) : Option Fc := if sIfok op a.2 b.2 then fS (fIt1 op a b, sIf op a.2 b.2) else none
def fIr (op : Int) (a b : Fc) : Sp := if turns op then sIf (turnOf op) b.2 a.2 else b.2
def fIrok (op : Int) (a b : Fc) : Bool := if turns op then sIfok (turnOf op) b.2 a.2 else true
def fIy (op : Int) (a b : Fc) : Option Fc := if fIrok op a b then fS (fIt2 op a b, fIr op a b) else none
/-- Both parts' If; nothing, if one tells false. -/
def fI (op : Int) (a b : Fc) : Option (Fc × Fc) := if fItok op a b then (fIx op a b).bind fun x => (fIy op a b).map fun y => (x, y) else none
def fIf (op : Int) (wide : Bool) (a b : Fc) : Option (Fc × Fc) :=
  if fR a && fR b then
    (if fK a && fK b then (if condE op = 0 ∧ condV op wide ((fKv a).toNat : Int) ((fKv b).toNat : Int) = true then some (a, b) else none)
    else if wide = false ∧ (4294967296 ≤ a.2.2 ∨ 4294967296 ≤ b.2.2) then some (a, b)
    else fI op a b)
  else none

theorem turn_cond {op : Int} (h : turns op = true) (wide : Bool) (x y : Int) : condV op wide x y = condV (turnOf op) wide y x := by
  have h' : op = 16 ∨ op = 80 ∨ op = 64 ∨ op = 32 ∨ op = 160 ∨ op = 48 ∨ op = 176 ∨ op = 96 ∨ op = 192 ∨ op = 112 ∨ op = 208 := by
    simpa [turns, or_assoc] using h
  apply turn_law
  rcases h' with rfl | rfl | rfl | rfl | rfl | rfl | rfl | rfl | rfl | rfl | rfl <;> decide

theorem sIf_in {op : Int} {a b : Sp} (ia : sIn a) (ra : sR a = true) (h : sIfok op a b = true) : sIn (sIf op a b) := by
  have k := sW_iff.mp (sif_within ra h)
  unfold sIn In64 at *
  omega
theorem sW_right {a b : Sp} (h : sW a b = true) : sR a = true := decide_eq_true (sW_iff.mp h).1.1

/-- Of numbers below 2^32 what narrow asks, not signed, is what wide asks. -/
theorem cond_wide {op x y : Int} (hx : 0 ≤ x ∧ x < 4294967296) (hy : 0 ≤ y ∧ y < 4294967296) (ho : op = 16 ∨ op = 80 ∨ op = 64 ∨ op = 32 ∨ op = 48 ∨ op = 160 ∨ op = 176) : condV op false x y = condV op true x y := by
  have e1 : x % aM false = x := by show x % 4294967296 = x; omega
  have e2 : y % aM false = y := by show y % 4294967296 = y; omega
  have e3 : x % aM true = x := by show x % 18446744073709551616 = x; omega
  have e4 : y % aM true = y := by show y % 18446744073709551616 = y; omega
  rcases ho with rfl | rfl | rfl | rfl | rfl | rfl | rfl
  · rw [cv_16, cv_16, e1, e2, e3, e4]
  · rw [cv_80, cv_80, e1, e2, e3, e4]
  · rw [cv_64, cv_64, e1, e2, e3, e4]
  · rw [cv_32, cv_32, e1, e2, e3, e4]
  · rw [cv_48, cv_48, e1, e2, e3, e4]
  · rw [cv_160, cv_160, e1, e2, e3, e4]
  · rw [cv_176, cv_176, e1, e2, e3, e4]
/-- Of other conditions If tells all. -/
theorem sif_other_math {op : Int} (ho : ¬ (op = 16 ∨ op = 80 ∨ op = 64 ∨ op = 32 ∨ op = 48 ∨ op = 160 ∨ op = 176)) {a b : Sp} (ra : sR a = true) (rb : sR b = true) : sIf op a b = a ∧ sIfok op a b = true := by
  have hrr : sRR a b = true := by unfold sRR; rw [ra, rb]; rfl
  unfold sIf sIfok
  rw [hrr, if_pos rfl]
  have e1 : sIf' op a b = a := by
    unfold sIf'
    rw [if_neg (by omega), if_neg (by omega), if_neg (by omega), if_neg (by omega), if_neg (by omega), if_neg (by omega), if_neg (by omega)]
  have e2 : sIfok' op a b = true := by
    unfold sIfok'
    rw [if_neg (by omega), if_neg (by omega), if_neg (by omega), if_neg (by omega), if_neg (by omega), if_neg (by omega), if_neg (by omega)]
  rw [e1, e2]
  exact ⟨rfl, rfl⟩
/-- What If leaves has a number of which, wide or narrow below 2^32, the condition holds. -/
theorem sif_has' {op : Int} {wide : Bool} {s t : Sp} {x y : Int} (rs : sR s = true) (rt : sR t = true) (ix : In64 x) (iy : In64 y) (hx : sH s x = true) (hy : sH t y = true)
    (hw : wide = false → x < 4294967296 ∧ y < 4294967296) (hc : condV op wide x y = true) : sIfok op s t = true ∧ sH (sIf op s t) x = true := by
  by_cases ho : op = 16 ∨ op = 80 ∨ op = 64 ∨ op = 32 ∨ op = 48 ∨ op = 160 ∨ op = 176
  · have hc' : condV op true x y = true := by
      cases wide
      · obtain ⟨h1, h2⟩ := hw rfl
        rw [← cond_wide ⟨ix.1, h1⟩ ⟨iy.1, h2⟩ ho]
        exact hc
      · exact hc
    exact sif_has rs rt ix iy hx hy hc'
  · obtain ⟨e1, e2⟩ := sif_other_math ho rs rt
    rw [e1, e2]
    exact ⟨rfl, hx⟩

theorem eq_meet {a b : Tn} {p q : BitVec 64} (ra : tR a = true) (rb : tR b = true) (ha : tH a p = true) (hb : tH b q = true) (e : p = q) : tMok a b = true ∧ tH (tM a b) p = true := by
  subst e
  have h := meet_has ra rb p
  rw [ha, hb, Bool.and_self] at h
  exact Bool.and_eq_true_iff.mp h.symm

/-- Numbers of which a condition holds may be what If tells. -/
theorem fI_good {op : Int} {wide : Bool} {a b : Fc} {p q : BitVec 64} (ha : Good a p) (hb : Good b q) (hw : wide = false → p.toNat < 4294967296 ∧ q.toNat < 4294967296)
    (hc : condV op wide (p.toNat : Int) (q.toNat : Int) = true) : ∃ x y, fI op a b = some (x, y) ∧ Good x p ∧ Good y q := by
  obtain ⟨r1, r2⟩ := fRR_iff.mp ha.fix.1
  obtain ⟨r3, r4⟩ := fRR_iff.mp hb.fix.1
  obtain ⟨h1, h2⟩ := fHas_iff.mp ha.has
  obtain ⟨h3, h4⟩ := fHas_iff.mp hb.has
  have hw' : wide = false → (p.toNat : Int) < 4294967296 ∧ (q.toNat : Int) < 4294967296 := fun h => by have := hw h; omega
  obtain ⟨k1, k2⟩ := sif_has' r2 r4 (nat64 p) (nat64 q) h2 h4 hw' hc
  -- the bits
  have hbits : fItok op a b = true ∧ tR (fIt1 op a b) = true ∧ tH (fIt1 op a b) p = true ∧ tR (fIt2 op a b) = true ∧ tH (fIt2 op a b) q = true := by
    unfold fItok fIt1 fIt2
    by_cases o : op = 16
    · subst o
      have e : p = q := by
        have h : (p.toNat : Int) % aM wide = (q.toNat : Int) % aM wide := by
          have := hc
          rw [cv_16, decide_eq_true_eq] at this
          exact this
        apply BitVec.eq_of_toNat_eq
        cases wide
        · have := hw rfl
          have h' : (p.toNat : Int) % 4294967296 = (q.toNat : Int) % 4294967296 := h
          omega
        · rw [lowM, lowM] at h
          omega
      obtain ⟨m1, m2⟩ := eq_meet r1 r3 h1 h3 e
      rw [if_pos rfl, if_pos rfl, if_pos rfl]
      exact ⟨m1, meet_right m1, m2, meet_right m1, by rw [← e]; exact m2⟩
    · rw [if_neg o, if_neg o, if_neg o]
      exact ⟨rfl, r1, h1, r3, h3⟩
  obtain ⟨b1, b2, b3, b4, b5⟩ := hbits
  -- the first one
  obtain ⟨x, hx, hxh⟩ := fS_has (f := (fIt1 op a b, sIf op a.2 b.2)) (sIf_in ha.inn r2 k1) (fRR_iff.mpr ⟨b2, sW_right (sif_within r2 k1)⟩) (fHas_iff.mpr ⟨b3, k2⟩)
  -- the second one
  have hr : fIrok op a b = true ∧ sIn (fIr op a b) ∧ sR (fIr op a b) = true ∧ sH (fIr op a b) q.toNat = true := by
    unfold fIrok fIr
    cases ht : turns op
    · exact ⟨rfl, hb.inn, r4, h4⟩
    · rw [if_pos rfl, if_pos rfl]
      rw [turn_cond ht] at hc
      obtain ⟨j1, j2⟩ := sif_has' r4 r2 (nat64 q) (nat64 p) h4 h2 (fun h => ⟨(hw' h).2, (hw' h).1⟩) hc
      exact ⟨j1, sIf_in hb.inn r4 j1, sW_right (sif_within r4 j1), j2⟩
  obtain ⟨c1, c2, c3, c4⟩ := hr
  obtain ⟨y, hy, hyh⟩ := fS_has (f := (fIt2 op a b, fIr op a b)) c2 (fRR_iff.mpr ⟨b4, c3⟩) (fHas_iff.mpr ⟨b5, c4⟩)
  refine ⟨x, y, ?_, ⟨fS_fix hx, fS_in (f := (fIt1 op a b, sIf op a.2 b.2)) (sIf_in ha.inn r2 k1) hx, hxh⟩, ⟨fS_fix hy, fS_in (f := (fIt2 op a b, fIr op a b)) c2 hy, hyh⟩⟩
  unfold fI fIx fIy
  rw [b1, k1, c1, if_pos rfl, if_pos rfl, if_pos rfl, hx, hy]
  rfl

/-- What If tells is within what was known. -/
theorem fI_le {op : Int} {a b x y : Fc} (ha : fFix a) (hb : fFix b) (h : fI op a b = some (x, y)) : fFix x ∧ fFix y ∧ fLe x a = true ∧ fLe y b = true := by
  obtain ⟨r1, r2⟩ := fRR_iff.mp ha.1
  obtain ⟨r3, r4⟩ := fRR_iff.mp hb.1
  unfold fI at h
  cases b1 : fItok op a b
  · rw [b1] at h; cases h
  rw [b1, if_pos rfl] at h
  cases hx : fIx op a b with
  | none => rw [hx] at h; cases h
  | some x' =>
    cases hy : fIy op a b with
    | none => rw [hx, hy] at h; cases h
    | some y' =>
      rw [hx, hy] at h
      have e : (x', y') = (x, y) := Option.some.inj h
      cases e
      unfold fIx at hx
      unfold fIy at hy
      cases k1 : sIfok op a.2 b.2
      · rw [k1] at hx; cases hx
      rw [k1, if_pos rfl] at hx
      cases c1 : fIrok op a b
      · rw [c1] at hy; cases hy
      rw [c1, if_pos rfl] at hy
      have t1 : tW (fIt1 op a b) a.1 = true ∧ tW (fIt2 op a b) b.1 = true := by
        unfold fIt1 fIt2
        unfold fItok at b1
        by_cases o : op = 16
        · rw [if_pos o] at b1
          rw [if_pos o, if_pos o]
          exact meet_within r1 r3 b1
        · rw [if_neg o, if_neg o]
          exact ⟨within_self r1, within_self r3⟩
      have s2 : sW (fIr op a b) b.2 = true := by
        unfold fIr
        unfold fIrok at c1
        cases ht : turns op
        · have h3 := right_le r4
          exact sW_mk h3 h3 (Int.le_refl _) (Int.le_refl _)
        · rw [ht, if_pos rfl] at c1
          rw [if_pos rfl]
          exact sif_within r4 c1
      exact ⟨fS_fix hx, fS_fix hy, fLe_on (fS_le hx) (fLe_iff.mpr ⟨t1.1, sif_within r2 k1⟩), fLe_on (fS_le hy) (fLe_iff.mpr ⟨t1.2, s2⟩)⟩

theorem fIf_good {op : Int} {wide : Bool} {a b : Fc} {p q : BitVec 64} (ha : Good a p) (hb : Good b q) (he : condE op = 0) (hc : condV op wide (p.toNat : Int) (q.toNat : Int) = true) :
    ∃ x y, fIf op wide a b = some (x, y) ∧ Good x p ∧ Good y q := by
  have h1 := fR_iff.mpr ha.fix
  have h2 := fR_iff.mpr hb.fix
  unfold fIf
  rw [h1, h2, Bool.and_self, if_pos rfl]
  by_cases hk : (fK a && fK b) = true
  · rw [if_pos hk]
    obtain ⟨k1, k2⟩ := Bool.and_eq_true_iff.mp hk
    rw [(ha.known k1).2, (hb.known k2).2, if_pos ⟨he, hc⟩]
    exact ⟨a, b, rfl, ha, hb⟩
  rw [if_neg hk]
  by_cases hw : wide = false ∧ (4294967296 ≤ a.2.2 ∨ 4294967296 ≤ b.2.2)
  · rw [if_pos hw]
    exact ⟨a, b, rfl, ha, hb⟩
  rw [if_neg hw]
  refine fI_good ha hb (fun h => ?_) hc
  have k1 := sH_iff.mp (fHas_iff.mp ha.has).2
  have k2 := sH_iff.mp (fHas_iff.mp hb.has).2
  have hn : ¬ (4294967296 ≤ a.2.2 ∨ 4294967296 ≤ b.2.2) := fun x => hw ⟨h, x⟩
  omega
theorem fIf_le {op : Int} {wide : Bool} {a b x y : Fc} (h : fIf op wide a b = some (x, y)) : fWi x a = true ∧ fWi y b = true := by
  unfold fIf at h
  cases hr : (fR a && fR b)
  · rw [hr] at h; cases h
  rw [hr, if_pos rfl] at h
  obtain ⟨h1, h2⟩ := Bool.and_eq_true_iff.mp hr
  have fa := fR_iff.mp h1
  have fb := fR_iff.mp h2
  have self : fWi a a = true ∧ fWi b b = true := by
    unfold fWi
    rw [h1, h2, fLe_self fa.1, fLe_self fb.1]
    exact ⟨rfl, rfl⟩
  by_cases hk : (fK a && fK b) = true
  · rw [if_pos hk] at h
    split at h
    · cases h
      exact self
    · cases h
  rw [if_neg hk] at h
  by_cases hw : wide = false ∧ (4294967296 ≤ a.2.2 ∨ 4294967296 ≤ b.2.2)
  · rw [if_pos hw] at h
    cases h
    exact self
  rw [if_neg hw] at h
  obtain ⟨f1, f2, l1, l2⟩ := fI_le fa fb h
  unfold fWi
  rw [h1, h2, fR_iff.mpr f1, fR_iff.mpr f2, l1, l2]
  exact ⟨rfl, rfl⟩

end Go.Proofs.Ytfepokiibdkoeaa


/-
  What walks over laws answer, named; blocks that hold cells, in whatever world has come of the first one.
  Conditions: none.
-/
namespace Go.Proofs.Ytfepokiibdkoeaa
open Go.RowKit
set_option linter.unusedVariables false

theorem int_lt_or (a b : Int) : a < b ∨ b ≤ a := by omega

/-- True, and nothing that was there has turned. -/
def Fine (w : World) (e : Ending) (w' : World) : Prop := e = .returned (.bool true) ∧ Below w.heap.size w w'
/-- One answer, and nothing that was there has turned. -/
def Gives (v : Value) (w : World) (e : Ending) (w' : World) : Prop := e = .returned v ∧ Below w.heap.size w w'
theorem gives_same {v u : Value} {w w' : World} {e : Ending} (h : u = v) (hg : Gives u w e w') : Gives v w e w' := by rw [← h]; exact hg
theorem below_alloc {w w' : World} (h : Below w.heap.size w w') (o : Obj) : Below w.heap.size w (w'.alloc o) := h.alloc h.size o

/-- A block that holds these cells. -/
def Blk (g : Nat) (cs : Array Value) (t : TypeId) (w : World) : Prop := w.heap[g]? = some (.cells cs t (0, 0))
theorem Blk.lt {g : Nat} {cs : Array Value} {t : TypeId} {w : World} (h : Blk g cs t w) : g < w.heap.size := by
  rcases Nat.lt_or_ge g w.heap.size with k | k
  · exact k
  · unfold Blk at h; rw [Array.getElem?_eq_none k] at h; cases h
theorem Blk.new (w : World) (cs : Array Value) (t : TypeId) {g : Nat} (hg : g = w.heap.size) : Blk g cs t (w.alloc (.cells cs t)) := by
  subst hg
  show (w.heap.push _)[w.heap.size]? = _
  simp
theorem Blk.below {g : Nat} {cs : Array Value} {t : TypeId} {w w' : World} {B : Nat} (h : Blk g cs t w) (b : Below B w w') (hB : g < B) : Blk g cs t w' := (b.block g hB).trans h
theorem Blk.after {g : Nat} {cs : Array Value} {t : TypeId} {w w' : World} (h : Blk g cs t w) (b : Below w.heap.size w w') : Blk g cs t w' := h.below b h.lt
theorem Blk.cell {g : Nat} {cs : Array Value} {t : TypeId} {w : World} (h : Blk g cs t w) (k : Nat) : w.cell? ⟨g, k, none⟩ = cs[k]? := cell_of_row w g k cs t (0, 0) h
theorem Blk.free {g : Nat} {cs : Array Value} {t : TypeId} {w : World} (h : Blk g cs t w) (k : Nat) : w.frozen? ⟨g, k, none⟩ = false := by
  unfold Blk at h
  simp [World.frozen?, h]
theorem Blk.set {g : Nat} {cs : Array Value} {t : TypeId} {w : World} (h : Blk g cs t w) (k : Nat) (v : Value) : Blk g (cs.setIfInBounds k v) t (w.setCell ⟨g, k, none⟩ v) := by
  unfold Blk at *
  simp [World.setCell, Array.getElem?_modify, h]
theorem Blk.other {g k o : Nat} {cs : Array Value} {t : TypeId} {w : World} (h : Blk g cs t w) (v : Value) (hk : g ≠ k) : Blk g cs t (w.setCell ⟨k, o, none⟩ v) := (Below.heap_setCell w ⟨k, o, none⟩ v g hk).trans h

/-- Blocks, in whatever world has come of w0. -/
def Blks (w0 : World) (l : List (Nat × Array Value × TypeId)) (u : World) : Prop := Below w0.heap.size w0 u ∧ ∀ p ∈ l, Blk p.1 p.2.1 p.2.2 u
theorem Blks.none_ {w u : World} (h : Below w.heap.size w u) : Blks w [] u := ⟨h, fun p hp => by cases hp⟩
theorem Blks.start (w : World) : Blks w [] w := Blks.none_ (Below.refl _ _)
theorem Blks.after {w0 u u' : World} {l : List (Nat × Array Value × TypeId)} (h : Blks w0 l u) (k : Below u.heap.size u u') : Blks w0 l u' := ⟨below_next' h.1 k, fun p hp => (h.2 p hp).after k⟩
theorem Blks.alloc {w0 u : World} {l : List (Nat × Array Value × TypeId)} (h : Blks w0 l u) (o : Obj) : Blks w0 l (u.alloc o) := h.after (below_alloc (Below.refl _ _) o)
theorem Blks.new {w0 u : World} {l : List (Nat × Array Value × TypeId)} (h : Blks w0 l u) (cs : Array Value) (t : TypeId) : Blks w0 ((u.heap.size, cs, t) :: l) (u.alloc (.cells cs t)) :=
  ⟨below_alloc h.1 _, fun p hp => by
    rcases List.mem_cons.mp hp with rfl | hp
    · exact Blk.new u cs t rfl
    · exact (h.2 p hp).after (below_alloc (Below.refl _ _) _)⟩
theorem Blks.one {w0 u : World} {g : Nat} {cs : Array Value} {t : TypeId} {l : List (Nat × Array Value × TypeId)} (h : Blks w0 ((g, cs, t) :: l) u) : Blk g cs t u ∧ Blks w0 l u :=
  ⟨h.2 (g, cs, t) (by simp), h.1, fun p hp => h.2 p (by simp [hp])⟩
theorem Blks.get {w0 u : World} {l : List (Nat × Array Value × TypeId)} (h : Blks w0 l u) {g : Nat} {cs : Array Value} {t : TypeId} (hp : (g, cs, t) ∈ l) : Blk g cs t u := h.2 _ hp

end Go.Proofs.Ytfepokiibdkoeaa


/-
  Blocks that hold facts.
  Conditions: none.
-/
namespace Go.Proofs.Ytfepokiibdkoeaa
open Go.RowKit
set_option linter.unusedVariables false

/-- A fact, and whether there is one. -/
abbrev fBV (f : Fc) (b : Bool) : Value := .tuple #[fV f, .bool b]
/-- A fact's cells. -/
abbrev fCells (f : Fc) : Array Value := #[uV f.1.1, uV f.1.2, .int .u64 f.2.1, .int .u64 f.2.2]
/-- A block that holds a fact. -/
def fB (g : Nat) (f : Fc) (w : World) : Prop := Blk g (fCells f) 28 w
theorem fB.new (w : World) (f : Fc) {g : Nat} (hg : g = w.heap.size) : fB g f (w.alloc (.cells (fCells f) 28)) := Blk.new w _ _ hg
theorem fB.lt {g : Nat} {f : Fc} {w : World} (h : fB g f w) : g < w.heap.size := Blk.lt h
theorem fB.after {g : Nat} {f : Fc} {w w' : World} (h : fB g f w) (b : Below w.heap.size w w') : fB g f w' := Blk.after h b
theorem fB.alloc {g : Nat} {f : Fc} {w : World} (h : fB g f w) (o : Obj) : fB g f (w.alloc o) := h.after (below_alloc (Below.refl _ _) o)
theorem fB.cells {g : Nat} {f : Fc} {w : World} (h : fB g f w) : w.cell? ⟨g, 0, none⟩ = some (uV f.1.1) ∧ w.cell? ⟨g, 1, none⟩ = some (uV f.1.2) ∧ w.cell? ⟨g, 2, none⟩ = some (.int .u64 f.2.1) ∧ w.cell? ⟨g, 3, none⟩ = some (.int .u64 f.2.2) :=
  ⟨Blk.cell h 0, Blk.cell h 1, Blk.cell h 2, Blk.cell h 3⟩
theorem fB.free {g : Nat} {f : Fc} {w : World} (h : fB g f w) : w.frozen? ⟨g, 0, none⟩ = false ∧ w.frozen? ⟨g, 1, none⟩ = false ∧ w.frozen? ⟨g, 2, none⟩ = false ∧ w.frozen? ⟨g, 3, none⟩ = false := ⟨Blk.free h 0, Blk.free h 1, Blk.free h 2, Blk.free h 3⟩
theorem fB.set {g : Nat} {f : Fc} {w : World} (h : fB g f w) (u : Fc) :
    fB g u ((((w.setCell ⟨g, 0, none⟩ (uV u.1.1)).setCell ⟨g, 1, none⟩ (uV u.1.2)).setCell ⟨g, 2, none⟩ (.int .u64 u.2.1)).setCell ⟨g, 3, none⟩ (.int .u64 u.2.2)) :=
  Blk.set (Blk.set (Blk.set (Blk.set h 0 (uV u.1.1)) 1 (uV u.1.2)) 2 (.int .u64 u.2.1)) 3 (.int .u64 u.2.2)
theorem fB.other {g k o : Nat} {f : Fc} {w : World} (h : fB g f w) (v : Value) (hk : g ≠ k) : fB g f (w.setCell ⟨k, o, none⟩ v) := Blk.other h v hk
theorem fB.others {g k : Nat} {f u : Fc} {w : World} (h : fB g f w) (hk : g ≠ k) :
    fB g f ((((w.setCell ⟨k, 0, none⟩ (uV u.1.1)).setCell ⟨k, 1, none⟩ (uV u.1.2)).setCell ⟨k, 2, none⟩ (.int .u64 u.2.1)).setCell ⟨k, 3, none⟩ (.int .u64 u.2.2)) :=
  (((h.other _ hk).other _ hk).other _ hk).other _ hk
theorem below_four {B k : Nat} {w u : World} (h : Below B w u) (hk : B ≤ k) (x : Fc) :
    Below B w ((((u.setCell ⟨k, 0, none⟩ (uV x.1.1)).setCell ⟨k, 1, none⟩ (uV x.1.2)).setCell ⟨k, 2, none⟩ (.int .u64 x.2.1)).setCell ⟨k, 3, none⟩ (.int .u64 x.2.2)) :=
  (((h.setCell (p := ⟨k, 0, none⟩) hk _).setCell (p := ⟨k, 1, none⟩) hk _).setCell (p := ⟨k, 2, none⟩) hk _).setCell (p := ⟨k, 3, none⟩) hk _

/-- One fact's block, and behind it a result's. -/
def FDuo (f t : Fc) (w u : World) : Prop := Below w.heap.size w u ∧ fB w.heap.size f u ∧ fB (w.heap.size + 1) t u
theorem FDuo.new (f t : Fc) (w : World) : FDuo f t w ((w.alloc (.cells (fCells f) 28)).alloc (.cells (fCells t) 28)) :=
  ⟨below_alloc (below_alloc (Below.refl _ _) _) _, (fB.new w f rfl).alloc _, fB.new _ t (by simp)⟩
theorem FDuo.after {f t : Fc} {w u u' : World} (h : FDuo f t w u) (k : Below u.heap.size u u') : FDuo f t w u' := ⟨below_next' h.1 k, h.2.1.after k, h.2.2.after k⟩
theorem FDuo.alloc {f t : Fc} {w u : World} (h : FDuo f t w u) (o : Obj) : FDuo f t w (u.alloc o) := h.after (below_alloc (Below.refl _ _) o)
theorem FDuo.set {f t : Fc} {w u : World} (h : FDuo f t w u) (s : Fc) :
    FDuo f s w ((((u.setCell ⟨w.heap.size + 1, 0, none⟩ (uV s.1.1)).setCell ⟨w.heap.size + 1, 1, none⟩ (uV s.1.2)).setCell ⟨w.heap.size + 1, 2, none⟩ (.int .u64 s.2.1)).setCell ⟨w.heap.size + 1, 3, none⟩ (.int .u64 s.2.2)) :=
  ⟨below_four h.1 (by omega) s, h.2.1.others (by omega), h.2.2.set s⟩
theorem FDuo.far {f t : Fc} {w u : World} {k : Nat} (h : FDuo f t w u) (hk : w.heap.size + 1 < k) (x y : Value) : FDuo f t w ((u.setCell ⟨k, 0, none⟩ x).setCell ⟨k, 1, none⟩ y) :=
  ⟨(h.1.setCell (p := ⟨k, 0, none⟩) (by dsimp only; omega) _).setCell (p := ⟨k, 1, none⟩) (by dsimp only; omega) _, (h.2.1.other _ (by omega)).other _ (by omega), (h.2.2.other _ (by omega)).other _ (by omega)⟩
theorem FDuo.setA {f t : Fc} {w u : World} (h : FDuo f t w u) (s : Fc) :
    FDuo s t w ((((u.setCell ⟨w.heap.size, 0, none⟩ (uV s.1.1)).setCell ⟨w.heap.size, 1, none⟩ (uV s.1.2)).setCell ⟨w.heap.size, 2, none⟩ (.int .u64 s.2.1)).setCell ⟨w.heap.size, 3, none⟩ (.int .u64 s.2.2)) :=
  ⟨below_four h.1 (Nat.le_refl _) s, h.2.1.set s, h.2.2.others (by omega)⟩

end Go.Proofs.Ytfepokiibdkoeaa


/-
  Blocks that hold what may be known, one, two, three, four; numbers of 64 bits in the walk's spelling.
  Conditions: none.
-/
namespace Go.Proofs.Ytfepokiibdkoeaa
open Go.RowKit
set_option linter.unusedVariables false

/-- A block that holds what may be known. -/
def Box (g : Nat) (t : Tn) (w : World) : Prop := w.heap[g]? = some (.cells #[uV t.1, uV t.2] 24 (0, 0))
theorem Box.lt {g : Nat} {t : Tn} {w : World} (h : Box g t w) : g < w.heap.size := by
  rcases Nat.lt_or_ge g w.heap.size with k | k
  · exact k
  · unfold Box at h; rw [Array.getElem?_eq_none k] at h; cases h
theorem Box.new (w : World) (t : Tn) {g : Nat} (hg : g = w.heap.size) : Box g t (w.alloc (.cells #[uV t.1, uV t.2] 24)) := by
  subst hg
  show (w.heap.push _)[w.heap.size]? = _
  simp
theorem Box.below {g : Nat} {t : Tn} {w w' : World} {B : Nat} (h : Box g t w) (b : Below B w w') (hB : g < B) : Box g t w' := (b.block g hB).trans h
theorem Box.after {g : Nat} {t : Tn} {w w' : World} (h : Box g t w) (b : Below w.heap.size w w') : Box g t w' := h.below b h.lt
theorem Box.alloc {g : Nat} {t : Tn} {w : World} (h : Box g t w) (o : Obj) : Box g t (w.alloc o) := h.after (below_alloc (Below.refl _ _) o)
theorem Box.cells {g : Nat} {t : Tn} {w : World} (h : Box g t w) : w.cell? ⟨g, 0, none⟩ = some (uV t.1) ∧ w.cell? ⟨g, 1, none⟩ = some (uV t.2) :=
  ⟨cell_of_row w g 0 _ _ (0, 0) h, cell_of_row w g 1 _ _ (0, 0) h⟩
theorem Box.free {g : Nat} {t : Tn} {w : World} (h : Box g t w) : w.frozen? ⟨g, 0, none⟩ = false ∧ w.frozen? ⟨g, 1, none⟩ = false := by
  unfold Box at h
  constructor <;> simp [World.frozen?, h]
theorem Box.set0 {g : Nat} {t : Tn} {w : World} (h : Box g t w) (x : BitVec 64) : Box g (x, t.2) (w.setCell ⟨g, 0, none⟩ (uV x)) := by
  unfold Box at *
  simp [World.setCell, Array.getElem?_modify, h]
theorem Box.set1 {g : Nat} {t : Tn} {w : World} (h : Box g t w) (x : BitVec 64) : Box g (t.1, x) (w.setCell ⟨g, 1, none⟩ (uV x)) := by
  unfold Box at *
  simp [World.setCell, Array.getElem?_modify, h]
theorem Box.set {g : Nat} {t : Tn} {w : World} (h : Box g t w) (u : Tn) : Box g u ((w.setCell ⟨g, 0, none⟩ (uV u.1)).setCell ⟨g, 1, none⟩ (uV u.2)) := (h.set0 u.1).set1 u.2
theorem Box.other {g k o : Nat} {t : Tn} {w : World} (h : Box g t w) (v : Value) (hk : g ≠ k) : Box g t (w.setCell ⟨k, o, none⟩ v) := (Below.heap_setCell w ⟨k, o, none⟩ v g hk).trans h
theorem bv_andNot' (x y : BitVec 64) : ((x.toNat &&& (18446744073709551615 - y.toNat) : Nat) : Int) = ((x &&& ~~~y).toNat : Int) := by
  rw [BitVec.toNat_and, BitVec.toNat_not]
/-- The boxes of two arguments, in whatever world has come of them. -/
def Pair (a b : Tn) (w u : World) : Prop := Below w.heap.size w u ∧ Box w.heap.size a u ∧ Box (w.heap.size + 1) b u
theorem Pair.new (a b : Tn) (w : World) : Pair a b w ((w.alloc (.cells #[uV a.1, uV a.2] 24)).alloc (.cells #[uV b.1, uV b.2] 24)) :=
  ⟨below_alloc (below_alloc (Below.refl _ _) _) _, (Box.new w a rfl).alloc _, Box.new _ b (by simp)⟩
theorem Pair.after {a b : Tn} {w u u' : World} (h : Pair a b w u) (k : Below u.heap.size u u') : Pair a b w u' := ⟨below_next' h.1 k, h.2.1.after k, h.2.2.after k⟩
theorem Pair.alloc {a b : Tn} {w u : World} (h : Pair a b w u) (o : Obj) : Pair a b w (u.alloc o) := h.after (below_alloc (Below.refl _ _) o)
theorem Pair.cells {a b : Tn} {w u : World} (h : Pair a b w u) : u.cell? ⟨w.heap.size, 0, none⟩ = some (uV a.1) ∧ u.cell? ⟨w.heap.size, 1, none⟩ = some (uV a.2) ∧
    u.cell? ⟨w.heap.size + 1, 0, none⟩ = some (uV b.1) ∧ u.cell? ⟨w.heap.size + 1, 1, none⟩ = some (uV b.2) := ⟨h.2.1.cells.1, h.2.1.cells.2, h.2.2.cells.1, h.2.2.cells.2⟩
/-- The same, and behind them a third box, a result's. -/
def Trio (a b t : Tn) (w u : World) : Prop := Pair a b w u ∧ Box (w.heap.size + 1 + 1) t u
theorem Trio.new (a b : Tn) (w : World) : Trio a b (0#64, 0#64) w (((w.alloc (.cells #[uV a.1, uV a.2] 24)).alloc (.cells #[uV b.1, uV b.2] 24)).alloc (.cells #[.int .u64 0, .int .u64 0] 24)) :=
  ⟨(Pair.new a b w).alloc _, Box.new _ (0#64, 0#64) (by simp)⟩
theorem Trio.after {a b t : Tn} {w u u' : World} (h : Trio a b t w u) (k : Below u.heap.size u u') : Trio a b t w u' := ⟨h.1.after k, h.2.after k⟩
theorem Trio.alloc {a b t : Tn} {w u : World} (h : Trio a b t w u) (o : Obj) : Trio a b t w (u.alloc o) := h.after (below_alloc (Below.refl _ _) o)
theorem Trio.set {a b t : Tn} {w u : World} (h : Trio a b t w u) (s : Tn) : Trio a b s w ((u.setCell ⟨w.heap.size + 1 + 1, 0, none⟩ (uV s.1)).setCell ⟨w.heap.size + 1 + 1, 1, none⟩ (uV s.2)) :=
  ⟨⟨(h.1.1.setCell (by simp; omega) _).setCell (by simp; omega) _, (h.1.2.1.other _ (by omega)).other _ (by omega), (h.1.2.2.other _ (by omega)).other _ (by omega)⟩, h.2.set s⟩
theorem bv_add' (x y : BitVec 64) : IntKind.u64.wrap ((x.toNat : Int) + (y.toNat : Int)) = ((x + y).toNat : Int) := by rw [IntKind.wrap_u64, bv_add]
theorem bv_sub' (x y : BitVec 64) : IntKind.u64.wrap ((x.toNat : Int) - (y.toNat : Int)) = ((x - y).toNat : Int) := by rw [IntKind.wrap_u64, bv_sub]
theorem low_int (x : BitVec 64) (k : Nat) : ((tLow x k).toNat : Int) = (x.toNat : Int) % 2 ^ k := by
  unfold tLow
  rw [BitVec.toNat_ofNat, Nat.mod_eq_of_lt (Nat.lt_of_le_of_lt (Nat.mod_le _ _) x.isLt)]
  simp
theorem mask_int (k : Nat) (h : k ≤ 63) : IntKind.u64.wrap (IntKind.u64.wrap (2 ^ k) - 1) = 2 ^ k - 1 := by
  have h1 := pow_lt_64 k h
  have h2 := pow_le_64 k (by omega)
  rw [IntKind.wrap_u64, IntKind.wrap_u64, h1]
  omega
theorem low_and (x : BitVec 64) (k : Nat) (h : k ≤ 63) : bits .and .u64 (x.toNat : Int) (IntKind.u64.wrap (IntKind.u64.wrap (2 ^ k) - 1)) = ((tLow x k).toNat : Int) := by
  rw [mask_int k h, and_mask _ k (by omega) (bv_rng x).1 (bv_rng x).2, low_int]
/-- The box of one argument, and behind it a result's. -/
def Duo (a t : Tn) (w u : World) : Prop := Below w.heap.size w u ∧ Box w.heap.size a u ∧ Box (w.heap.size + 1) t u
theorem Duo.new (a : Tn) (w : World) : Duo a (0#64, 0#64) w ((w.alloc (.cells #[uV a.1, uV a.2] 24)).alloc (.cells #[.int .u64 0, .int .u64 0] 24)) := Pair.new a (0#64, 0#64) w
theorem Duo.after {a t : Tn} {w u u' : World} (h : Duo a t w u) (k : Below u.heap.size u u') : Duo a t w u' := Pair.after h k
theorem Duo.set {a t : Tn} {w u : World} (h : Duo a t w u) (s : Tn) : Duo a s w ((u.setCell ⟨w.heap.size + 1, 0, none⟩ (uV s.1)).setCell ⟨w.heap.size + 1, 1, none⟩ (uV s.2)) :=
  ⟨(h.1.setCell (by simp) _).setCell (by simp) _, (h.2.1.other _ (by omega)).other _ (by omega), h.2.2.set s⟩
abbrev tBV (t : Tn) (ok : Bool) : Value := .tuple #[tV t, .bool ok]
theorem known_is {b : Tn} (h : tKnown b = true) : ((b.2.toNat : Int) != 0) = false ∧ (b.1.toNat : Int) ≤ 63 := by
  unfold tKnown at h
  simp at h
  obtain ⟨hm, hl⟩ := h
  exact ⟨by rw [bv_ne0, hm]; rfl, by omega⟩
theorem bv_shl' (x : BitVec 64) (k : Nat) : IntKind.u64.wrap ((x.toNat : Int) * 2 ^ k) = ((x <<< k).toNat : Int) := by rw [IntKind.wrap_u64, bv_shl]
/-- The boxes of mul: both arguments, the result, and what has come together so far. -/
def Quad (a b t : Tn) (w : World) (g : Nat) (u : World) : Prop := Trio a b (0#64, 0#64) w u ∧ w.heap.size + 1 + 1 < g ∧ Box g t u
theorem Quad.after {a b t : Tn} {w u u' : World} {g : Nat} (h : Quad a b t w g u) (k : Below u.heap.size u u') : Quad a b t w g u' := ⟨h.1.after k, h.2.1, h.2.2.after k⟩
theorem Quad.set {a b t : Tn} {w u : World} {g : Nat} (h : Quad a b t w g u) (s : Tn) : Quad a b s w g ((u.setCell ⟨g, 0, none⟩ (uV s.1)).setCell ⟨g, 1, none⟩ (uV s.2)) := by
  obtain ⟨⟨⟨h1, h2, h3⟩, h4⟩, h5, h6⟩ := h
  exact ⟨⟨⟨(h1.setCell (by simp; omega) _).setCell (by simp; omega) _, (h2.other _ (by omega)).other _ (by omega), (h3.other _ (by omega)).other _ (by omega)⟩, (h4.other _ (by omega)).other _ (by omega)⟩, h5, h6.set s⟩
theorem bit_ne (x : BitVec 64) (j : Nat) (h : j < 64) : (bits .and .u64 (x.toNat : Int) (IntKind.u64.wrap (2 ^ j)) != 0) = x.getLsbD j := by
  have e1 : IntKind.u64.wrap (2 ^ j) = ((BitVec.twoPow 64 j).toNat : Int) := by
    rw [IntKind.wrap_u64, BitVec.toNat_twoPow]; simp
  rw [e1, bv_and, bv_ne0]
  cases hb : x.getLsbD j
  · have e2 : x &&& BitVec.twoPow 64 j = 0#64 := by rw [BitVec.and_twoPow, if_neg (by simp [hb])]
    rw [e2]; rfl
  · have e2 : x &&& BitVec.twoPow 64 j = BitVec.twoPow 64 j := by rw [BitVec.and_twoPow, if_pos hb]
    rw [e2]
    have e3 : (BitVec.twoPow 64 j == 0#64) = false := by
      rw [beq_eq_false_iff_ne]
      intro e
      have e4 := congrArg (fun z : BitVec 64 => z.getLsbD j) e
      simp [BitVec.getLsbD_twoPow] at e4
      omega
    rw [e3]; rfl

end Go.Proofs.Ytfepokiibdkoeaa


/-
  What span's small functions answer, as contracts over their translated bodies.
  Conditions: none.
-/
namespace Go.Proofs.Ytfepokiibdkoeaa
open Go.RowKit
set_option linter.unusedVariables false

/-- A span, and whether there is one. -/
abbrev sBV (s : Sp) (b : Bool) : Value := .tuple #[sV s, .bool b]
/-- A block that holds a span. -/
def sB (g : Nat) (s : Sp) (w : World) : Prop := Blk g #[.int .u64 s.1, .int .u64 s.2] 26 w
theorem sB.new (w : World) (s : Sp) {g : Nat} (hg : g = w.heap.size) : sB g s (w.alloc (.cells #[.int .u64 s.1, .int .u64 s.2] 26)) := Blk.new w _ _ hg
theorem sB.lt {g : Nat} {s : Sp} {w : World} (h : sB g s w) : g < w.heap.size := Blk.lt h
theorem sB.after {g : Nat} {s : Sp} {w w' : World} (h : sB g s w) (b : Below w.heap.size w w') : sB g s w' := Blk.after h b
theorem sB.alloc {g : Nat} {s : Sp} {w : World} (h : sB g s w) (o : Obj) : sB g s (w.alloc o) := h.after (below_alloc (Below.refl _ _) o)
theorem sB.cells {g : Nat} {s : Sp} {w : World} (h : sB g s w) : w.cell? ⟨g, 0, none⟩ = some (.int .u64 s.1) ∧ w.cell? ⟨g, 1, none⟩ = some (.int .u64 s.2) := ⟨Blk.cell h 0, Blk.cell h 1⟩
theorem sB.free {g : Nat} {s : Sp} {w : World} (h : sB g s w) : w.frozen? ⟨g, 0, none⟩ = false ∧ w.frozen? ⟨g, 1, none⟩ = false := ⟨Blk.free h 0, Blk.free h 1⟩
theorem sB.set {g : Nat} {s : Sp} {w : World} (h : sB g s w) (t : Sp) : sB g t ((w.setCell ⟨g, 0, none⟩ (.int .u64 t.1)).setCell ⟨g, 1, none⟩ (.int .u64 t.2)) :=
  Blk.set (Blk.set h 0 (.int .u64 t.1)) 1 (.int .u64 t.2)
theorem sB.other {g k o : Nat} {s : Sp} {w : World} (h : sB g s w) (v : Value) (hk : g ≠ k) : sB g s (w.setCell ⟨k, o, none⟩ v) := Blk.other h v hk

/-- The blocks of two arguments, in whatever world has come of them; and behind them a result's. -/
def SPair (a b : Sp) (w u : World) : Prop := Below w.heap.size w u ∧ sB w.heap.size a u ∧ sB (w.heap.size + 1) b u
theorem SPair.new (a b : Sp) (w : World) : SPair a b w ((w.alloc (.cells #[.int .u64 a.1, .int .u64 a.2] 26)).alloc (.cells #[.int .u64 b.1, .int .u64 b.2] 26)) :=
  ⟨below_alloc (below_alloc (Below.refl _ _) _) _, (sB.new w a rfl).alloc _, sB.new _ b (by simp)⟩
theorem SPair.after {a b : Sp} {w u u' : World} (h : SPair a b w u) (k : Below u.heap.size u u') : SPair a b w u' := ⟨below_next' h.1 k, h.2.1.after k, h.2.2.after k⟩
theorem SPair.alloc {a b : Sp} {w u : World} (h : SPair a b w u) (o : Obj) : SPair a b w (u.alloc o) := h.after (below_alloc (Below.refl _ _) o)
def STrio (a b t : Sp) (w u : World) : Prop := SPair a b w u ∧ sB (w.heap.size + 1 + 1) t u
theorem STrio.new (a b : Sp) (w : World) : STrio a b (0, 0) w (((w.alloc (.cells #[.int .u64 a.1, .int .u64 a.2] 26)).alloc (.cells #[.int .u64 b.1, .int .u64 b.2] 26)).alloc (.cells #[.int .u64 0, .int .u64 0] 26)) :=
  ⟨(SPair.new a b w).alloc _, sB.new _ (0, 0) (by simp)⟩
theorem STrio.after {a b t : Sp} {w u u' : World} (h : STrio a b t w u) (k : Below u.heap.size u u') : STrio a b t w u' := ⟨h.1.after k, h.2.after k⟩
theorem STrio.set {a b t : Sp} {w u : World} (h : STrio a b t w u) (s : Sp) : STrio a b s w ((u.setCell ⟨w.heap.size + 1 + 1, 0, none⟩ (.int .u64 s.1)).setCell ⟨w.heap.size + 1 + 1, 1, none⟩ (.int .u64 s.2)) :=
  ⟨⟨(h.1.1.setCell (by simp; omega) _).setCell (by simp; omega) _, (h.1.2.1.other _ (by omega)).other _ (by omega), (h.1.2.2.other _ (by omega)).other _ (by omega)⟩, h.2.set s⟩
theorem STrio.setA {a b t : Sp} {w u : World} (h : STrio a b t w u) (v : Int) : STrio (v, a.2) b t w (u.setCell ⟨w.heap.size, 0, none⟩ (.int .u64 v)) :=
  ⟨⟨h.1.1.setCell (by simp) _, Blk.set h.1.2.1 0 (.int .u64 v), h.1.2.2.other _ (by omega)⟩, h.2.other _ (by omega)⟩
theorem STrio.setB {a b t : Sp} {w u : World} (h : STrio a b t w u) (v : Int) : STrio (a.1, v) b t w (u.setCell ⟨w.heap.size, 1, none⟩ (.int .u64 v)) :=
  ⟨⟨h.1.1.setCell (by simp) _, Blk.set h.1.2.1 1 (.int .u64 v), h.1.2.2.other _ (by omega)⟩, h.2.other _ (by omega)⟩

theorem sright_says (s : Sp) (w : World) : Calls Try.prog 104 #[sV s] w (Gives (.bool (sR s)) w) := by
  go_enter Try.func104, Try.ntmps104
  go_wp2
  go_ret
  exact ⟨end_bool rfl, below_alloc (Below.refl _ _) _⟩
theorem sall_says (w : World) : Calls Try.prog 44 #[] w (Gives (sV sAll) w) := by
  go_enter Try.func44, Try.ntmps44
  go_wp2
  refine bodyPost_ret (v := sV sAll) (by simp [results, Try.results44, go_sem, sAll]) rfl ⟨rfl, ?_⟩
  exact below_alloc (Below.refl _ _) _
theorem shas_says (s : Sp) (n : Int) (w : World) : Calls Try.prog 47 #[sV s, .int .u64 n] w (Gives (.bool (sH s n)) w) := by
  unfold sH
  rcases int_lt_or n s.1 with h | h
  · have e1 : decide (s.1 ≤ n) = false := decide_eq_false (by omega)
    rw [e1]
    clear e1
    go_enter Try.func47, Try.ntmps47
    go_wp2
    go_ret
    exact ⟨rfl, below_alloc (Below.refl _ _) _⟩
  · have e1 : decide (s.1 ≤ n) = true := decide_eq_true (by omega)
    rw [e1]
    clear e1
    go_enter Try.func47, Try.ntmps47
    go_wp2
    go_ret
    exact ⟨rfl, below_alloc (Below.refl _ _) _⟩
theorem stold_says (l h : Int) (w : World) : Calls Try.prog 102 #[.int .u64 l, .int .u64 h] w (Gives (sBV (sT l h) (sTok l h)) w) := by
  unfold sT sTok
  rcases int_lt_or h l with k | k
  · rw [if_pos k, decide_eq_false (by omega)]
    go_enter Try.func102, Try.ntmps102
    go_wp2
    exact bodyPost_ret (v := sBV (0, 0) false) (by simp [results, Try.results102, go_sem]) rfl ⟨rfl, below_alloc (Below.refl _ _) _⟩
  · rw [if_neg (by omega), decide_eq_true (by omega)]
    go_enter Try.func102, Try.ntmps102
    go_wp2
    exact bodyPost_ret (v := sBV (l, h) true) (by simp [results, Try.results102, go_sem]) rfl ⟨rfl, below_alloc (Below.refl _ _) _⟩
set_option maxHeartbeats 1000000 in
theorem smeet_says (a b : Sp) (w : World) : Calls Try.prog 77 #[sV a, sV b] w (Gives (sBV (sM a b) (sMok a b)) w) := by
  unfold sM sMok
  have hx := Lib.hid (STrio.new a b w)
  have T := Lib.hid (stold_says (max a.1 b.1) (min a.2 b.2))
  generalize sT (max a.1 b.1) (min a.2 b.2) = t at *
  generalize sTok (max a.1 b.1) (min a.2 b.2) = k at *
  have e1 : max a.1 b.1 = if a.1 < b.1 then b.1 else a.1 := by split <;> omega
  have e2 : min a.2 b.2 = if b.2 < a.2 then b.2 else a.2 := by split <;> omega
  rw [e1, e2] at T
  clear e1 e2
  rcases int_lt_or a.1 b.1 with h1 | h1
  all_goals
    rcases int_lt_or b.2 a.2 with h2 | h2
  all_goals
    first | rw [if_pos h1] at T | rw [if_neg (by omega)] at T
    first | rw [if_pos h2] at T | rw [if_neg (by omega)] at T
    go_enter Try.func77, Try.ntmps77
    go_wp2_with fail
    refine (T.out _).mono ?_; rintro e w1 ⟨rfl, b1⟩
    have x1 := hx.out.after b1
    obtain ⟨c0, c1⟩ := x1.2.cells
    obtain ⟨f0, f1⟩ := x1.2.free
    have X1 := Lib.hid (x1.set t)
    clear x1 hx b1
    go_wp2_with fail
    exact bodyPost_ret (v := sBV t k) (by simp [results, Try.results77, go_sem, c0, c1]) rfl ⟨rfl, X1.out.1.1⟩
theorem sboth_says (a b : Sp) (w : World) : Calls Try.prog 87 #[sV a, sV b] w (Gives (.bool (sRR a b)) w) := by
  have h1 := Lib.hid (sright_says a)
  have h2 := Lib.hid (sright_says b)
  have hx := Lib.hid (SPair.new a b w)
  unfold sRR
  generalize sR b = y at *
  cases ha : sR a
  · rw [ha] at h1
    clear ha
    go_enter Try.func87, Try.ntmps87
    go_wp2_with fail
    refine (h1.out _).mono ?_; rintro e w1 ⟨rfl, b1⟩
    go_wp2_with fail
    go_ret
    exact ⟨rfl, (hx.out.after b1).1⟩
  · rw [ha] at h1
    clear ha
    go_enter Try.func87, Try.ntmps87
    go_wp2_with fail
    refine (h1.out _).mono ?_; rintro e w1 ⟨rfl, b1⟩
    have x1 := hx.out.after b1
    obtain ⟨p0, p1⟩ := x1.2.2.cells
    have X1 := Lib.hid x1
    clear x1 hx b1
    go_wp2_with fail
    refine (h2.out _).mono ?_; rintro e w2 ⟨rfl, b2⟩
    go_wp2_with fail
    go_ret
    exact ⟨rfl, (X1.out.after b2).1⟩
set_option maxHeartbeats 1000000 in
theorem swithin_says (a b : Sp) (w : World) : Calls Try.prog 55 #[sV a, sV b] w (Gives (.bool (sW a b)) w) := by
  have h1 := Lib.hid (sboth_says a b)
  have hx := Lib.hid (SPair.new a b w)
  unfold sW
  cases ha : sRR a b
  · rw [ha] at h1
    clear ha
    go_enter Try.func55, Try.ntmps55
    go_wp2_with fail
    refine (h1.out _).mono ?_; rintro e w1 ⟨rfl, b1⟩
    go_wp2_with fail
    go_ret
    exact ⟨rfl, (hx.out.after b1).1⟩
  · rw [ha] at h1
    clear ha
    rcases int_lt_or a.1 b.1 with h | h
    · rw [decide_eq_false (p := b.1 ≤ a.1) (by omega)]
      go_enter Try.func55, Try.ntmps55
      go_wp2_with fail
      refine (h1.out _).mono ?_; rintro e w1 ⟨rfl, b1⟩
      have x1 := hx.out.after b1
      obtain ⟨p0, p1⟩ := x1.2.2.cells
      obtain ⟨q0, q1⟩ := x1.2.1.cells
      have X1 := Lib.hid x1
      clear x1 hx b1
      go_wp2_with fail
      go_ret
      exact ⟨rfl, X1.out.1⟩
    · rw [decide_eq_true (p := b.1 ≤ a.1) (by omega)]
      go_enter Try.func55, Try.ntmps55
      go_wp2_with fail
      refine (h1.out _).mono ?_; rintro e w1 ⟨rfl, b1⟩
      have x1 := hx.out.after b1
      obtain ⟨p0, p1⟩ := x1.2.2.cells
      obtain ⟨q0, q1⟩ := x1.2.1.cells
      have X1 := Lib.hid x1
      clear x1 hx b1
      go_wp2_with fail
      go_ret
      exact ⟨rfl, X1.out.1⟩
set_option maxHeartbeats 1000000 in
theorem sjoin_says (a b : Sp) (w : World) : Calls Try.prog 59 #[sV a, sV b] w (Gives (sV (sJ a b)) w) := by
  have h1 := Lib.hid (sboth_says a b)
  have hx := Lib.hid (STrio.new a b w)
  unfold sJ
  cases ha : sRR a b
  · rw [ha] at h1
    clear ha
    go_enter Try.func59, Try.ntmps59
    go_wp2_with fail
    refine (h1.out _).mono ?_; rintro e w1 ⟨rfl, b1⟩
    have x1 := hx.out.after b1
    obtain ⟨c0, c1⟩ := x1.2.cells
    obtain ⟨f0, f1⟩ := x1.2.free
    have X1 := Lib.hid (x1.set (0, 0))
    clear x1 hx b1
    go_wp2_with fail
    exact bodyPost_ret (v := sV (0, 0)) (by simp [results, Try.results59, go_sem, c0, c1]) rfl ⟨rfl, X1.out.1.1⟩
  · rw [ha] at h1
    rw [if_pos rfl]
    clear ha
    have e1 : min a.1 b.1 = if b.1 < a.1 then b.1 else a.1 := by split <;> omega
    have e2 : max a.2 b.2 = if a.2 < b.2 then b.2 else a.2 := by split <;> omega
    rw [e1, e2]
    clear e1 e2
    rcases int_lt_or b.1 a.1 with k1 | k1
    all_goals
      rcases int_lt_or a.2 b.2 with k2 | k2
    all_goals
      first | rw [if_pos k1] | rw [if_neg (by omega)]
      first | rw [if_pos k2] | rw [if_neg (by omega)]
      go_enter Try.func59, Try.ntmps59
      go_wp2_with fail
      refine (h1.out _).mono ?_; rintro e w1 ⟨rfl, b1⟩
      have x1 := hx.out.after b1
      obtain ⟨c0, c1⟩ := x1.2.cells
      obtain ⟨p0, p1⟩ := x1.1.2.2.cells
      obtain ⟨q0, q1⟩ := x1.1.2.1.cells
      obtain ⟨f0, f1⟩ := x1.2.free
      have X1 := Lib.hid x1
      clear x1 hx b1
      go_wp2_with fail
      first
        | exact bodyPost_ret (v := sV (a.1, a.2)) (by simp [results, Try.results59, go_sem, c0, c1]) rfl ⟨rfl, (X1.out.set (a.1, a.2)).1.1⟩
        | exact bodyPost_ret (v := sV (a.1, b.2)) (by simp [results, Try.results59, go_sem, c0, c1]) rfl ⟨rfl, (X1.out.set (a.1, b.2)).1.1⟩
        | exact bodyPost_ret (v := sV (b.1, a.2)) (by simp [results, Try.results59, go_sem, c0, c1]) rfl ⟨rfl, (X1.out.set (b.1, a.2)).1.1⟩
        | exact bodyPost_ret (v := sV (b.1, b.2)) (by simp [results, Try.results59, go_sem, c0, c1]) rfl ⟨rfl, (X1.out.set (b.1, b.2)).1.1⟩

end Go.Proofs.Ytfepokiibdkoeaa


/-
  The program's fact: what a range tells of bits.
  Conditions: the numbers fit their kinds.
-/
namespace Go.Proofs.Ytfepokiibdkoeaa
open Go.RowKit
set_option linter.unusedVariables false

/-- A range's block, and behind it what it tells. -/
def RD (s : Sp) (t : Tn) (w u : World) : Prop := Below w.heap.size w u ∧ sB w.heap.size s u ∧ Box (w.heap.size + 1) t u
theorem RD.new (s : Sp) (w : World) : RD s (0#64, 0#64) w ((w.alloc (.cells #[.int .u64 s.1, .int .u64 s.2] 26)).alloc (.cells #[.int .u64 0, .int .u64 0] 24)) :=
  ⟨below_alloc (below_alloc (Below.refl _ _) _) _, (sB.new w s rfl).alloc _, Box.new _ (0#64, 0#64) (by simp)⟩
theorem RD.set {s : Sp} {t : Tn} {w u : World} (h : RD s t w u) (x : Tn) : RD s x w ((u.setCell ⟨w.heap.size + 1, 0, none⟩ (uV x.1)).setCell ⟨w.heap.size + 1, 1, none⟩ (uV x.2)) :=
  ⟨(h.1.setCell (by simp) _).setCell (by simp) _, (h.2.1.other _ (by omega)).other _ (by omega), h.2.2.set x⟩

theorem mk_mask (k : Nat) (h : k ≤ 63) : IntKind.u64.wrap (IntKind.u64.wrap (2 ^ k) - 1) = ((mk k).toNat : Int) := by
  rw [mask_int k h]
  unfold mk
  have h1 := Nat.pow_le_pow_right (n := 2) (by decide) h
  have h2 : (2 : Nat) ^ 63 = 9223372036854775808 := by decide
  have h3 := Nat.two_pow_pos k
  rw [BitVec.toNat_ofNat, Nat.mod_eq_of_lt (by omega), Int.natCast_sub (by omega)]
  push_cast
  rfl

set_option maxHeartbeats 1000000 in
theorem fp_told_bv (L H : BitVec 64) (w : World) : Calls Try.prog 79 #[.agg #[uV L, uV H]] w (Gives (tV (rng L H)) w) := by
  have Z := Lib.hid (len64_says (L ^^^ H))
  have hx := Lib.hid (RD.new ((L.toNat : Int), (H.toNat : Int)) w)
  have hk := bl_le (L ^^^ H)
  have hr : rng L H = (L &&& ~~~mk (bl (L ^^^ H)), mk (bl (L ^^^ H))) := rfl
  rw [hr]
  clear hr
  have HX := Lib.hid (bv_xor L H)
  generalize hz : L ^^^ H = z at *
  generalize bl z = k at *
  clear hz
  obtain ⟨c0, c1⟩ := hx.out.2.1.cells
  by_cases h64 : k = 64
  · subst h64
    have ha := bv_andNot L (mk 64)
    have hm : IntKind.u64.wrap (IntKind.u64.wrap 18446744073709551616 - 1) = ((mk 64).toNat : Int) := by rw [IntKind.wrap_u64, IntKind.wrap_u64]; decide
    generalize L &&& ~~~mk 64 = v at *
    generalize mk 64 = m at *
    have HM := Lib.hid hm
    have HA := Lib.hid ha
    clear hm ha
    go_enter Try.func79, Try.ntmps79
    go_wp2_with fail
    rw [HX.out]
    refine (Z.out _).mono ?_; rintro e w1 ⟨rfl, rfl⟩
    go_wp2_with fail
    rw [HM.out, HA.out]
    exact bodyPost_ret (v := tV (v, m)) (by simp [results, Try.results79, go_sem]) rfl ⟨rfl, below_alloc (below_alloc (Below.refl _ _) _) _⟩
  · have hm := mk_mask k (by omega)
    have ha := bv_andNot L (mk k)
    generalize L &&& ~~~mk k = v at *
    generalize mk k = m at *
    have hk' : k ≤ 63 := by omega
    have HM := Lib.hid hm
    have HA := Lib.hid ha
    clear hm ha h64
    go_enter Try.func79, Try.ntmps79
    go_wp2_with fail
    rw [HX.out]
    refine (Z.out _).mono ?_; rintro e w1 ⟨rfl, rfl⟩
    go_wp2_with fail
    rw [HM.out, HA.out]
    exact bodyPost_ret (v := tV (v, m)) (by simp [results, Try.results79, go_sem]) rfl ⟨rfl, below_alloc (below_alloc (Below.refl _ _) _) _⟩

theorem fp_told (s : Sp) (w : World) (hs : sIn s) : Calls Try.prog 79 #[sV s] w (Gives (tV (rS s)) w) := by
  have e1 := ofInt_nat hs.1
  have e2 := ofInt_nat hs.2
  have h := fp_told_bv (BitVec.ofInt 64 s.1) (BitVec.ofInt 64 s.2) w
  have e3 : (.agg #[uV (BitVec.ofInt 64 s.1), uV (BitVec.ofInt 64 s.2)] : Value) = sV s := by
    show (.agg #[.int .u64 ((BitVec.ofInt 64 s.1).toNat : Int), .int .u64 ((BitVec.ofInt 64 s.2).toNat : Int)] : Value) = _
    rw [e1, e2]
  rw [e3] at h
  exact h

end Go.Proofs.Ytfepokiibdkoeaa


/-
  The document's own answers of layer 6: what a range tells of bits.
  Conditions: the numbers fit their kinds.
-/
namespace Go.Proofs.Ytfepokiibdkoeaa
open Go.RowKit
set_option linter.unusedVariables false

/-- One place further down. -/
theorem shr_nat (x : BitVec 64) (m : Nat) : (x >>> m).toNat = (x >>> (m + 1)).toNat * 2 + x.toNat / 2 ^ m % 2 := by
  rw [BitVec.toNat_ushiftRight, BitVec.toNat_ushiftRight, Nat.shiftRight_eq_div_pow, Nat.shiftRight_eq_div_pow, Nat.pow_succ, ← Nat.div_div_eq_div_mul]
  omega
theorem bit_mod (x : BitVec 64) (m : Nat) : x.toNat / 2 ^ m % 2 = if x.getLsbD m then 1 else 0 := by
  have h : x.getLsbD m = decide (x.toNat / 2 ^ m % 2 = 1) := by
    show x.toNat.testBit m = _
    rw [Nat.testBit_eq_decide_div_mod_eq]
  rw [h]
  have h2 := Nat.mod_two_eq_zero_or_one (x.toNat / 2 ^ m)
  rcases h2 with h2 | h2 <;> simp [h2]
theorem shr_step (x : BitVec 64) (m : Nat) : ((x >>> m).toNat : Int) = ((x >>> (m + 1)).toNat : Int) * 2 + (if x.getLsbD m then 1 else 0) := by
  rw [shr_nat, bit_mod]
  split <;> push_cast <;> rfl
theorem shr_all (x : BitVec 64) : x >>> 64 = 0#64 := by
  apply BitVec.eq_of_toNat_eq
  rw [BitVec.toNat_ushiftRight, Nat.shiftRight_eq_div_pow, Nat.div_eq_of_lt x.isLt]
  rfl
theorem bit_num (x : BitVec 64) (m : Nat) : (x.toNat : Int) / 2 ^ m % 2 = if x.getLsbD m then 1 else 0 := by
  have e : (x.toNat : Int) / 2 ^ m % 2 = ((x.toNat / 2 ^ m % 2 : Nat) : Int) := by push_cast; rfl
  rw [e, bit_mod]
  split <;> rfl

/-- A range's block, a result's, and one of what it tells so far. -/
def RT (s : Sp) (t : Tn) (w u : World) : Prop := Below w.heap.size w u ∧ sB w.heap.size s u ∧ Box (w.heap.size + 1) (0#64, 0#64) u ∧ Box (w.heap.size + 1 + 1) t u
theorem RT.new (s : Sp) (w : World) : RT s (0#64, 0#64) w (((w.alloc (.cells #[.int .u64 s.1, .int .u64 s.2] 26)).alloc (.cells #[.int .u64 0, .int .u64 0] 24)).alloc (.cells #[.int .u64 0, .int .u64 0] 24)) :=
  ⟨below_alloc (below_alloc (below_alloc (Below.refl _ _) _) _) _, ((sB.new w s rfl).alloc _).alloc _, (Box.new _ (0#64, 0#64) (by simp)).alloc _, Box.new _ (0#64, 0#64) (by simp)⟩
theorem RT.mask {s : Sp} {t : Tn} {w u : World} (h : RT s t w u) (x y : BitVec 64) (z : Value) :
    RT s (x, y) w (((u.setCell ⟨w.heap.size + 1 + 1, 0, none⟩ (uV x)).setCell ⟨w.heap.size + 1 + 1, 1, none⟩ z).setCell ⟨w.heap.size + 1 + 1, 1, none⟩ (uV y)) :=
  ⟨((h.1.setCell (by simp; omega) _).setCell (by simp; omega) _).setCell (by simp; omega) _, ((h.2.1.other _ (by omega)).other _ (by omega)).other _ (by omega), ((h.2.2.1.other _ (by omega)).other _ (by omega)).other _ (by omega),
    Blk.set (Blk.set (Blk.set (show Blk _ _ _ _ from h.2.2.2) 0 (uV x)) 1 z) 1 (uV y)⟩
theorem RT.value {s : Sp} {t : Tn} {w u : World} (h : RT s t w u) (x y : BitVec 64) (z : Value) :
    RT s (x, y) w (((u.setCell ⟨w.heap.size + 1 + 1, 0, none⟩ z).setCell ⟨w.heap.size + 1 + 1, 1, none⟩ (uV y)).setCell ⟨w.heap.size + 1 + 1, 0, none⟩ (uV x)) :=
  ⟨((h.1.setCell (by simp; omega) _).setCell (by simp; omega) _).setCell (by simp; omega) _, ((h.2.1.other _ (by omega)).other _ (by omega)).other _ (by omega), ((h.2.2.1.other _ (by omega)).other _ (by omega)).other _ (by omega),
    Blk.set (Blk.set (Blk.set (show Blk _ _ _ _ from h.2.2.2) 0 z) 1 (uV y)) 0 (uV x)⟩

set_option maxHeartbeats 4000000 in
theorem rf_ranged_bv (L H : BitVec 64) (w : World) : Calls Try.prog 82 #[.agg #[uV L, uV H]] w (Gives (tV (rng L H)) w) := by
  have hx := Lib.hid (RT.new ((L.toNat : Int), (H.toNat : Int)) w)
  have hb := Lib.hid fun (i : Nat) (hi : i < 64) => rng_bit L H hi
  have hz : ((rng L H).1 >>> 64, (rng L H).2 >>> 64) = (0#64, 0#64) := by rw [shr_all, shr_all]
  have hK := bl_le (L ^^^ H)
  have hKb := Lib.hid fun (m : Nat) (h : ¬ m + 1 < bl (L ^^^ H)) => (hi_iff L H (m + 1)).mp ((bl_iff (L ^^^ H) (m + 1)).mp (by omega))
  generalize hV : (rng L H).1 = V at *
  generalize hM : (rng L H).2 = M at *
  have hT : rng L H = (V, M) := Prod.ext hV hM
  rw [hT]
  clear hT hV hM
  go_enter Try.func82, Try.ntmps82
  go_wp2_with fail
  go_loopw [4, 5] (fun u i wr => ∃ (j : Nat) (k : Int) (q : Bool), j ≤ 64 ∧ k + 1 = j ∧ q = decide (j < bl (L ^^^ H)) ∧ u = .bool q ∧ i = .int .i64 k ∧ Hid (RT ((L.toNat : Int), (H.toNat : Int)) (V >>> j, M >>> j) w wr)) (fun _ i _ => ((intOf i) + 1).toNat)
  case atStart => exact ⟨64, 63, false, by omega, by omega, (decide_eq_false (by omega)).symm, rfl, rfl, Lib.hid (by rw [hz]; exact hx.out)⟩
  case round =>
    obtain ⟨j, k, q, hj, hk, hq, rfl, rfl, X⟩ := hrel
    obtain ⟨c0, c1⟩ := X.out.2.1.cells
    obtain ⟨t0, t1⟩ := X.out.2.2.2.cells
    obtain ⟨f0, f1⟩ := X.out.2.2.2.free
    by_cases hlt : 0 ≤ k
    · obtain ⟨m, rfl⟩ := Int.eq_ofNat_of_zero_le hlt
      obtain rfl : j = m + 1 := by omega
      have hm : m ≤ 63 := by omega
      have eV := shr_step V m
      have eM := shr_step M m
      obtain ⟨bV, bM⟩ := hb.out m (by omega)
      rw [bV] at eV
      rw [bM] at eM
      have eL := bit_num L m
      have eH := bit_num H m
      have tL : ((L.toNat : Int) / 2 ^ m).tmod 2 = (L.toNat : Int) / 2 ^ m % 2 := Int.tmod_eq_emod_of_nonneg (Int.ediv_nonneg (by omega) (by have := two_pow_pos m; omega))
      have tH : ((H.toNat : Int) / 2 ^ m).tmod 2 = (H.toNat : Int) / 2 ^ m % 2 := Int.tmod_eq_emod_of_nonneg (Int.ediv_nonneg (by omega) (by have := two_pow_pos m; omega))
      have lV := bv_rng (V >>> m)
      have lM := bv_rng (M >>> m)
      have XM := Lib.hid (X.out.mask (V >>> m) (M >>> m) (.int .u64 (((M >>> (m + 1)).toNat : Int) * 2)))
      have XV := Lib.hid (X.out.value (V >>> m) (M >>> m) (.int .u64 (((V >>> (m + 1)).toNat : Int) * 2)))
      generalize V >>> (m + 1) = V1 at *
      generalize hv0 : V >>> m = V0 at *
      generalize M >>> (m + 1) = M1 at *
      generalize hm0 : M >>> m = M0 at *
      have EV := Lib.hid hv0
      have EM := Lib.hid hm0
      clear hv0 hm0
      by_cases h1 : m + 1 < bl (L ^^^ H)
      · rw [decide_eq_true (p := m < bl (L ^^^ H)) (by omega)] at eV eM
        rw [decide_eq_true h1] at hq
        subst hq
        have d1 : (V1.toNat : Int) * 2 = (V0.toNat : Int) := by simpa using eV.symm
        have d2 : (M1.toNat : Int) * 2 + 1 = (M0.toNat : Int) := by simpa using eM.symm
        have d3 : IntKind.u64.wrap ((V1.toNat : Int) * 2) = (V0.toNat : Int) := by rw [d1, IntKind.wrap_u64]; omega
        generalize (L.toNat : Int) / 2 ^ m % 2 = la at *
        generalize (H.toNat : Int) / 2 ^ m % 2 = ha at *
        clear hb hKb hx hz eV eM bV bM eL eH d1 XV
        go_wp2_with fail
        go_round
        case rel => exact ⟨m, (m : Int) - 1 + 1 - 1, true, by omega, by omega, (decide_eq_true (by omega)).symm, rfl, by congr 1; omega, by rw [EV.out, EM.out]; exact XM⟩
        case measure => first | (simp [intOf]; done) | (simp [intOf]; omega)
      · have hk1 := hi_bit (hKb.out m h1) (i := m + 1)
        rw [decide_eq_false h1] at hq
        subst hq
        by_cases h2 : m < bl (L ^^^ H)
        · -- the highest bit in which they are unlike
          have hne : ¬ L.getLsbD m = H.getLsbD m := by
            intro he
            have : bl (L ^^^ H) ≤ m := by
              rw [bl_iff, hi_iff]
              apply Nat.eq_of_testBit_eq
              intro i
              rw [bit_div, bit_div]
              by_cases hi : i = 0
              · subst hi; exact he
              · exact hi_bit (hKb.out m h1) (by omega)
            omega
          rw [decide_eq_true h2] at eV eM
          have d1 : (V1.toNat : Int) * 2 = (V0.toNat : Int) := by simpa using eV.symm
          have d2 : (M1.toNat : Int) * 2 + 1 = (M0.toNat : Int) := by simpa using eM.symm
          have d3 : IntKind.u64.wrap ((V1.toNat : Int) * 2) = (V0.toNat : Int) := by rw [d1, IntKind.wrap_u64]; omega
          have d4 : (((L.toNat : Int) / 2 ^ m % 2) != ((H.toNat : Int) / 2 ^ m % 2)) = true := by
            rw [eL, eH]
            revert hne
            cases L.getLsbD m <;> cases H.getLsbD m <;> simp
          generalize (L.toNat : Int) / 2 ^ m % 2 = la at *
          generalize (H.toNat : Int) / 2 ^ m % 2 = ha at *
          clear hb hKb hx hz eV eM bV bM eL eH d1 hk1 hne XV
          go_wp2_with fail
          go_round
          case rel => exact ⟨m, (m : Int) - 1 + 1 - 1, true, by omega, by omega, (decide_eq_true h2).symm, rfl, by congr 1; omega, by rw [EV.out, EM.out]; exact XM⟩
          case measure => first | (simp [intOf]; done) | (simp [intOf]; omega)
        · have heq : L.getLsbD m = H.getLsbD m := hi_bit ((hi_iff L H m).mp ((bl_iff _ _).mp (by omega))) (Nat.le_refl m)
          rw [decide_eq_false h2] at eV eM
          have d2 : (M1.toNat : Int) * 2 = (M0.toNat : Int) := by simpa using eM.symm
          have d3 : IntKind.u64.wrap ((M1.toNat : Int) * 2) = (M0.toNat : Int) := by rw [d2, IntKind.wrap_u64]; omega
          have d1 : (V1.toNat : Int) * 2 + (L.toNat : Int) / 2 ^ m % 2 = (V0.toNat : Int) := by rw [eL, eV]; simp
          have d4 : (((L.toNat : Int) / 2 ^ m % 2) != ((H.toNat : Int) / 2 ^ m % 2)) = false := by rw [eL, eH, heq]; simp
          have d5 : 0 ≤ (L.toNat : Int) / 2 ^ m % 2 := by rw [eL]; split <;> omega
          generalize (L.toNat : Int) / 2 ^ m % 2 = la at *
          generalize (H.toNat : Int) / 2 ^ m % 2 = ha at *
          clear hb hKb hx hz eV eM bV bM eL eH hk1 heq d2 XM
          go_wp2_with fail
          go_round
          case rel => exact ⟨m, (m : Int) - 1 + 1 - 1, false, by omega, by omega, (decide_eq_false h2).symm, rfl, by congr 1; omega, by rw [EV.out, EM.out]; exact XV⟩
          case measure => first | (simp [intOf]; done) | (simp [intOf]; omega)
    · have hj0 : j = 0 := by omega
      subst hj0
      have hk0 : k = -1 := by omega
      subst hk0
      obtain ⟨r0, r1⟩ := X.out.2.2.1.cells
      obtain ⟨g0, g1⟩ := X.out.2.2.1.free
      have e0 : (V >>> 0, M >>> 0) = (V, M) := by simp
      rw [e0] at X
      have t0' : wr.cell? ⟨w.heap.size + 1 + 1, 0, none⟩ = some (uV V) := X.out.2.2.2.cells.1
      have t1' : wr.cell? ⟨w.heap.size + 1 + 1, 1, none⟩ = some (uV M) := X.out.2.2.2.cells.2
      have X2 := Lib.hid ((X.out.1.setCell (p := ⟨w.heap.size + 1, 0, none⟩) (by simp) (uV V)).setCell (p := ⟨w.heap.size + 1, 1, none⟩) (by simp) (uV M))
      clear t0 t1 hb hKb hx hz
      go_wp2_with fail
      exact bodyPost_ret (v := tV (V, M)) (by simp [results, Try.results82, go_sem, r0, r1]) rfl ⟨rfl, X2.out⟩

theorem rf_ranged (s : Sp) (w : World) (hs : sIn s) : Calls Try.prog 82 #[sV s] w (Gives (tV (rS s)) w) := by
  have e1 := ofInt_nat hs.1
  have e2 := ofInt_nat hs.2
  have h := rf_ranged_bv (BitVec.ofInt 64 s.1) (BitVec.ofInt 64 s.2) w
  have e3 : (.agg #[uV (BitVec.ofInt 64 s.1), uV (BitVec.ofInt 64 s.2)] : Value) = sV s := by
    show (.agg #[.int .u64 ((BitVec.ofInt 64 s.1).toNat : Int), .int .u64 ((BitVec.ofInt 64 s.2).toNat : Int)] : Value) = _
    rw [e1, e2]
  rw [e3] at h
  exact h

end Go.Proofs.Ytfepokiibdkoeaa


/-
  The document's own answers of layer 4: bits, right, made.
  Conditions: none.
-/
namespace Go.Proofs.Ytfepokiibdkoeaa
open Go.RowKit
set_option linter.unusedVariables false

theorem bit_int (n : BitVec 64) (i : Nat) : ((n.toNat : Int) / 2 ^ i % 2 == 1) = n.getLsbD i := by
  have e : (n.toNat : Int) / 2 ^ i % 2 = ((n.toNat / 2 ^ i % 2 : Nat) : Int) := by simp
  rw [e]
  show _ = n.toNat.testBit i
  rw [Nat.testBit_eq_decide_div_mod_eq]
  have h := Nat.mod_two_eq_zero_or_one (n.toNat / 2 ^ i)
  rcases h with h | h <;> simp [h]
set_option maxRecDepth 100000 in
theorem bit_says (n : BitVec 64) (i : Nat) (hi : i < 64) (w : World) : Calls Try.prog 80 #[uV n, .int .i64 i] w fun e w' => e = .returned (.bool (n.getLsbD i)) ∧ w = w' := by
  have e := bit_int n i
  have e1 : ((n.toNat : Int) / 2 ^ i).tmod 2 = (n.toNat : Int) / 2 ^ i % 2 := Int.tmod_eq_emod_of_nonneg (Int.ediv_nonneg (by omega) (by have := two_pow_pos i; omega))
  generalize n.getLsbD i = b at *
  go_enter Try.func80, Try.ntmps80
  go_wp2_with fail
  go_ret
  exact ⟨rfl, rfl⟩
theorem right_fail {t : Tn} {j : Nat} (hj : j < 64) (h1 : t.1.getLsbD j = true) (h2 : t.2.getLsbD j = true) : tR t = false := by
  rw [← Bool.not_eq_true, tR_iff]
  intro h
  have e := h j hj
  rw [h1, h2] at e
  cases e
theorem has_end {t : Tn} {n : BitVec 64} (h : ∀ k, k < 64 → t.2.getLsbD k = true ∨ t.1.getLsbD k = n.getLsbD k) : tH t n = tR t := by
  rw [Bool.eq_iff_iff, tH_iff, tR_iff]
  constructor
  · intro e i hi
    have e1 := e i hi
    have h1 := h i hi
    revert e1 h1
    generalize t.1.getLsbD i = u1
    generalize t.2.getLsbD i = u2
    generalize n.getLsbD i = u3
    cases u1 <;> cases u2 <;> cases u3 <;> simp
  · intro e i hi
    have e1 := e i hi
    have h1 := h i hi
    revert e1 h1
    generalize t.1.getLsbD i = u1
    generalize t.2.getLsbD i = u2
    generalize n.getLsbD i = u3
    cases u1 <;> cases u2 <;> cases u3 <;> simp
theorem has_fail {t : Tn} {n : BitVec 64} {j : Nat} (hj : j < 64) (h1 : t.2.getLsbD j = false) (h2 : t.1.getLsbD j = !n.getLsbD j) : tH t n = false := by
  rw [← Bool.not_eq_true, tH_iff]
  intro h
  have e := h j hj
  rw [h1, h2] at e
  revert e
  cases n.getLsbD j <;> simp
theorem within_end {a b : Tn} (h : ∀ k, k < 64 → b.2.getLsbD k = true ∨ (a.2.getLsbD k = false ∧ a.1.getLsbD k = b.1.getLsbD k)) : tW a b = tRR a b := by
  rw [Bool.eq_iff_iff, tW_iff, tRR_iff, tR_iff b]
  constructor
  · rintro ⟨ra, e⟩
    refine ⟨ra, fun i hi => ?_⟩
    obtain ⟨e1, e2⟩ := e i hi
    have h1 := h i hi
    revert e1 e2 h1
    generalize a.1.getLsbD i = u1
    generalize a.2.getLsbD i = u2
    generalize b.1.getLsbD i = u3
    generalize b.2.getLsbD i = u4
    cases u1 <;> cases u2 <;> cases u3 <;> cases u4 <;> simp
  · rintro ⟨ra, e⟩
    refine ⟨ra, fun i hi => ?_⟩
    have e0 := (tR_iff a).mp ra i hi
    have e1 := e i hi
    have h1 := h i hi
    revert e0 e1 h1
    generalize a.1.getLsbD i = u1
    generalize a.2.getLsbD i = u2
    generalize b.1.getLsbD i = u3
    generalize b.2.getLsbD i = u4
    cases u1 <;> cases u2 <;> cases u3 <;> cases u4 <;> simp
theorem within_fail {a b : Tn} {j : Nat} (hj : j < 64) (h1 : b.2.getLsbD j = false) (h2 : a.2.getLsbD j = true ∨ a.1.getLsbD j = !b.1.getLsbD j) : tW a b = false := by
  rw [← Bool.not_eq_true, tW_iff]
  rintro ⟨_, h⟩
  obtain ⟨e1, e2⟩ := h j hj
  rw [h1] at e1 e2
  revert e1 e2 h2
  generalize a.1.getLsbD j = u1
  generalize a.2.getLsbD j = u2
  generalize b.1.getLsbD j = u3
  cases u1 <;> cases u2 <;> cases u3 <;> simp

set_option maxRecDepth 100000 in
set_option maxHeartbeats 1000000 in
theorem rright_says (t : Tn) (w : World) : Calls Try.prog 39 #[tV t] w (Gives (.bool (tR t)) w) := by
  go_enter Try.func39, Try.ntmps39
  go_wp2_with fail
  go_loopw [3] (fun i wr => ∃ j : Nat, j ≤ 64 ∧ i = .int .i64 j ∧ Hid (∀ k, k < j → (t.1.getLsbD k && t.2.getLsbD k) = false) ∧ wr = w.alloc (.cells #[uV t.1, uV t.2] 24)) (fun i _ => 64 - (intOf i).toNat)
  case atStart => exact ⟨0, by omega, rfl, fun k hk => by omega, rfl⟩
  case round =>
    obtain ⟨j, hj, rfl, hk, rfl⟩ := hrel
    by_cases hlt : (j : Int) < 64
    · have hb : (t.1.getLsbD j = false) ∨ (t.1.getLsbD j = true ∧ t.2.getLsbD j = false) ∨ (t.1.getLsbD j = true ∧ t.2.getLsbD j = true) := by
        cases t.1.getLsbD j <;> cases t.2.getLsbD j <;> simp
      rcases hb with h1 | ⟨h1, h2⟩ | ⟨h1, h2⟩
      · have HN : Hid (∀ k, k < j + 1 → (t.1.getLsbD k && t.2.getLsbD k) = false) := fun k hk2 => by
          rcases Nat.lt_or_ge k j with h | h
          · exact hk.out k h
          · rw [show k = j by omega, h1]; rfl
        have C1 := Lib.hid h1
        clear h1 hk
        go_wp2_with (go_at_call 80; refine (bit_says _ j (by omega) _).mono ?_; rintro e w' ⟨rfl, rfl⟩; rw [C1.out])
        go_round
        case rel => exact ⟨j + 1, by omega, by go_num, HN, trivial⟩
        case measure => simp [intOf]; omega
      · have HN : Hid (∀ k, k < j + 1 → (t.1.getLsbD k && t.2.getLsbD k) = false) := fun k hk2 => by
          rcases Nat.lt_or_ge k j with h | h
          · exact hk.out k h
          · rw [show k = j by omega, h1, h2]; rfl
        have C1 := Lib.hid h1
        have C2 := Lib.hid h2
        clear h1 h2 hk
        go_wp2_with (go_at_call 80; refine (bit_says _ j (by omega) _).mono ?_; rintro e w' ⟨rfl, rfl⟩; (first | rw [C1.out] | rw [C2.out]))
        go_round
        case rel => exact ⟨j + 1, by omega, by go_num, HN, trivial⟩
        case measure => simp [intOf]; omega
      · have HF := Lib.hid (right_fail (by omega) h1 h2)
        have C1 := Lib.hid h1
        have C2 := Lib.hid h2
        clear h1 h2 hk
        go_wp2_with (go_at_call 80; refine (bit_says _ j (by omega) _).mono ?_; rintro e w' ⟨rfl, rfl⟩; (first | rw [C1.out] | rw [C2.out]))
        go_ret
        exact ⟨end_bool HF.out.symm, below_alloc (Below.refl _ _) _⟩
    · have HT : Hid (tR t = true) := Lib.hid ((tR_iff t).mpr fun i hi => hk.out i (by omega))
      clear hk
      go_wp2_with fail
      go_ret
      exact ⟨end_bool HT.out.symm, below_alloc (Below.refl _ _) _⟩

set_option maxRecDepth 100000 in
set_option maxHeartbeats 2000000 in
theorem rhas_says (t : Tn) (n : BitVec 64) (w : World) : Calls Try.prog 48 #[tV t, uV n] w (Gives (.bool (tH t n)) w) := by
  go_enter Try.func48, Try.ntmps48
  go_wp2_with fail
  go_loopw [5] (fun i wr => ∃ j : Nat, j ≤ 64 ∧ i = .int .i64 j ∧ Hid (∀ k, k < j → t.2.getLsbD k = true ∨ t.1.getLsbD k = n.getLsbD k) ∧ wr = w.alloc (.cells #[uV t.1, uV t.2] 24)) (fun i _ => 64 - (intOf i).toNat)
  case atStart => exact ⟨0, by omega, rfl, fun k hk => by omega, rfl⟩
  case round =>
    obtain ⟨j, hj, rfl, hk, rfl⟩ := hrel
    by_cases hlt : (j : Int) < 64
    · have hb : (t.2.getLsbD j = true) ∨ (t.2.getLsbD j = false ∧ t.1.getLsbD j = n.getLsbD j) ∨ (t.2.getLsbD j = false ∧ t.1.getLsbD j = !n.getLsbD j) := by
        cases t.1.getLsbD j <;> cases t.2.getLsbD j <;> cases n.getLsbD j <;> simp
      rcases hb with h1 | ⟨h1, h2⟩ | ⟨h1, h2⟩
      · have HN : Hid (∀ k, k < j + 1 → t.2.getLsbD k = true ∨ t.1.getLsbD k = n.getLsbD k) := fun k hk2 => by
          rcases Nat.lt_or_ge k j with h | h
          · exact hk.out k h
          · rw [show k = j by omega]; exact .inl h1
        have C1 := Lib.hid h1
        clear h1 hk
        go_wp2_with (go_at_call 80; refine (bit_says _ j (by omega) _).mono ?_; rintro e w' ⟨rfl, rfl⟩; rw [C1.out])
        go_round
        case rel => exact ⟨j + 1, by omega, by go_num, HN, trivial⟩
        case measure => simp [intOf]; omega
      · have HN : Hid (∀ k, k < j + 1 → t.2.getLsbD k = true ∨ t.1.getLsbD k = n.getLsbD k) := fun k hk2 => by
          rcases Nat.lt_or_ge k j with h | h
          · exact hk.out k h
          · rw [show k = j by omega]; exact .inr h2
        have C1 := Lib.hid h1
        cases hn : n.getLsbD j
        all_goals
          rw [hn] at h2
          have C2 := Lib.hid h2
          have C3 := Lib.hid hn
          clear h1 h2 hk hn
          go_wp2_with (go_at_call 80; refine (bit_says _ j (by omega) _).mono ?_; rintro e w' ⟨rfl, rfl⟩; (first | rw [C1.out] | rw [C2.out] | rw [C3.out]))
          go_round
          case rel => exact ⟨j + 1, by omega, by go_num, HN, trivial⟩
          case measure => simp [intOf]; omega
      · have HF := Lib.hid (has_fail (by omega) h1 h2)
        have C1 := Lib.hid h1
        cases hn : n.getLsbD j
        all_goals
          rw [hn] at h2
          have C2 : Hid (t.1.getLsbD j = _) := Lib.hid h2
          have C3 := Lib.hid hn
          clear h1 h2 hk hn
          go_wp2_with (go_at_call 80; refine (bit_says _ j (by omega) _).mono ?_; rintro e w' ⟨rfl, rfl⟩; (first | rw [C1.out] | rw [C2.out] | rw [C3.out]))
          go_ret
          exact ⟨end_bool HF.out.symm, below_alloc (Below.refl _ _) _⟩
    · have HT : Hid (tH t n = tR t) := Lib.hid (has_end fun i hi => hk.out i (by omega))
      have HR := Lib.hid (rright_says t)
      clear hk
      go_wp2_with fail
      refine (HR.out _).mono ?_; rintro e w2 ⟨rfl, b2⟩
      go_wp2_with fail
      go_ret
      exact ⟨end_bool HT.out.symm, below_next' (below_alloc (Below.refl _ _) _) b2⟩

end Go.Proofs.Ytfepokiibdkoeaa


/-
  The document's own answers of layer 4: both, Within, made.
  Conditions: none.
-/
namespace Go.Proofs.Ytfepokiibdkoeaa
open Go.RowKit
set_option linter.unusedVariables false

set_option maxRecDepth 100000 in
/-- A bit that is known, asked for behind draws. -/
theorem bit_to {n : BitVec 64} {i : Nat} {b : Bool} (h : n.getLsbD i = b) (hi : i < 64) (w : World) : Calls Try.prog 80 #[uV n, .int .i64 i] w fun e w' => e = .returned (.bool b) ∧ w' = w :=
  (bit_says n i hi w).mono fun e w' ⟨h1, h2⟩ => ⟨by rw [← h]; exact h1, h2.symm⟩
set_option maxRecDepth 100000 in
theorem below_draws {w u : World} (h : Below w.heap.size w u) (n : Nat) : Below w.heap.size w (u.drewN n) := below_drewN h n

set_option maxRecDepth 100000 in
theorem rboth_says (a b : Tn) (w : World) : Calls Try.prog 83 #[tV a, tV b] w (Gives (.bool (tRR a b)) w) := by
  have h1 := Lib.hid (rright_says a)
  have h2 := Lib.hid (rright_says b)
  have hx := Lib.hid (Pair.new a b w)
  unfold tRR
  cases ha : tR a
  · rw [ha] at h1
    clear ha
    generalize tR b = y at *
    go_enter Try.func83, Try.ntmps83
    go_wp2_with fail
    refine (h1.out _).mono ?_; rintro e w1 ⟨rfl, b1⟩
    go_wp2_with fail
    go_ret
    exact ⟨rfl, (hx.out.after b1).1⟩
  · rw [ha] at h1
    clear ha
    generalize tR b = y at *
    go_enter Try.func83, Try.ntmps83
    go_wp2_with fail
    refine (h1.out _).mono ?_; rintro e w1 ⟨rfl, b1⟩
    have x1 := hx.out.after b1
    obtain ⟨p0, p1, p2, p3⟩ := x1.cells
    have X1 := Lib.hid x1.1
    clear x1
    go_wp2_with fail
    refine (h2.out _).mono ?_; rintro e w2 ⟨rfl, b2⟩
    go_wp2_with fail
    go_ret
    exact ⟨rfl, below_next' X1.out b2⟩

set_option maxRecDepth 100000 in
set_option maxHeartbeats 2000000 in
theorem rwithin_says (a b : Tn) (w : World) : Calls Try.prog 56 #[tV a, tV b] w (Gives (.bool (tW a b)) w) := by
  have hx := Lib.hid (Pair.new a b w)
  go_enter Try.func56, Try.ntmps56
  go_wp2_with fail
  go_loopw [5] (fun i wr => ∃ j : Nat, j ≤ 64 ∧ i = .int .i64 j ∧ Hid (∀ k, k < j → b.2.getLsbD k = true ∨ (a.2.getLsbD k = false ∧ a.1.getLsbD k = b.1.getLsbD k)) ∧ Hid (Pair a b w wr)) (fun i _ => 64 - (intOf i).toNat)
  case atStart => exact ⟨0, by omega, rfl, fun k hk => by omega, hx⟩
  case round =>
    obtain ⟨j, hj, rfl, hk, X⟩ := hrel
    obtain ⟨p0, p1, p2, p3⟩ := X.out.cells
    by_cases hlt : (j : Int) < 64
    · have hb : (b.2.getLsbD j = true) ∨ (b.2.getLsbD j = false ∧ a.2.getLsbD j = true) ∨ (b.2.getLsbD j = false ∧ a.2.getLsbD j = false ∧ a.1.getLsbD j = b.1.getLsbD j) ∨ (b.2.getLsbD j = false ∧ a.2.getLsbD j = false ∧ a.1.getLsbD j = !b.1.getLsbD j) := by
        cases a.1.getLsbD j <;> cases b.2.getLsbD j <;> cases a.2.getLsbD j <;> cases b.1.getLsbD j <;> simp
      rcases hb with h1 | ⟨h1, h2⟩ | ⟨h1, h2, h3⟩ | ⟨h1, h2, h3⟩
      · have HN : Hid (∀ k, k < j + 1 → b.2.getLsbD k = true ∨ (a.2.getLsbD k = false ∧ a.1.getLsbD k = b.1.getLsbD k)) := fun k hk2 => by
          rcases Nat.lt_or_ge k j with h | h
          · exact hk.out k h
          · rw [show k = j by omega]; exact .inl h1
        have C1 := Lib.hid h1
        clear h1 hk
        go_wp2_with fail
        go_quiet ((go_at_call 80; exact Calls.quiet_of_same (bit_to (by first | exact C1.out) (by omega) _)))
        go_wp2_with fail
        go_round
        case rel => exact ⟨j + 1, by omega, by go_num, HN, X.out.after (below_drewN (Below.refl _ _) nq)⟩
        case measure => simp [intOf]; omega
      · have HF := Lib.hid (within_fail (a := a) (by omega) h1 (.inl h2))
        have C1 := Lib.hid h1
        have C2 := Lib.hid h2
        clear h1 h2 hk
        go_wp2_with fail
        go_quiet ((go_at_call 80; exact Calls.quiet_of_same (bit_to (by first | exact C1.out | exact C2.out) (by omega) _)))
        go_wp2_with fail
        go_ret
        exact ⟨end_bool HF.out.symm, below_draws X.out.1 _⟩
      · have HN : Hid (∀ k, k < j + 1 → b.2.getLsbD k = true ∨ (a.2.getLsbD k = false ∧ a.1.getLsbD k = b.1.getLsbD k)) := fun k hk2 => by
          rcases Nat.lt_or_ge k j with h | h
          · exact hk.out k h
          · rw [show k = j by omega]; exact .inr ⟨h2, h3⟩
        have C1 := Lib.hid h1
        have C2 := Lib.hid h2
        cases hn : b.1.getLsbD j
        all_goals
          rw [hn] at h3
          have C3 := Lib.hid h3
          have C4 := Lib.hid hn
          clear h1 h2 h3 hk hn
          go_wp2_with fail
          go_quiet ((go_at_call 80; exact Calls.quiet_of_same (bit_to (by first | exact C1.out | exact C2.out | exact C3.out | exact C4.out) (by omega) _)))
          go_wp2_with fail
          go_round
          case rel => exact ⟨j + 1, by omega, by go_num, HN, X.out.after (below_drewN (Below.refl _ _) nq)⟩
          case measure => simp [intOf]; omega
      · have HF := Lib.hid (within_fail (a := a) (by omega) h1 (.inr h3))
        have C1 := Lib.hid h1
        have C2 := Lib.hid h2
        cases hn : b.1.getLsbD j
        all_goals
          rw [hn] at h3
          have C3 : Hid (a.1.getLsbD j = _) := Lib.hid h3
          have C4 := Lib.hid hn
          clear h1 h2 h3 hk hn
          go_wp2_with fail
          go_quiet ((go_at_call 80; exact Calls.quiet_of_same (bit_to (by first | exact C1.out | exact C2.out | exact C3.out | exact C4.out) (by omega) _)))
          go_wp2_with fail
          go_ret
          exact ⟨end_bool HF.out.symm, below_draws X.out.1 _⟩
    · have HT : Hid (tW a b = tRR a b) := Lib.hid (within_end fun i hi => hk.out i (by omega))
      have HR := Lib.hid (rboth_says a b)
      clear hk
      go_wp2_with fail
      refine (HR.out _).mono ?_; rintro e w2 ⟨rfl, b2⟩
      go_wp2_with fail
      go_ret
      exact ⟨end_bool HT.out.symm, below_next' X.out.1 b2⟩

/-- A bit more. -/
theorem low_add (y : BitVec 64) (j : Nat) (h : y.getLsbD j = true) : IntKind.u64.wrap (((low y j).toNat : Int) + IntKind.u64.wrap (2 ^ j)) = ((low y (j + 1)).toNat : Int) := by
  have e1 : IntKind.u64.wrap (2 ^ j) = ((BitVec.twoPow 64 j).toNat : Int) := by
    rw [IntKind.wrap_u64, BitVec.toNat_twoPow]; simp
  rw [e1, low_succ, if_pos h, bv_add']
theorem low_same (y : BitVec 64) (j : Nat) (h : y.getLsbD j = false) : low y (j + 1) = low y j := by
  rw [low_succ, if_neg (by rw [h]; decide), BitVec.add_zero]

set_option maxRecDepth 100000 in
set_option maxHeartbeats 2000000 in
theorem rmade_says (v m : BitVec 64) (w : World) : Calls Try.prog 84 #[uV v, uV m] w (Gives (tV (tMade v m)) w) := by
  have hx := Lib.hid (show Pair (0#64, 0#64) (low (v &&& ~~~m) 0, m) w ((w.alloc (.cells #[.int .u64 0, .int .u64 0] 24)).alloc (.cells #[.int .u64 0, .int .u64 (m.toNat : Int)] 24)) by
    rw [low_none]; exact Pair.new (0#64, 0#64) (0#64, m) w)
  have hy : Hid (∀ j, j < 64 → (v &&& ~~~m).getLsbD j = (v.getLsbD j && !m.getLsbD j)) := Lib.hid fun j hj => andn_bit v m hj
  have hz : tMade v m = (low (v &&& ~~~m) 64, m) := by rw [low_all]; rfl
  rw [hz]
  clear hz
  generalize v &&& ~~~m = y at *
  go_enter Try.func84, Try.ntmps84
  go_wp2_with fail
  go_loopw [6] (fun i wr => ∃ j : Nat, j ≤ 64 ∧ i = .int .i64 j ∧ Hid (Pair (0#64, 0#64) (low y j, m) w wr)) (fun i _ => 64 - (intOf i).toNat)
  case atStart => exact ⟨0, by omega, rfl, hx⟩
  case round =>
    obtain ⟨j, hj, rfl, X⟩ := hrel
    obtain ⟨p0, p1, p2, p3⟩ := X.out.cells
    obtain ⟨f2, f3⟩ := X.out.2.2.free
    by_cases hlt : (j : Int) < 64
    · have e := hy.out j (by omega)
      have hb : (v.getLsbD j = false) ∨ (v.getLsbD j = true ∧ m.getLsbD j = true) ∨ (v.getLsbD j = true ∧ m.getLsbD j = false) := by
        cases v.getLsbD j <;> cases m.getLsbD j <;> simp
      rcases hb with h1 | ⟨h1, h2⟩ | ⟨h1, h2⟩
      · have HN := Lib.hid (low_same y j (by rw [e, h1]; rfl))
        have C1 := Lib.hid h1
        have XN : Hid (Pair (0#64, 0#64) (low y (j + 1), m) w wr) := by rw [HN.out]; exact X
        clear h1 e hy hx
        generalize low y j = l0 at *
        go_wp2_with (go_at_call 80; refine (bit_says _ j (by omega) _).mono ?_; rintro e w' ⟨rfl, rfl⟩; rw [C1.out])
        go_round
        case rel => exact ⟨j + 1, by omega, by go_num, XN⟩
        case measure => simp [intOf]; omega
      · have HN := Lib.hid (low_same y j (by rw [e, h1, h2]; rfl))
        have C1 := Lib.hid h1
        have C2 := Lib.hid h2
        have XN : Hid (Pair (0#64, 0#64) (low y (j + 1), m) w wr) := by rw [HN.out]; exact X
        clear h1 h2 e hy hx
        generalize low y j = l0 at *
        go_wp2_with (go_at_call 80; refine (bit_says _ j (by omega) _).mono ?_; rintro e w' ⟨rfl, rfl⟩; (first | rw [C1.out] | rw [C2.out]))
        go_round
        case rel => exact ⟨j + 1, by omega, by go_num, XN⟩
        case measure => simp [intOf]; omega
      · have hn := low_add y j (by rw [e, h1, h2]; rfl)
        have C1 := Lib.hid h1
        have C2 := Lib.hid h2
        clear h1 h2 e hy hx
        generalize hl1 : low y (j + 1) = l1 at *
        generalize hl0 : low y j = l0 at *
        clear hl0
        have HL := Lib.hid hl1
        clear hl1
        go_wp2_with (go_at_call 80; refine (bit_says _ j (by omega) _).mono ?_; rintro e w' ⟨rfl, rfl⟩; (first | rw [C1.out] | rw [C2.out]))
        go_still_tail 6, (by kernel_rfl)
        change wpList _ _ _ _ _ wr.drew
        have X2 := Lib.hid (X.out.after (Below.drew (Below.refl _ _)))
        clear X p0 p1 p2 p3 f2 f3
        generalize wr.drew = w2 at *
        obtain ⟨p0, p1, p2, p3⟩ := X2.out.cells
        obtain ⟨f2, f3⟩ := X2.out.2.2.free
        have X3 : Hid (Pair (0#64, 0#64) (l1, m) w (w2.setCell ⟨w.heap.size + 1, 0, none⟩ (uV l1))) := Lib.hid ⟨X2.out.1.setCell (by simp) _, X2.out.2.1.other _ (by omega), X2.out.2.2.set0 l1⟩
        go_wp2_with fail
        go_round
        case rel => exact ⟨j + 1, by omega, by go_num, by rw [HL.out]; exact X3⟩
        case measure => simp [intOf]; omega
    · have hj2 : j = 64 := by omega
      subst hj2
      obtain ⟨q0, q1⟩ := X.out.2.1.free
      clear hx hy
      generalize low y 64 = l at *
      have X2 : Hid (Below w.heap.size w ((wr.setCell ⟨w.heap.size, 0, none⟩ (uV l)).setCell ⟨w.heap.size, 1, none⟩ (uV m))) := Lib.hid ((X.out.1.setCell (Nat.le_refl _) _).setCell (Nat.le_refl _) _)
      go_wp2_with fail
      exact bodyPost_ret (v := tV (l, m)) (by simp [results, Try.results84, go_sem, p0, p1]) rfl ⟨rfl, X2.out⟩

end Go.Proofs.Ytfepokiibdkoeaa


/-
  The document's own Meet of layer 4.
  Conditions: none.
-/
namespace Go.Proofs.Ytfepokiibdkoeaa
open Go.RowKit
set_option linter.unusedVariables false

theorem mok_fail {a b : Tn} {j : Nat} (hj : j < 64) (h1 : a.2.getLsbD j = false) (h2 : b.2.getLsbD j = false) (h3 : a.1.getLsbD j = !b.1.getLsbD j) : tMok a b = false := by
  cases hr : tRR a b
  · unfold tMok; rw [hr]; rfl
  · obtain ⟨ra, rb⟩ := (tRR_iff a b).mp hr
    rw [← Bool.not_eq_true, mok_iff ra rb]
    intro h
    have e := h j hj
    rw [h1, h2, h3] at e
    revert e
    cases b.1.getLsbD j <;> simp
theorem mok_end {a b : Tn} (hr : tRR a b = true) (h : ∀ k, k < 64 → a.2.getLsbD k = true ∨ b.2.getLsbD k = true ∨ a.1.getLsbD k = b.1.getLsbD k) : tMok a b = true := by
  obtain ⟨ra, rb⟩ := (tRR_iff a b).mp hr
  rw [mok_iff ra rb]
  intro i hi
  have h1 := h i hi
  revert h1
  generalize a.1.getLsbD i = u1
  generalize a.2.getLsbD i = u2
  generalize b.1.getLsbD i = u3
  generalize b.2.getLsbD i = u4
  cases u1 <;> cases u2 <;> cases u3 <;> cases u4 <;> simp

set_option maxRecDepth 100000 in
set_option maxHeartbeats 1000000 in
theorem rmeet_no (a b : Tn) (w : World) (hr : tRR a b = false) : Calls Try.prog 69 #[tV a, tV b] w (Gives (tBV (0#64, 0#64) false) w) := by
  have hx := Lib.hid (Trio.new a b w)
  have h1 := Lib.hid (rboth_says a b)
  rw [hr] at h1
  clear hr
  go_enter Try.func69, Try.ntmps69
  go_wp2_with fail
  refine (h1.out _).mono ?_; rintro e w1 ⟨rfl, b1⟩
  have x1 := hx.out.after b1
  obtain ⟨c0, c1⟩ := x1.2.cells
  obtain ⟨f0, f1⟩ := x1.2.free
  have X1 := Lib.hid (x1.set (0#64, 0#64))
  clear x1 hx b1
  go_wp2_with fail
  exact bodyPost_ret (v := tBV (0#64, 0#64) false) (by simp [results, Try.results69, go_sem, c0, c1]) rfl ⟨rfl, X1.out.1.1⟩

set_option maxRecDepth 100000 in
set_option maxHeartbeats 2000000 in
theorem rmeet_yes (a b : Tn) (w : World) (hr : tRR a b = true) : Calls Try.prog 69 #[tV a, tV b] w (Gives (tBV (tM a b) (tMok a b)) w) := by
  have hx := Lib.hid (Trio.new a b w)
  have h1 := Lib.hid (rboth_says a b)
  have HR := Lib.hid hr
  rw [hr] at h1
  clear hr
  go_enter Try.func69, Try.ntmps69
  go_wp2_with fail
  refine (h1.out _).mono ?_; rintro e w1 ⟨rfl, b1⟩
  have X1 := Lib.hid (hx.out.after b1)
  clear hx b1 h1
  go_wp2_with fail
  go_loopw [6] (fun i wr => ∃ j : Nat, j ≤ 64 ∧ i = .int .i64 j ∧ Hid (∀ k, k < j → a.2.getLsbD k = true ∨ b.2.getLsbD k = true ∨ a.1.getLsbD k = b.1.getLsbD k) ∧ Hid (Trio a b (0#64, 0#64) w wr)) (fun i _ => 64 - (intOf i).toNat)
  case atStart => exact ⟨0, by omega, rfl, fun k hk => by omega, X1⟩
  case round =>
    obtain ⟨j, hj, rfl, hk, X⟩ := hrel
    obtain ⟨p0, p1, p2, p3⟩ := X.out.1.cells
    by_cases hlt : (j : Int) < 64
    · have hb : (a.2.getLsbD j = true) ∨ (a.2.getLsbD j = false ∧ b.2.getLsbD j = true) ∨ (a.2.getLsbD j = false ∧ b.2.getLsbD j = false ∧ a.1.getLsbD j = b.1.getLsbD j) ∨ (a.2.getLsbD j = false ∧ b.2.getLsbD j = false ∧ a.1.getLsbD j = !b.1.getLsbD j) := by
        cases a.1.getLsbD j <;> cases b.2.getLsbD j <;> cases a.2.getLsbD j <;> cases b.1.getLsbD j <;> simp
      rcases hb with h1 | ⟨h1, h2⟩ | ⟨h1, h2, h3⟩ | ⟨h1, h2, h3⟩
      · have HN : Hid (∀ k, k < j + 1 → a.2.getLsbD k = true ∨ b.2.getLsbD k = true ∨ a.1.getLsbD k = b.1.getLsbD k) := fun k hk2 => by
          rcases Nat.lt_or_ge k j with h | h
          · exact hk.out k h
          · rw [show k = j by omega]; exact .inl h1
        have C1 := Lib.hid h1
        clear h1 hk
        go_wp2_with fail
        go_quiet ((go_at_call 80; exact Calls.quiet_of_same (bit_to (by first | exact C1.out) (by omega) _)))
        go_wp2_with fail
        go_round
        case rel => exact ⟨j + 1, by omega, by go_num, HN, X.out.after (below_drewN (Below.refl _ _) nq)⟩
        case measure => simp [intOf]; omega
      · have HN : Hid (∀ k, k < j + 1 → a.2.getLsbD k = true ∨ b.2.getLsbD k = true ∨ a.1.getLsbD k = b.1.getLsbD k) := fun k hk2 => by
          rcases Nat.lt_or_ge k j with h | h
          · exact hk.out k h
          · rw [show k = j by omega]; exact .inr (.inl h2)
        have C1 := Lib.hid h1
        have C2 := Lib.hid h2
        clear h1 h2 hk
        go_wp2_with fail
        go_quiet ((go_at_call 80; exact Calls.quiet_of_same (bit_to (by first | exact C1.out | exact C2.out) (by omega) _)))
        go_wp2_with fail
        go_round
        case rel => exact ⟨j + 1, by omega, by go_num, HN, X.out.after (below_drewN (Below.refl _ _) nq)⟩
        case measure => simp [intOf]; omega
      · have HN : Hid (∀ k, k < j + 1 → a.2.getLsbD k = true ∨ b.2.getLsbD k = true ∨ a.1.getLsbD k = b.1.getLsbD k) := fun k hk2 => by
          rcases Nat.lt_or_ge k j with h | h
          · exact hk.out k h
          · rw [show k = j by omega]; exact .inr (.inr h3)
        have C1 := Lib.hid h1
        have C2 := Lib.hid h2
        cases hn : b.1.getLsbD j
        all_goals
          rw [hn] at h3
          have C3 := Lib.hid h3
          have C4 := Lib.hid hn
          clear h1 h2 h3 hk hn
          go_wp2_with fail
          go_quiet ((go_at_call 80; exact Calls.quiet_of_same (bit_to (by first | exact C1.out | exact C2.out | exact C3.out | exact C4.out) (by omega) _)))
          go_wp2_with fail
          go_round
          case rel => exact ⟨j + 1, by omega, by go_num, HN, X.out.after (below_drewN (Below.refl _ _) nq)⟩
          case measure => simp [intOf]; omega
      · have HF := Lib.hid (mok_fail (by omega) h1 h2 h3)
        have HF2 : Hid (tM a b = (0#64, 0#64)) := Lib.hid (by unfold tM; rw [if_neg (by rw [HF.out]; decide)])
        have C1 := Lib.hid h1
        have C2 := Lib.hid h2
        obtain ⟨c0, c1⟩ := X.out.2.cells
        obtain ⟨f0, f1⟩ := X.out.2.free
        cases hn : b.1.getLsbD j
        all_goals
          rw [hn] at h3
          have C3 : Hid (a.1.getLsbD j = _) := Lib.hid h3
          have C4 := Lib.hid hn
          clear h1 h2 h3 hk hn
          go_wp2_with fail
          go_quiet ((go_at_call 80; exact Calls.quiet_of_same (bit_to (by first | exact C1.out | exact C2.out | exact C3.out | exact C4.out) (by omega) _)))
          have X5 := Lib.hid ((X.out.after (below_drewN (Below.refl _ _) nq)).set (0#64, 0#64))
          go_wp2_with fail
          rw [HF.out, HF2.out]
          exact bodyPost_ret (v := tBV (0#64, 0#64) false) (by simp [results, Try.results69, go_sem, c0, c1]) rfl ⟨rfl, X5.out.1.1⟩
    · have HT := Lib.hid (mok_end HR.out fun i hi => hk.out i (by omega))
      have HT2 : Hid (tMade (a.1 ||| b.1) (a.2 &&& b.2) = tM a b) := Lib.hid (by unfold tM; rw [if_pos HT.out])
      have HM := Lib.hid rmade_says
      clear hk
      go_wp2_with fail
      simp only [bv_and, bv_or]
      refine (HM.out _ _ _).mono ?_; rintro e w2 ⟨rfl, b2⟩
      rw [HT2.out]
      have x2 := X.out.after b2
      clear p0 p1 p2 p3 b2 HT2 HM HR X1 X
      generalize tM a b = t at *
      obtain ⟨c0, c1⟩ := x2.2.cells
      obtain ⟨f0, f1⟩ := x2.2.free
      have X2 := Lib.hid (x2.set t)
      clear x2
      go_wp2_with fail
      exact bodyPost_ret (v := tBV t true) (by simp [results, Try.results69, go_sem, c0, c1]) rfl ⟨by rw [HT.out], X2.out.1.1⟩

set_option maxRecDepth 100000 in
theorem rmeet_says (a b : Tn) (w : World) : Calls Try.prog 69 #[tV a, tV b] w (Gives (tBV (tM a b) (tMok a b)) w) := by
  cases hr : tRR a b
  · have e : tMok a b = false := by unfold tMok; rw [hr]; rfl
    have e2 : tM a b = (0#64, 0#64) := by unfold tM; rw [if_neg (by rw [e]; decide)]
    rw [e, e2]
    exact rmeet_no a b w hr
  · exact rmeet_yes a b w hr

end Go.Proofs.Ytfepokiibdkoeaa

