/-
  Plain numbers: what is known of a number's bits, and what arithmetic makes of it. No program is named here.
-/
import Derived.WalkKit
import Derived.Laws.BitsAllLaws
namespace Go.Proofs.Ytkiekbkjhlbnhaa
open Go Go.RowKit
set_option linter.unusedVariables false

/-- A number of 64 bits, as a value. -/
abbrev uV (x : BitVec 64) : Value := .int .u64 (x.toNat : Int)

theorem bv_of {a : Int} (h : 0 ≤ a ∧ a ≤ 18446744073709551615) : ∃ x : BitVec 64, a = (x.toNat : Int) := by
  refine ⟨BitVec.ofInt 64 a, ?_⟩
  rw [BitVec.toNat_ofInt]
  omega
theorem bv_lt (x : BitVec 64) : x.toNat < 18446744073709551616 := x.isLt
theorem bv_rng (x : BitVec 64) : 0 ≤ (x.toNat : Int) ∧ (x.toNat : Int) ≤ 18446744073709551615 := by have := bv_lt x; omega
theorem bv_and (x y : BitVec 64) : bits .and .u64 (x.toNat : Int) (y.toNat : Int) = ((x &&& y).toNat : Int) := by
  rw [u64_and_nat _ _ (bv_lt x) (bv_lt y), BitVec.toNat_and]
theorem bv_or (x y : BitVec 64) : bits .or .u64 (x.toNat : Int) (y.toNat : Int) = ((x ||| y).toNat : Int) := by
  rw [u64_or_nat _ _ (bv_lt x) (bv_lt y), BitVec.toNat_or]
theorem bv_xor (x y : BitVec 64) : bits .xor .u64 (x.toNat : Int) (y.toNat : Int) = ((x ^^^ y).toNat : Int) := by
  rw [u64_xor_nat _ _ (bv_lt x) (bv_lt y), BitVec.toNat_xor]
theorem bv_andNot (x y : BitVec 64) : bits .andNot .u64 (x.toNat : Int) (y.toNat : Int) = ((x &&& ~~~y).toNat : Int) := by
  rw [u64_andNot_nat _ _ (bv_lt x) (bv_lt y), BitVec.toNat_and, BitVec.toNat_not]
theorem bv_add (x y : BitVec 64) : ((x.toNat : Int) + (y.toNat : Int)) % 18446744073709551616 = ((x + y).toNat : Int) := by
  rw [BitVec.toNat_add]; omega
theorem bv_sub (x y : BitVec 64) : ((x.toNat : Int) - (y.toNat : Int)) % 18446744073709551616 = ((x - y).toNat : Int) := by
  rw [BitVec.toNat_sub]; have := bv_lt x; have := bv_lt y; omega
theorem bv_mul (x y : BitVec 64) : ((x.toNat : Int) * (y.toNat : Int)) % 18446744073709551616 = ((x * y).toNat : Int) := by
  rw [BitVec.toNat_mul]; simp
theorem bv_shl (x : BitVec 64) (k : Nat) : ((x.toNat : Int) * 2 ^ k) % 18446744073709551616 = ((x <<< k).toNat : Int) := by
  rw [BitVec.toNat_shiftLeft, Nat.shiftLeft_eq]; simp
theorem bv_shr (x : BitVec 64) (k : Nat) : (x.toNat : Int) / 2 ^ k = ((x >>> k).toNat : Int) := by
  rw [BitVec.toNat_ushiftRight, Nat.shiftRight_eq_div_pow]; simp
theorem bv_beq (x y : BitVec 64) : ((x.toNat : Int) == (y.toNat : Int)) = (x == y) := by
  rw [Bool.eq_iff_iff, beq_iff_eq, beq_iff_eq]
  exact ⟨fun h => BitVec.eq_of_toNat_eq (by omega), fun h => by rw [h]⟩
theorem bv_eq0 (x : BitVec 64) : ((x.toNat : Int) == 0) = (x == 0#64) := bv_beq x 0#64
theorem bv_ne0 (x : BitVec 64) : ((x.toNat : Int) != 0) = !(x == 0#64) := by
  show (!((x.toNat : Int) == 0)) = _
  rw [bv_eq0]

/-! What may be known: a value, and a mask of what is not. -/
abbrev Tn := BitVec 64 × BitVec 64
abbrev tV (t : Tn) : Value := .agg #[uV t.1, uV t.2]
def tR (t : Tn) : Bool := t.1 &&& t.2 == 0#64
def tRR (a b : Tn) : Bool := tR a && tR b
def tH (t : Tn) (n : BitVec 64) : Bool := n &&& ~~~t.2 == t.1
def tW (a b : Tn) : Bool := tR a && (a.2 &&& ~~~b.2 == 0#64) && tH b a.1
def tMade (v m : BitVec 64) : Tn := (v &&& ~~~m, m)
def tJ (a b : Tn) : Tn := if tRR a b then tMade a.1 (a.2 ||| b.2 ||| (a.1 ^^^ b.1)) else (0#64, 0#64)
def tMok (a b : Tn) : Bool := tRR a b && ((a.1 ^^^ b.1) &&& ~~~(a.2 ||| b.2) == 0#64)
def tM (a b : Tn) : Tn := if tMok a b then tMade (a.1 ||| b.1) (a.2 &&& b.2) else (0#64, 0#64)
def tAdd (a b : Tn) : Tn := tMade (a.1 + b.1) (((a.2 + b.2 + (a.1 + b.1)) ^^^ (a.1 + b.1)) ||| a.2 ||| b.2)
def tSub (a b : Tn) : Tn := tMade (a.1 - b.1) (((a.1 - b.1 + a.2) ^^^ (a.1 - b.1 - b.2)) ||| a.2 ||| b.2)
def tStep (a b : Tn) (i : Nat) (t : Tn) : Tn :=
  if b.1.getLsbD i then tAdd t (a.1 <<< i, a.2 <<< i) else if b.2.getLsbD i then tAdd t (0#64, (a.1 ||| a.2) <<< i) else t
def tMulTo (a b : Tn) : Nat → Tn
  | 0 => (0#64, 0#64)
  | i + 1 => tStep a b i (tMulTo a b i)
def tAnd (a b : Tn) : Tn := (a.1 &&& b.1, ((a.1 ||| a.2) &&& (b.1 ||| b.2)) &&& ~~~(a.1 &&& b.1))
def tOr (a b : Tn) : Tn := (a.1 ||| b.1, (a.2 ||| b.2) &&& ~~~(a.1 ||| b.1))
def tXor (a b : Tn) : Tn := tMade (a.1 ^^^ b.1) (a.2 ||| b.2)
def tLsh (a : Tn) (k : Nat) : Tn := (a.1 <<< k, a.2 <<< k)
def tRsh (a : Tn) (k : Nat) : Tn := (a.1 >>> k, a.2 >>> k)
def tKnown (b : Tn) : Bool := b.2 == 0#64 && decide (b.1.toNat < 64)
def tDok (op : Int) (a b : Tn) : Bool :=
  tRR a b && (op == 0 || op == 16 || op == 32 || op == 80 || op == 64 || op == 160 || ((op == 96 || op == 112) && tKnown b))
def tDo' (op : Int) (a b : Tn) : Tn :=
  if op = 0 then tAdd a b else if op = 16 then tSub a b else if op = 32 then tMulTo a b 64 else if op = 80 then tAnd a b else if op = 64 then tOr a b
  else if op = 160 then tXor a b else if op = 96 then tLsh a b.1.toNat else if op = 112 then tRsh a b.1.toNat else (0#64, 0#64)
def tDo (op : Int) (a b : Tn) : Tn := if tDok op a b then tDo' op a b else (0#64, 0#64)
def tLow (x : BitVec 64) (k : Nat) : BitVec 64 := BitVec.ofNat 64 (x.toNat % 2 ^ k)
def tC (t : Tn) (width : Int) : Tn :=
  if tR t then (if width < 1 ∨ 63 < width then t else (tLow t.1 width.toNat, tLow t.2 width.toNat)) else (0#64, 0#64)

end Go.Proofs.Ytkiekbkjhlbnhaa
