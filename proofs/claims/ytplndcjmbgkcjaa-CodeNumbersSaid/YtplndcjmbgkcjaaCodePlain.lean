/-
  Plain instructions: what each does, where the next one begins, where it jumps to, and whether a row of them is a program. No program is named here.
-/
import Derived.WalkKit
namespace Go.Proofs.Ytplndcjmbgkcjaa
open Go Go.RowKit
set_option linter.unusedVariables false

/-- An instruction. -/
structure Ins where
  op : Int
  dst : Int
  src : Int
  off : Int
  imm : Int
/-- Its parts fit their kinds. -/
def Ins.ok (x : Ins) : Prop := (0 ≤ x.op ∧ x.op ≤ 255) ∧ (0 ≤ x.dst ∧ x.dst ≤ 255) ∧ (0 ≤ x.src ∧ x.src ≤ 255) ∧ (-32768 ≤ x.off ∧ x.off ≤ 32767) ∧ (-2147483648 ≤ x.imm ∧ x.imm ≤ 2147483647)
def Ins.zero : Ins := ⟨0, 0, 0, 0, 0⟩
/-- What one does. -/
structure Wh where
  kind : Int
  op : Int
  wide : Bool
  reg : Bool
  signed : Bool
  size : Int
def Wh.zero : Wh := ⟨0, 0, false, false, false, 0⟩
abbrev iV (x : Ins) : Value := .agg #[.int .u8 x.op, .int .u8 x.dst, .int .u8 x.src, .int .i16 x.off, .int .i32 x.imm]
abbrev whV (x : Wh) : Value := .agg #[.int .u8 x.kind, .int .u8 x.op, .bool x.wide, .bool x.reg, .bool x.signed, .int .i64 x.size]

/-- Are Src, Off and Imm 0, but those that may be? -/
def onlyB (x : Ins) (src off imm : Bool) : Bool := (src || x.src == 0) && (off || x.off == 0) && (imm || x.imm == 0)
def inB (l : List Int) (n : Int) : Bool := l.any fun x => x == n
/-- Arithmetic. -/
def arW (x : Ins) : Wh := ⟨1, x.op / 16 * 16, x.op % 8 == 7, x.op / 8 % 2 == 1, false, 0⟩
def arOff (x : Ins) : Bool :=
  if x.op / 16 * 16 == 48 || x.op / 16 * 16 == 144 then x.off == 0 || x.off == 1
  else if x.op / 16 * 16 == 176 then x.off == 0 || (x.op / 8 % 2 == 1 && (x.off == 8 || x.off == 16 || (x.op % 8 == 7 && x.off == 32)))
  else x.off == 0
def ariths : List Int := [0, 16, 32, 64, 80, 160, 96, 112, 192, 48, 144, 176]
def arOk (x : Ins) : Bool :=
  if x.dst == 10 then false
  else if x.op / 16 * 16 == 128 then !(x.op / 8 % 2 == 1) && onlyB x false false false
  else inB ariths (x.op / 16 * 16) && arOff x && onlyB x (x.op / 8 % 2 == 1) true (!(x.op / 8 % 2 == 1))
/-- Of Ops in a row what each has; 0: it is none. -/
def szFrom : List Int → List Int → Int → Int
  | x :: l, n :: ns, op => if x = op then n else szFrom l ns op
  | _, _, _ => 0
theorem szFrom_rng (l : List Int) (op : Int) : 0 ≤ szFrom l [4, 2, 1, 8] op ∧ szFrom l [4, 2, 1, 8] op ≤ 8 := by
  match l with
  | [] => simp [szFrom]
  | [a] => simp only [szFrom]; split <;> omega
  | [a, b] => simp only [szFrom]; repeat (first | split | omega)
  | [a, b, c] => simp only [szFrom]; repeat (first | split | omega)
  | [a, b, c, d] => simp only [szFrom]; repeat (first | split | omega)
  | a :: b :: c :: d :: e :: l => simp only [szFrom]; repeat (first | split | omega)
def szL (op : Int) : Int := szFrom [97, 105, 113, 121] [4, 2, 1, 8] op
def szG (op : Int) : Int := szFrom [129, 137, 145] [4, 2, 1, 8] op
def szS (op : Int) : Int := szFrom [98, 106, 114, 122] [4, 2, 1, 8] op
def szP (op : Int) : Int := szFrom [99, 107, 115, 123] [4, 2, 1, 8] op
/-- Loads and stores. -/
def meW (x : Ins) : Wh :=
  if 0 < szL x.op + szG x.op then ⟨5, 0, false, false, decide (0 < szG x.op), szL x.op + szG x.op⟩
  else if 0 < szS x.op then ⟨6, 0, false, false, false, szS x.op⟩
  else if 0 < szP x.op then ⟨7, 0, false, true, false, szP x.op⟩
  else if x.op == 195 || x.op == 219 then ⟨8, x.imm % 256, false, true, false, if x.op == 219 then 8 else 4⟩
  else Wh.zero
def meOk (x : Ins) : Bool :=
  if 0 < szL x.op + szG x.op then !(x.dst == 10) && onlyB x true true false
  else if 0 < szS x.op then onlyB x false true true
  else if 0 < szP x.op then onlyB x true true false
  else if x.op == 195 || x.op == 219 then x.imm == 0 || x.imm == 64 || x.imm == 80 || x.imm == 160
  else false
/-- What needs no more than its Op. -/
def others : List Int := [212, 220, 215, 24, 5, 6, 133, 149]
def otW (x : Ins) : Wh :=
  if x.op == 212 || x.op == 220 || x.op == 215 then ⟨2, 0, !(x.op == 212), false, false, x.imm.tdiv 8⟩
  else if x.op == 24 then ⟨if x.src == 0 then 3 else 4, 0, true, false, false, 0⟩
  else if x.op == 5 || x.op == 6 then ⟨9, 0, false, false, false, 0⟩
  else if x.op == 133 then ⟨11, 0, false, false, false, 0⟩
  else if x.op == 149 then ⟨12, 0, false, false, false, 0⟩
  else Wh.zero
def otOk (x : Ins) : Bool :=
  if x.op == 212 || x.op == 220 || x.op == 215 then !(x.dst == 10) && onlyB x false false true && (x.imm == 16 || x.imm == 32 || x.imm == 64)
  else if x.op == 24 then (if x.src == 0 then !(x.dst == 10) && x.off == 0 else !(x.dst == 10) && x.off == 0 && x.src == 1 && decide (0 ≤ x.imm))
  else if x.op == 5 then x.dst == 0 && onlyB x false true false
  else if x.op == 6 then x.dst == 0 && onlyB x false false true
  else if x.op == 133 then x.dst == 0 && onlyB x false false true
  else if x.op == 149 then x.dst == 0 && onlyB x false false false
  else false
def jumps : List Int := [16, 32, 48, 64, 80, 96, 112, 160, 176, 192, 208]
def brW (x : Ins) : Wh := ⟨10, x.op / 16 * 16, x.op % 8 == 5, x.op / 8 % 2 == 1, false, 0⟩
def brOk (x : Ins) : Bool := inB jumps (x.op / 16 * 16) && onlyB x (x.op / 8 % 2 == 1) true (!(x.op / 8 % 2 == 1))
def waW (x : Ins) : Wh :=
  if decide (10 < x.dst) || decide (10 < x.src) then Wh.zero
  else if inB others x.op then otW x
  else if x.op % 8 == 4 || x.op % 8 == 7 then arW x
  else if x.op % 8 == 5 || x.op % 8 == 6 then brW x
  else meW x
/-- Is it an instruction? -/
def wOk (x : Ins) : Bool :=
  if decide (10 < x.dst) || decide (10 < x.src) then false
  else if inB others x.op then otOk x
  else if x.op % 8 == 4 || x.op % 8 == 7 then arOk x
  else if x.op % 8 == 5 || x.op % 8 == 6 then brOk x
  else meOk x
/-- What it does; zero, if it is none. -/
def wOf (x : Ins) : Wh := if wOk x then waW x else Wh.zero

/-! Rows of instructions. -/
def iAt (l : List Ins) (k : Nat) : Ins := l.getD k Ins.zero
/-- Where the next one begins. -/
def nxt (l : List Ins) (k : Nat) : Nat := if (iAt l k).op = 24 then k + 2 else k + 1
theorem nxt_lt (l : List Ins) (k : Nat) : k < nxt l k := by unfold nxt; split <;> omega
theorem nxt_le (l : List Ins) (k : Nat) : nxt l k ≤ k + 2 := by unfold nxt; split <;> omega
def nextOf (l : List Ins) (i : Int) : Int := if i < 0 ∨ (l.length : Int) ≤ i then -1 else (nxt l i.toNat : Int)
/-- Where instructions begin; one place is left out behind each that is wide. -/
def sts : Bool → List Ins → List Bool
  | _, [] => []
  | true, _ :: l => false :: sts false l
  | false, x :: l => true :: sts (x.op == 24) l
def stAt (l : List Ins) (k : Nat) : Bool := (sts false l).getD k false
/-- Where a Jump or Branch at a place goes. -/
def jumpy (x : Ins) : Bool := (wOf x).kind == 9 || (wOf x).kind == 10
def farOf (x : Ins) : Int := if x.op == 6 then x.imm else x.off
def toOf (x : Ins) (i : Int) : Int := if jumpy x then i + 1 + farOf x else 0
def inL (l : List Ins) (i : Int) : Bool := decide (0 ≤ i) && decide (i < (l.length : Int))
def tgOk (l : List Ins) (i : Int) : Bool := inL l i && jumpy (iAt l i.toNat) && inL l (toOf (iAt l i.toNat) i)
def tgOf (l : List Ins) (i : Int) : Int := if tgOk l i then toOf (iAt l i.toNat) i else 0
/-- Is what is behind a place the other half of what is there? -/
def halfB (l : List Ins) (k : Nat) : Bool :=
  if (wOf (iAt l k)).kind == 3 || (wOf (iAt l k)).kind == 4 then
    decide (k + 1 < l.length) && ((iAt l (k + 1)).op == 0 && (iAt l (k + 1)).dst == 0 && (iAt l (k + 1)).src == 0 && (iAt l (k + 1)).off == 0 && ((wOf (iAt l k)).kind == 3 || (iAt l (k + 1)).imm == 0))
  else true
/-- The first place, of those where one begins, at which something is wrong. -/
def fb (l : List Ins) (P : Nat → Bool) (k : Nat) : Option Nat :=
  if h : k < l.length then (if P k then some k else fb l P (nxt l k)) else none
  termination_by l.length - k
  decreasing_by have := nxt_lt l k; omega
theorem fb_in {l : List Ins} {P : Nat → Bool} {k : Nat} (h : k < l.length) : fb l P k = if P k then some k else fb l P (nxt l k) := by rw [fb, dif_pos h]
theorem fb_out {l : List Ins} {P : Nat → Bool} {k : Nat} (h : ¬ k < l.length) : fb l P k = none := by rw [fb, dif_neg h]
/-- The last place where one begins. -/
def lst (l : List Ins) (k d : Nat) : Nat :=
  if h : k < l.length then lst l (nxt l k) k else d
  termination_by l.length - k
  decreasing_by have := nxt_lt l k; omega
theorem lst_in {l : List Ins} {k d : Nat} (h : k < l.length) : lst l k d = lst l (nxt l k) k := by rw [lst, dif_pos h]
theorem lst_out {l : List Ins} {k d : Nat} (h : ¬ k < l.length) : lst l k d = d := by rw [lst, dif_neg h]
def bad1 (l : List Ins) (k : Nat) : Bool := !(wOk (iAt l k)) || !(halfB l k)
def bad2 (l : List Ins) (k : Nat) : Bool := jumpy (iAt l k) && !(inL l (toOf (iAt l k) k) && stAt l (toOf (iAt l k) k).toNat)
def ends (x : Ins) : Bool := (wOf x).kind == 12 || (wOf x).kind == 9
/-- Where, and why, a row is no program. -/
def chk (l : List Ins) : Int × Int :=
  if l.length = 0 ∨ 512 < l.length then (0, 70)
  else match fb l (bad1 l) 0 with
  | some k => (k, 71)
  | none => match fb l (bad2 l) 0 with
    | some k => (k, 72)
    | none => if ends (iAt l (lst l 0 0)) then (0, 0) else (lst l 0 0, 73)

end Go.Proofs.Ytplndcjmbgkcjaa
