/-
  Texts, one behind the other: TabPlain, CodePlain, Plain, AluPlain.
  Conditions: those that each theorem states.
-/
import Derived.Laws.BytesArg
import Derived.Lib.Strings
import Derived.Test.YtlbhffdpklbhfaaGreatPz1
import Derived.WalkKit
import Derived.Laws.BitsAllLaws
namespace Go.Proofs.YtlbhffdpklbhfaaGreat
open Go Go.RowKit
set_option maxRecDepth 100000
set_option linter.unusedVariables false
set_option linter.unusedSimpArgs false
structure Df where
  hash : Bool
  key : Int
  val : Int
  max : Int
def Df.zero : Df := ⟨false, 0, 0, 0⟩
def Df.good (d : Df) : Bool := (if d.hash then decide (1 ≤ d.key) && decide (d.key ≤ 16) else d.key == 4) && decide (8 ≤ d.val) && decide (d.val ≤ 64) && (d.val % 8 == 0) && decide (1 ≤ d.max) && decide (d.max ≤ 16)
def tRight (l : List Df) : Bool := l.all Df.good && decide (l.length ≤ 8)
structure TK where
  k : List Int
  s : Nat
def TK.zero : TK := ⟨[], 0⟩
structure TM where
  d : Df
  L : List TK
  made : Nat
def TM.zero : TM := ⟨Df.zero, [], 0⟩
abbrev TT := List TM
def mt (T : TT) (i : Nat) : TM := T.getD i TM.zero
def tArea (i s : Int) : Int := 4096 + 1024 * i + s
def kLt : List Int → List Int → Bool
  | _, [] => false
  | [], _ :: _ => true
  | a :: x, b :: y => decide (a < b) || (a == b && kLt x y)
def tFind (L : List TK) (key : List Int) : Option Nat := (L.find? fun x => x.k == key).map (·.s)
def tMay (T : TT) (i : Int) (key : List Int) : Bool := decide (0 ≤ i) && decide (i < T.length) && ((key.length : Int) == (mt T i.toNat).d.key)
def minusI (n : Int) : Int := 18446744073709551616 - n
def tLook (T : TT) (i : Int) (key : List Int) : Int × Int :=
  if tMay T i key then (match tFind (mt T i.toNat).L key with | none => (0, 0) | some s => (atI (tArea i s) 0, 0)) else (0, 1)
def tFill (M : PM) (i s : Int) (k : Nat) : List Int → PM
  | [] => M
  | x :: l => tFill (pStore M (atI (tArea i s) k) 1 x).1 i s (k + 1) l
def tIns (L : List TK) (x : TK) : List TK := L.takeWhile (fun y => kLt y.k x.k) ++ x :: L.dropWhile (fun y => kLt y.k x.k)
structure TP where
  T : TT
  M : PM
  n : Int
  e : Int
def tPut (T : TT) (M : PM) (i : Int) (key val : List Int) (flags : Int) : TP :=
  if tMay T i key && ((val.length : Int) == (mt T i.toNat).d.val) then
    let m := mt T i.toNat
    if 2 < flags then ⟨T, M, minusI 22, 0⟩
    else match tFind m.L key with
    | some s => if flags = 1 then ⟨T, M, minusI 17, 0⟩ else ⟨T, tFill M i s 0 val, 0, 0⟩
    | none =>
      if m.d.hash = false then ⟨T, M, minusI 7, 0⟩
      else if flags = 2 then ⟨T, M, minusI 2, 0⟩
      else if m.d.max ≤ m.L.length then ⟨T, M, minusI 7, 0⟩
      else if 1024 ≤ m.made then ⟨T, M, minusI 12, 0⟩
      else if (pMake M (tArea i m.made) val false false).2 = 0 then ⟨T.set i.toNat ⟨m.d, tIns m.L ⟨key, m.made⟩, m.made + 1⟩, (pMake M (tArea i m.made) val false false).1, 0, 0⟩
      else ⟨T, M, minusI 12, 0⟩
  else ⟨T, M, 0, 1⟩
def tDrop (T : TT) (i : Int) (key : List Int) : TT × Int × Int :=
  if tMay T i key then
    let m := mt T i.toNat
    if m.d.hash = false then (T, minusI 22, 0)
    else match tFind m.L key with
    | none => (T, minusI 2, 0)
    | some _ => (T.set i.toNat ⟨m.d, m.L.filter (fun x => !(x.k == key)), m.made⟩, 0, 0)
  else (T, 0, 1)
def tItems (T : TT) (M : PM) (i : Int) : List (List Int × List Int) :=
  if 0 ≤ i ∧ i < T.length then (mt T i.toNat).L.map (fun x => (x.k, (pArea M (tArea i x.s)).1)) else []
def tSlots (M : PM) (i v k : Nat) : Nat → PM × Bool
  | 0 => (M, true)
  | n + 1 => if (pMake M (tArea i k) (List.replicate v 0) false false).2 = 0 then tSlots (pMake M (tArea i k) (List.replicate v 0) false false).1 i v (k + 1) n else ((pMake M (tArea i k) (List.replicate v 0) false false).1, false)
def numL (n : Nat) : List TK := (List.range n).map fun (k : Nat) => TK.mk [((k : Nat) : Int), 0, 0, 0] k
def tNewG : Nat → List Df → PM → TT → PM × Option TT
  | _, [], M, T => (M, some T)
  | i, d :: l, M, T =>
    if d.hash then tNewG (i + 1) l M (T ++ [⟨d, [], 0⟩])
    else if (tSlots M i d.val.toNat 0 d.max.toNat).2 then tNewG (i + 1) l (tSlots M i d.val.toNat 0 d.max.toNat).1 (T ++ [⟨d, numL d.max.toNat, d.max.toNat⟩])
    else ((tSlots M i d.val.toNat 0 d.max.toNat).1, none)
def tNew (M : PM) (l : List Df) : PM × Option TT := if tRight l then tNewG 0 l M [] else (M, none)
structure TM.ok (m : TM) : Prop where
  good : m.d.good = true
  keys : ∀ x ∈ m.L, OkB x.k ∧ (x.k.length : Int) = m.d.key ∧ x.s < m.made
  rise : m.L.Pairwise fun x y => kLt x.k y.k = true
  few : (m.L.length : Int) ≤ m.d.max
  made : m.made ≤ 1024
def TOk (T : TT) : Prop := ∀ i, i < T.length → (mt T i).ok
theorem mt_app {T : TT} {m : TM} {k : Nat} : mt (T ++ [m]) k = if k < T.length then mt T k else if k = T.length then m else TM.zero := by
  unfold mt
  rw [List.getD_eq_getElem?_getD, List.getD_eq_getElem?_getD, List.getElem?_append]
  split
  · rfl
  · rename_i h
    by_cases h2 : k = T.length
    · rw [if_pos h2, h2, Nat.sub_self]; rfl
    · rw [if_neg h2, List.getElem?_eq_none (by simp; omega)]; rfl
theorem mt_set {T : TT} {k : Nat} (hk : k < T.length) (m : TM) (j : Nat) : mt (T.set k m) j = if j = k then m else mt T j := by
  unfold mt
  rw [List.getD_eq_getElem?_getD, List.getD_eq_getElem?_getD, List.getElem?_set]
  by_cases h : k = j
  · subst h
    rw [if_pos rfl, if_pos hk, if_pos rfl]
    rfl
  · rw [if_neg h, if_neg (fun e => h e.symm)]
theorem kLt_irrefl (a : List Int) : kLt a a = false := by
  induction a with
  | nil => rfl
  | cons x a ih => simp [kLt, ih]
theorem kLt_trans {a b c : List Int} (h : kLt a b = true) (k : kLt b c = true) : kLt a c = true := by
  induction a generalizing b c with
  | nil =>
    cases c with
    | nil => cases b <;> simp [kLt] at k
    | cons z c => rfl
  | cons x a ih =>
    cases b with
    | nil => simp [kLt] at h
    | cons y b =>
      cases c with
      | nil => simp [kLt] at k
      | cons z c =>
        simp only [kLt, Bool.or_eq_true, decide_eq_true_eq, Bool.and_eq_true, beq_iff_eq] at *
        rcases h with h | ⟨h1, h2⟩
        · rcases k with k | ⟨k1, _⟩
          · exact .inl (by omega)
          · exact .inl (by omega)
        · rcases k with k | ⟨k1, k2⟩
          · exact .inl (by omega)
          · exact .inr ⟨by omega, ih h2 k2⟩
theorem kLt_total {a b : List Int} (h : kLt a b = false) (hne : a ≠ b) : kLt b a = true := by
  induction a generalizing b with
  | nil =>
    cases b with
    | nil => exact absurd rfl hne
    | cons y b => simp [kLt] at h
  | cons x a ih =>
    cases b with
    | nil => rfl
    | cons y b =>
      simp only [kLt, Bool.or_eq_false_iff, decide_eq_false_iff_not, Bool.and_eq_false_iff, Bool.or_eq_true, decide_eq_true_eq, Bool.and_eq_true, beq_iff_eq] at *
      by_cases hxy : x = y
      · subst hxy
        refine .inr ⟨rfl, ih ?_ (fun e => hne (by rw [e]))⟩
        rcases h.2 with c | c
        · simp at c
        · exact c
      · exact .inl (by omega)
theorem kLt_ne {a b : List Int} (h : kLt a b = true) : a ≠ b := fun e => by rw [e, kLt_irrefl] at h; cases h
end Go.Proofs.YtlbhffdpklbhfaaGreat
namespace Go.Proofs.YtlbhffdpklbhfaaGreat
open Go Go.RowKit
set_option linter.unusedVariables false
structure Ins where
  op : Int
  dst : Int
  src : Int
  off : Int
  imm : Int
def Ins.ok (x : Ins) : Prop := (0 ≤ x.op ∧ x.op ≤ 255) ∧ (0 ≤ x.dst ∧ x.dst ≤ 255) ∧ (0 ≤ x.src ∧ x.src ≤ 255) ∧ (-32768 ≤ x.off ∧ x.off ≤ 32767) ∧ (-2147483648 ≤ x.imm ∧ x.imm ≤ 2147483647)
def Ins.zero : Ins := ⟨0, 0, 0, 0, 0⟩
structure Wh where
  kind : Int
  op : Int
  wide : Bool
  reg : Bool
  signed : Bool
  size : Int
def Wh.zero : Wh := ⟨0, 0, false, false, false, 0⟩
abbrev iV (x : Ins) : Value := .agg #[.int .u8 x.op, .int .u8 x.dst, .int .u8 x.src, .int .i16 x.off, .int .i32 x.imm]
abbrev whV (x : Wh) : Value := .agg #[.int .u8 x.kind, .int .u8 x.op, .bool x.wide, .bool x.reg, .bool x.signed, .int .i64 x.size]
def onlyB (x : Ins) (src off imm : Bool) : Bool := (src || x.src == 0) && (off || x.off == 0) && (imm || x.imm == 0)
def inB (l : List Int) (n : Int) : Bool := l.any fun x => x == n
def arW (x : Ins) : Wh := ⟨1, x.op / 16 * 16, x.op % 8 == 7, x.op / 8 % 2 == 1, false, 0⟩
def arOff (x : Ins) : Bool :=
  if x.op / 16 * 16 == 48 || x.op / 16 * 16 == 144 then x.off == 0 || x.off == 1
  else if x.op / 16 * 16 == 176 then x.off == 0 || (x.op / 8 % 2 == 1 && (x.off == 8 || x.off == 16 || (x.op % 8 == 7 && x.off == 32)))
  else x.off == 0
def ariths : List Int := [0, 16, 32, 64, 80, 160, 96, 112, 192, 48, 144, 176]
def arOk (x : Ins) : Bool :=
  if x.dst == 10 then false
  else if x.op / 16 * 16 == 128 then !(x.op / 8 % 2 == 1) && onlyB x false false false
  else inB ariths (x.op / 16 * 16) && arOff x && onlyB x (x.op / 8 % 2 == 1) true (!(x.op / 8 % 2 == 1))
def szFrom : List Int → List Int → Int → Int
  | x :: l, n :: ns, op => if x = op then n else szFrom l ns op
  | _, _, _ => 0
theorem szFrom_rng (l : List Int) (op : Int) : 0 ≤ szFrom l [4, 2, 1, 8] op ∧ szFrom l [4, 2, 1, 8] op ≤ 8 := by
  match l with
  | [] => simp [szFrom]
  | [a] => simp only [szFrom]; split <;> omega
  | [a, b] => simp only [szFrom]; repeat (first | split | omega)
  | [a, b, c] => simp only [szFrom]; repeat (first | split | omega)
  | [a, b, c, d] => simp only [szFrom]; repeat (first | split | omega)
  | a :: b :: c :: d :: e :: l => simp only [szFrom]; repeat (first | split | omega)
def szL (op : Int) : Int := szFrom [97, 105, 113, 121] [4, 2, 1, 8] op
def szG (op : Int) : Int := szFrom [129, 137, 145] [4, 2, 1, 8] op
def szS (op : Int) : Int := szFrom [98, 106, 114, 122] [4, 2, 1, 8] op
def szP (op : Int) : Int := szFrom [99, 107, 115, 123] [4, 2, 1, 8] op
def meW (x : Ins) : Wh :=
  if 0 < szL x.op + szG x.op then ⟨5, 0, false, false, decide (0 < szG x.op), szL x.op + szG x.op⟩
  else if 0 < szS x.op then ⟨6, 0, false, false, false, szS x.op⟩
  else if 0 < szP x.op then ⟨7, 0, false, true, false, szP x.op⟩
  else if x.op == 195 || x.op == 219 then ⟨8, x.imm % 256, false, true, false, if x.op == 219 then 8 else 4⟩
  else Wh.zero
def meOk (x : Ins) : Bool :=
  if 0 < szL x.op + szG x.op then !(x.dst == 10) && onlyB x true true false
  else if 0 < szS x.op then onlyB x false true true
  else if 0 < szP x.op then onlyB x true true false
  else if x.op == 195 || x.op == 219 then x.imm == 0 || x.imm == 64 || x.imm == 80 || x.imm == 160
  else false
def others : List Int := [212, 220, 215, 24, 5, 6, 133, 149]
def otW (x : Ins) : Wh :=
  if x.op == 212 || x.op == 220 || x.op == 215 then ⟨2, 0, !(x.op == 212), false, false, x.imm.tdiv 8⟩
  else if x.op == 24 then ⟨if x.src == 0 then 3 else 4, 0, true, false, false, 0⟩
  else if x.op == 5 || x.op == 6 then ⟨9, 0, false, false, false, 0⟩
  else if x.op == 133 then ⟨11, 0, false, false, false, 0⟩
  else if x.op == 149 then ⟨12, 0, false, false, false, 0⟩
  else Wh.zero
def otOk (x : Ins) : Bool :=
  if x.op == 212 || x.op == 220 || x.op == 215 then !(x.dst == 10) && onlyB x false false true && (x.imm == 16 || x.imm == 32 || x.imm == 64)
  else if x.op == 24 then (if x.src == 0 then !(x.dst == 10) && x.off == 0 else !(x.dst == 10) && x.off == 0 && x.src == 1 && decide (0 ≤ x.imm))
  else if x.op == 5 then x.dst == 0 && onlyB x false true false
  else if x.op == 6 then x.dst == 0 && onlyB x false false true
  else if x.op == 133 then x.dst == 0 && onlyB x false false true
  else if x.op == 149 then x.dst == 0 && onlyB x false false false
  else false
def jumps : List Int := [16, 32, 48, 64, 80, 96, 112, 160, 176, 192, 208]
def brW (x : Ins) : Wh := ⟨10, x.op / 16 * 16, x.op % 8 == 5, x.op / 8 % 2 == 1, false, 0⟩
def brOk (x : Ins) : Bool := inB jumps (x.op / 16 * 16) && onlyB x (x.op / 8 % 2 == 1) true (!(x.op / 8 % 2 == 1))
def waW (x : Ins) : Wh :=
  if decide (10 < x.dst) || decide (10 < x.src) then Wh.zero
  else if inB others x.op then otW x
  else if x.op % 8 == 4 || x.op % 8 == 7 then arW x
  else if x.op % 8 == 5 || x.op % 8 == 6 then brW x
  else meW x
def wOk (x : Ins) : Bool :=
  if decide (10 < x.dst) || decide (10 < x.src) then false
  else if inB others x.op then otOk x
  else if x.op % 8 == 4 || x.op % 8 == 7 then arOk x
  else if x.op % 8 == 5 || x.op % 8 == 6 then brOk x
  else meOk x
def wOf (x : Ins) : Wh := if wOk x then waW x else Wh.zero
def iAt (l : List Ins) (k : Nat) : Ins := l.getD k Ins.zero
def nxt (l : List Ins) (k : Nat) : Nat := if (iAt l k).op = 24 then k + 2 else k + 1
theorem nxt_lt (l : List Ins) (k : Nat) : k < nxt l k := by unfold nxt; split <;> omega
theorem nxt_le (l : List Ins) (k : Nat) : nxt l k ≤ k + 2 := by unfold nxt; split <;> omega
def nextOf (l : List Ins) (i : Int) : Int := if i < 0 ∨ (l.length : Int) ≤ i then -1 else (nxt l i.toNat : Int)
def sts : Bool → List Ins → List Bool
  | _, [] => []
  | true, _ :: l => false :: sts false l
  | false, x :: l => true :: sts (x.op == 24) l
def stAt (l : List Ins) (k : Nat) : Bool := (sts false l).getD k false
def jumpy (x : Ins) : Bool := (wOf x).kind == 9 || (wOf x).kind == 10
def farOf (x : Ins) : Int := if x.op == 6 then x.imm else x.off
def toOf (x : Ins) (i : Int) : Int := if jumpy x then i + 1 + farOf x else 0
def inL (l : List Ins) (i : Int) : Bool := decide (0 ≤ i) && decide (i < (l.length : Int))
def tgOk (l : List Ins) (i : Int) : Bool := inL l i && jumpy (iAt l i.toNat) && inL l (toOf (iAt l i.toNat) i)
def tgOf (l : List Ins) (i : Int) : Int := if tgOk l i then toOf (iAt l i.toNat) i else 0
def halfB (l : List Ins) (k : Nat) : Bool :=
  if (wOf (iAt l k)).kind == 3 || (wOf (iAt l k)).kind == 4 then
    decide (k + 1 < l.length) && ((iAt l (k + 1)).op == 0 && (iAt l (k + 1)).dst == 0 && (iAt l (k + 1)).src == 0 && (iAt l (k + 1)).off == 0 && ((wOf (iAt l k)).kind == 3 || (iAt l (k + 1)).imm == 0))
  else true
def fb (l : List Ins) (P : Nat → Bool) (k : Nat) : Option Nat :=
  if h : k < l.length then (if P k then some k else fb l P (nxt l k)) else none
  termination_by l.length - k
  decreasing_by have := nxt_lt l k; omega
theorem fb_in {l : List Ins} {P : Nat → Bool} {k : Nat} (h : k < l.length) : fb l P k = if P k then some k else fb l P (nxt l k) := by rw [fb, dif_pos h]
theorem fb_out {l : List Ins} {P : Nat → Bool} {k : Nat} (h : ¬ k < l.length) : fb l P k = none := by rw [fb, dif_neg h]
def lst (l : List Ins) (k d : Nat) : Nat :=
  if h : k < l.length then lst l (nxt l k) k else d
  termination_by l.length - k
  decreasing_by have := nxt_lt l k; omega
theorem lst_in {l : List Ins} {k d : Nat} (h : k < l.length) : lst l k d = lst l (nxt l k) k := by rw [lst, dif_pos h]
theorem lst_out {l : List Ins} {k d : Nat} (h : ¬ k < l.length) : lst l k d = d := by rw [lst, dif_neg h]
def bad1 (l : List Ins) (k : Nat) : Bool := !(wOk (iAt l k)) || !(halfB l k)
def bad2 (l : List Ins) (k : Nat) : Bool := jumpy (iAt l k) && !(inL l (toOf (iAt l k) k) && stAt l (toOf (iAt l k) k).toNat)
def ends (x : Ins) : Bool := (wOf x).kind == 12 || (wOf x).kind == 9
def chk (l : List Ins) : Int × Int :=
  if l.length = 0 ∨ 512 < l.length then (0, 70)
  else match fb l (bad1 l) 0 with
  | some k => (k, 71)
  | none => match fb l (bad2 l) 0 with
    | some k => (k, 72)
    | none => if ends (iAt l (lst l 0 0)) then (0, 0) else (lst l 0 0, 73)
end Go.Proofs.YtlbhffdpklbhfaaGreat
namespace Go.Proofs.YtlbhffdpklbhfaaGreat
open Go Go.RowKit
theorem nat_or_low (i x y : Nat) (hx : x < 2 ^ i) (hy : y % 2 ^ i = 0) : x ||| y = x + y := by
  rw [Nat.or_comm, nat_join i y x hy hx]; omega
end Go.Proofs.YtlbhffdpklbhfaaGreat
namespace Go.Proofs.YtlbhffdpklbhfaaGreat
open Go Go.RowKit
set_option linter.unusedVariables false
def sgnP (Q a : Int) : Int := if a % Q * 2 < Q then a % Q else a % Q - Q
def signW (a w : Int) : Int := if 1 ≤ w ∧ w ≤ 64 then sgnP (2 ^ w.toNat) a % 18446744073709551616 else a
theorem wrap64_sgn (a : Int) : wrap64 a = sgnP 18446744073709551616 a := by unfold wrap64 sgnP; split <;> omega
theorem wrap32_sgn (a : Int) : wrap32 a = sgnP 4294967296 a := by unfold wrap32 sgnP; split <;> omega
theorem signW_64 (a : Int) : signW a 64 = a % 18446744073709551616 := by
  unfold signW; rw [if_pos (by decide)]; show sgnP 18446744073709551616 a % _ = _; unfold sgnP; split <;> omega
theorem signW_32 (a : Int) : signW a 32 = wrap32 a % 18446744073709551616 := by
  unfold signW; rw [if_pos (by decide)]; show sgnP 4294967296 a % _ = _; rw [wrap32_sgn]
theorem signW_range (a w : Int) (h0 : 0 ≤ a) (h1 : a ≤ 18446744073709551615) : 0 ≤ signW a w ∧ signW a w ≤ 18446744073709551615 := by
  unfold signW; split <;> omega
theorem two_pow_pos (n : Nat) : (0 : Int) < 2 ^ n := by
  have := Nat.two_pow_pos n
  have e : ((2 ^ n : Nat) : Int) = (2 : Int) ^ n := by push_cast; rfl
  omega
theorem two_pow_split (w : Int) (h1 : 0 ≤ w) (h2 : w ≤ 64) : (2 : Int) ^ (64 - w).toNat * 2 ^ w.toNat = 18446744073709551616 := by
  rw [← Int.pow_add]
  have : (64 - w).toNat + w.toNat = 64 := by omega
  rw [this]; rfl
theorem up_down (n w : Int) (h1 : 0 ≤ w) (h2 : w ≤ 64) : n * 2 ^ (64 - w).toNat % 18446744073709551616 / 2 ^ (64 - w).toNat = n % 2 ^ w.toNat := by
  have hP := two_pow_pos (64 - w).toNat
  rw [← two_pow_split w h1 h2, Int.mul_comm n, Int.mul_emod_mul_of_pos _ _ hP, Int.mul_ediv_cancel_left _ (by omega)]
theorem up_down_signed (n w : Int) (h1 : 1 ≤ w) (h2 : w ≤ 64) : wrap64 (n * 2 ^ (64 - w).toNat % 18446744073709551616) / 2 ^ (64 - w).toNat = sgnP (2 ^ w.toNat) n := by
  have hP := two_pow_pos (64 - w).toNat
  have hs := two_pow_split w (by omega) h2
  rw [wrap64_sgn]
  unfold sgnP
  rw [Int.emod_emod_of_dvd _ (Int.dvd_refl _), ← hs, Int.mul_comm n, Int.mul_emod_mul_of_pos _ _ hP]
  generalize (2 : Int) ^ (64 - w).toNat = P at *
  generalize (2 : Int) ^ w.toNat = Q at *
  generalize n % Q = r
  have e : P * r * 2 < P * Q ↔ r * 2 < Q := by
    rw [Int.mul_assoc]
    exact ⟨fun h => Int.lt_of_mul_lt_mul_left h (by omega), fun h => Int.mul_lt_mul_of_pos_left h hP⟩
  by_cases h : r * 2 < Q
  · rw [if_pos (e.mpr h), if_pos h, Int.mul_ediv_cancel_left _ (by omega)]
  · rw [if_neg (fun x => h (e.mp x)), if_neg h, ← Int.mul_sub, Int.mul_ediv_cancel_left _ (by omega)]
def aM (wide : Bool) : Int := if wide then 18446744073709551616 else 4294967296
def aB (wide : Bool) : Int := if wide then 64 else 32
def sg (wide : Bool) (x : Int) : Int := if wide then wrap64 x else wrap32 x
def aluFits (op : Int) (wide : Bool) (off : Int) : Bool :=
  if op = 48 ∨ op = 144 then off == 0 || off == 1
  else if op = 176 then off == 0 || off == 8 || off == 16 || (off == 32 && wide)
  else if op = 0 ∨ op = 16 ∨ op = 32 ∨ op = 64 ∨ op = 80 ∨ op = 160 ∨ op = 96 ∨ op = 112 ∨ op = 192 ∨ op = 128 then off == 0
  else false
def aluZ (wide : Bool) (op off x y : Int) : Int :=
  if op = 0 then x + y
  else if op = 16 then x - y
  else if op = 32 then x * y
  else if op = 64 then ((x.toNat ||| y.toNat : Nat) : Int)
  else if op = 80 then ((x.toNat &&& y.toNat : Nat) : Int)
  else if op = 160 then ((x.toNat ^^^ y.toNat : Nat) : Int)
  else if op = 96 then x * 2 ^ (y % aB wide).toNat
  else if op = 112 then x / 2 ^ (y % aB wide).toNat
  else if op = 192 then sg wide x / 2 ^ (y % aB wide).toNat
  else if op = 128 then -x
  else if op = 176 then signW y off
  else if op = 48 then (if off = 1 then sg wide ((sg wide x).tdiv (sg wide y)) else x / y)
  else if op = 144 then (if off = 1 then (sg wide x).tmod (sg wide y) else x % y)
  else 0
def aluV (wide : Bool) (op off a b : Int) : Int := if aluFits op wide off then aluZ wide op off (a % aM wide) (b % aM wide) % aM wide else 0
def aluE (wide : Bool) (op off : Int) : Int := if aluFits op wide off then 0 else 1
theorem aM_pos (wide : Bool) : 0 < aM wide ∧ aM wide ≤ 18446744073709551616 := by cases wide <;> decide
theorem aluV_range (wide : Bool) (op off a b : Int) : 0 ≤ aluV wide op off a b ∧ aluV wide op off a b ≤ 18446744073709551615 := by
  unfold aluV
  have h := aM_pos wide
  split
  · have h1 := Int.emod_nonneg (aluZ wide op off (a % aM wide) (b % aM wide)) (b := aM wide) (by omega)
    have h2 := Int.emod_lt_of_pos (aluZ wide op off (a % aM wide) (b % aM wide)) (b := aM wide) (by omega)
    omega
  · omega
theorem or_small (x y : Int) (hx : x ≤ 18446744073709551615) (hy : y ≤ 18446744073709551615) : ((x.toNat ||| y.toNat : Nat) : Int) = ((x.toNat ||| y.toNat : Nat) : Int) % 18446744073709551616 := by
  have h := Nat.or_lt_two_pow (n := 64) (x := x.toNat) (y := y.toNat) (by omega) (by omega)
  omega
theorem and_small (x y : Int) (hx : x ≤ 18446744073709551615) (hy : y ≤ 18446744073709551615) : ((x.toNat &&& y.toNat : Nat) : Int) = ((x.toNat &&& y.toNat : Nat) : Int) % 18446744073709551616 := by
  have h := Nat.and_lt_two_pow (n := 64) x.toNat (y := y.toNat) (by omega)
  omega
theorem xor_small (x y : Int) (hx : x ≤ 18446744073709551615) (hy : y ≤ 18446744073709551615) : ((x.toNat ^^^ y.toNat : Nat) : Int) = ((x.toNat ^^^ y.toNat : Nat) : Int) % 18446744073709551616 := by
  have h := Nat.xor_lt_two_pow (n := 64) (x := x.toNat) (y := y.toNat) (by omega) (by omega)
  omega
theorem shr_small (x : Int) (k : Nat) (hx : 0 ≤ x) (hx' : x ≤ 18446744073709551615) : x / 2 ^ k = x / 2 ^ k % 18446744073709551616 := by
  have h := two_pow_pos k
  have h1 := Int.ediv_le_self (2 ^ k) hx
  have h2 := Int.ediv_nonneg hx (b := 2 ^ k) (by omega)
  omega
theorem wrap64_low (x : Int) : wrap64 (x % 18446744073709551616) = wrap64 x := by unfold wrap64; omega
theorem wrap64_wrap32 (x : Int) : wrap64 (wrap32 x % 18446744073709551616) = wrap32 x := by unfold wrap64 wrap32; omega
theorem sg_mod (wide : Bool) (z : Int) : sg wide z % aM wide = z % aM wide := by
  cases wide
  · show wrap32 z % 4294967296 = z % 4294967296
    unfold wrap32; omega
  · show wrap64 z % 18446744073709551616 = z % 18446744073709551616
    unfold wrap64; omega
theorem fits_ops {op off : Int} {wide : Bool} (h : aluFits op wide off = true) :
    (op = 0 ∧ off = 0) ∨ (op = 16 ∧ off = 0) ∨ (op = 32 ∧ off = 0) ∨ (op = 64 ∧ off = 0) ∨ (op = 80 ∧ off = 0) ∨ (op = 160 ∧ off = 0) ∨ (op = 96 ∧ off = 0) ∨ (op = 112 ∧ off = 0) ∨
    (op = 192 ∧ off = 0) ∨ (op = 128 ∧ off = 0) ∨ (op = 176 ∧ (off = 0 ∨ off = 8 ∨ off = 16 ∨ (off = 32 ∧ wide = true))) ∨ (op = 48 ∧ (off = 0 ∨ off = 1)) ∨ (op = 144 ∧ (off = 0 ∨ off = 1)) := by
  unfold aluFits at h
  split at h
  · rename_i h'
    rcases h' with rfl | rfl
    · have h2 : off = 0 ∨ off = 1 := by simpa using h
      simp [h2]
    · have h2 : off = 0 ∨ off = 1 := by simpa using h
      simp [h2]
  · split at h
    · rename_i h'
      subst h'
      have h2 : off = 0 ∨ off = 8 ∨ off = 16 ∨ (off = 32 ∧ wide = true) := by simpa [or_assoc] using h
      simp [h2]
    · split at h
      · rename_i h'
        have h2 : off = 0 := by simpa using h
        subst h2
        rcases h' with rfl | rfl | rfl | rfl | rfl | rfl | rfl | rfl | rfl | rfl <;> simp
      · cases h
theorem fits_off {op off : Int} {wide : Bool} (h : aluFits op wide off = true) : 0 ≤ off ∧ off ≤ 32 := by
  rcases fits_ops h with h | h | h | h | h | h | h | h | h | h | h | h | h <;> omega
end Go.Proofs.YtlbhffdpklbhfaaGreat
