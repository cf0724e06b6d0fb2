/-
  Texts, one behind the other: Areas, TabPlain, CodePlain, Plain.
  Conditions: those that each theorem states.
-/
import Derived.Test.YtfniahmfoigceaaGreatPz1
import Derived.Laws.BytesArg
import Derived.Lib.Strings
import Derived.WalkKit
import Derived.Laws.BitsAllLaws

namespace Go.Proofs.YtfniahmfoigceaaGreat
open Go Go.RowKit
set_option linter.unusedVariables false
set_option linter.unusedSimpArgs false

/-- An area, and the slices that hold it. -/
structure AR where
  a : PA
  vb : Value
  vk : Value
def AR.zero : AR := ⟨PA.zero, .slice none 0 0, .slice none 0 0⟩
def arAt (L : List AR) (k : Nat) : AR := L.getD k AR.zero
def arM (L : List AR) : PM := L.map (·.a)
theorem arM_len (L : List AR) : (arM L).length = L.length := by simp [arM]
theorem arM_at (L : List AR) (k : Nat) : pAt (arM L) k = (arAt L k).a := by
  unfold pAt arM arAt
  rw [List.getD_eq_getElem?_getD, List.getD_eq_getElem?_getD, List.getElem?_map]
  cases L[k]? <;> rfl
/-- Its blocks, by place: its own, the row's, those of each area. -/
def arBlk (g : Nat) (vl : Value) (L : List AR) (p : Nat) : Option Nat :=
  if p = 0 then some g else if p = 1 then vl.ownBlock else if p % 2 = 0 then (arAt L ((p - 2) / 2)).vb.ownBlock else (arAt L ((p - 2) / 2)).vk.ownBlock
/-- What an area owns. -/
def AROwn (w : World) (r : AR) : Prop := w.ownsRow 0 5 1 r.vb r.a.b.length (byC r.a.b) ∧ w.ownsRow 0 4 1 r.vk r.a.bl.length (boC r.a.bl)
theorem arAt_out {L : List AR} {k : Nat} (h : L.length ≤ k) : arAt L k = AR.zero := by
  unfold arAt
  rw [List.getD_eq_getElem?_getD, List.getElem?_eq_none h]
  rfl
theorem arAt_set {L : List AR} {k : Nat} (hk : k < L.length) (r : AR) (j : Nat) : arAt (L.set k r) j = if j = k then r else arAt L j := by
  unfold arAt
  rw [List.getD_eq_getElem?_getD, List.getD_eq_getElem?_getD, List.getElem?_set]
  by_cases h : k = j
  · subst h
    rw [if_pos rfl, if_pos hk, if_pos rfl]
    rfl
  · rw [if_neg h, if_neg (fun e => h e.symm)]
theorem arBlk_b (g : Nat) (vl : Value) (L : List AR) (k : Nat) : arBlk g vl L (2 * k + 2) = (arAt L k).vb.ownBlock := by
  unfold arBlk
  rw [if_neg (by omega), if_neg (by omega), if_pos (by omega), show (2 * k + 2 - 2) / 2 = k by omega]
theorem arBlk_k (g : Nat) (vl : Value) (L : List AR) (k : Nat) : arBlk g vl L (2 * k + 3) = (arAt L k).vk.ownBlock := by
  unfold arBlk
  rw [if_neg (by omega), if_neg (by omega), if_neg (by omega), show (2 * k + 3 - 2) / 2 = k by omega]
theorem arBlk_cases {g : Nat} {vl : Value} {L : List AR} {p x : Nat} (h : arBlk g vl L p = some x) :
    (p = 0 ∧ x = g) ∨ (p = 1 ∧ vl.ownBlock = some x) ∨ ∃ k, k < L.length ∧ ((p = 2 * k + 2 ∧ (arAt L k).vb.ownBlock = some x) ∨ (p = 2 * k + 3 ∧ (arAt L k).vk.ownBlock = some x)) := by
  unfold arBlk at h
  by_cases h0 : p = 0
  · rw [if_pos h0] at h; cases h; exact .inl ⟨h0, rfl⟩
  rw [if_neg h0] at h
  by_cases h1 : p = 1
  · rw [if_pos h1] at h; exact .inr (.inl ⟨h1, h⟩)
  rw [if_neg h1] at h
  have hk : (p - 2) / 2 < L.length := by
    rcases Nat.lt_or_ge ((p - 2) / 2) L.length with c | c
    · exact c
    · rw [arAt_out c] at h
      split at h <;> cases h
  refine .inr (.inr ⟨(p - 2) / 2, hk, ?_⟩)
  by_cases h2 : p % 2 = 0
  · rw [if_pos h2] at h; exact .inl ⟨by omega, h⟩
  · rw [if_neg h2] at h; exact .inr ⟨by omega, h⟩
/-- An area with other bytes, in the same slices. -/
def arPut (r : AR) (b : List Int) (bl : List Bool) : AR := ⟨⟨r.a.id, b, bl, r.a.fx⟩, r.vb, r.vk⟩
theorem arBlk_put {g : Nat} {vl : Value} {L : List AR} {k : Nat} (hk : k < L.length) (b : List Int) (bl : List Bool) (p : Nat) : arBlk g vl (L.set k (arPut (arAt L k) b bl)) p = arBlk g vl L p := by
  have hv : ∀ j, (arAt (L.set k (arPut (arAt L k) b bl)) j).vb = (arAt L j).vb ∧ (arAt (L.set k (arPut (arAt L k) b bl)) j).vk = (arAt L j).vk := fun j => by
    rw [arAt_set hk]
    split
    · rename_i e; rw [e]; exact ⟨rfl, rfl⟩
    · exact ⟨rfl, rfl⟩
  unfold arBlk
  rw [(hv _).1, (hv _).2]
theorem arM_put {L : List AR} {k : Nat} (b : List Int) (bl : List Bool) : arM (L.set k (arPut (arAt L k) b bl)) = (arM L).set k ⟨(arAt L k).a.id, b, bl, (arAt L k).a.fx⟩ := by
  unfold arM
  rw [List.map_set]
  rfl
theorem arPut_self {L : List AR} {k : Nat} (hk : k < L.length) : L.set k (arPut (arAt L k) (arAt L k).a.b (arAt L k).a.bl) = L := by
  have e : arPut (arAt L k) (arAt L k).a.b (arAt L k).a.bl = L[k] := by
    show arAt L k = L[k]
    unfold arAt
    rw [List.getD_eq_getElem?_getD, List.getElem?_eq_getElem hk, Option.getD_some]
  rw [e]
  exact List.set_getElem_self hk
theorem arPut_twice {L : List AR} {k : Nat} (hk : k < L.length) (b b2 : List Int) (bl bl2 : List Bool) :
    (L.set k (arPut (arAt L k) b bl)).set k (arPut (arAt (L.set k (arPut (arAt L k) b bl)) k) b2 bl2) = L.set k (arPut (arAt L k) b2 bl2) := by
  rw [List.set_set, arAt_set hk, if_pos rfl]
  rfl
theorem arAt_app {L : List AR} {r : AR} {k : Nat} : arAt (L ++ [r]) k = if k < L.length then arAt L k else if k = L.length then r else AR.zero := by
  unfold arAt
  rw [List.getD_eq_getElem?_getD, List.getD_eq_getElem?_getD, List.getElem?_append]
  split
  · rfl
  · rename_i h
    by_cases h2 : k = L.length
    · rw [if_pos h2, h2, Nat.sub_self]; rfl
    · rw [if_neg h2, List.getElem?_eq_none (by simp; omega)]; rfl
theorem arBlk_app {g : Nat} {vl vl' : Value} {L : List AR} {r : AR} {p x : Nat} (h : arBlk g vl' (L ++ [r]) p = some x) :
    (p ≠ 1 ∧ arBlk g vl L p = some x) ∨ (p = 1 ∧ vl'.ownBlock = some x) ∨ (p = 2 * L.length + 2 ∧ r.vb.ownBlock = some x) ∨ (p = 2 * L.length + 3 ∧ r.vk.ownBlock = some x) := by
  rcases arBlk_cases h with ⟨h1, h2⟩ | ⟨h1, h2⟩ | ⟨k, hk, ⟨h1, h2⟩ | ⟨h1, h2⟩⟩
  · exact .inl ⟨by omega, by rw [h1, h2]; rfl⟩
  · exact .inr (.inl ⟨h1, h2⟩)
  · rw [arAt_app] at h2
    by_cases hl : k < L.length
    · rw [if_pos hl] at h2
      exact .inl ⟨by omega, by rw [h1, arBlk_b]; exact h2⟩
    · have e : k = L.length := by simp at hk; omega
      rw [if_neg hl, if_pos e] at h2
      exact .inr (.inr (.inl ⟨by omega, h2⟩))
  · rw [arAt_app] at h2
    by_cases hl : k < L.length
    · rw [if_pos hl] at h2
      exact .inl ⟨by omega, by rw [h1, arBlk_k]; exact h2⟩
    · have e : k = L.length := by simp at hk; omega
      rw [if_neg hl, if_pos e] at h2
      exact .inr (.inr (.inr ⟨by omega, h2⟩))
theorem arM_app (L : List AR) (r : AR) : arM (L ++ [r]) = arM L ++ [r.a] := by simp [arM]
/-- Bytes, and an error, are answered. -/
def ByteW (r : List Int × Int) (w : World) (e : Ending) (w' : World) : Prop :=
  ∃ A c, e = .returned (.tuple #[.slice A r.1.length c, .int .i64 r.2]) ∧ BytS w' A r.1 ∧ r.1.length ≤ c ∧ c ≤ maxLen ∧ Below w.heap.size w w'
theorem byteW_none {w w' : World} (n : Int) (h : Below w.heap.size w w') : ByteW ([], n) w (.returned (.tuple #[.slice none 0 0, .int .i64 n])) w' :=
  ⟨none, 0, rfl, BytS.none_ _ _, Nat.le_refl _, Nat.zero_le _, h⟩
theorem blank_all {bl : List Bool} {o s : Nat} : ((bl.drop o).take s).any id = false ↔ ∀ t, o ≤ t → t < o + s → bl.getD t false = false := by
  rw [List.any_eq_false]
  constructor
  · intro h t h1 h2
    by_cases ht : t < bl.length
    · have e : bl.getD t false = bl[t] := by rw [List.getD_eq_getElem?_getD, List.getElem?_eq_getElem ht]; rfl
      rw [e]
      have := h bl[t] (List.mem_of_getElem? (i := t - o) (by rw [List.getElem?_take, if_pos (by omega), List.getElem?_drop, show o + (t - o) = t by omega, List.getElem?_eq_getElem ht]))
      simpa using this
    · rw [List.getD_eq_getElem?_getD, List.getElem?_eq_none (by omega)]; rfl
  · intro h x hx
    obtain ⟨i, hi, rfl⟩ := List.mem_iff_getElem.mp hx
    simp only [List.length_take, List.length_drop] at hi
    have := h (o + i) (by omega) (by omega)
    rw [List.getD_eq_getElem?_getD, List.getElem?_eq_getElem (by omega)] at this
    simp only [List.getElem_take, List.getElem_drop]
    simpa using this
theorem blank_some {bl : List Bool} {o s t : Nat} (h1 : o ≤ t) (h2 : t < o + s) (h3 : bl.getD t false = true) : ((bl.drop o).take s).any id = true := by
  cases h : ((bl.drop o).take s).any id
  · have := blank_all.mp h t h1 h2
    rw [h3] at this
    cases this
  · rfl
theorem cut_at (b : List Int) (o s k : Nat) (h : o + s ≤ b.length) (hk : k < s) : bAt ((b.drop o).take s) k = bAt b (o + k) := by
  unfold bAt
  rw [List.getD_eq_getElem?_getD, List.getD_eq_getElem?_getD, List.getElem?_take, if_pos hk, List.getElem?_drop]
theorem cut_len (b : List Int) (o s : Nat) (h : o + s ≤ b.length) : ((b.drop o).take s).length = s := by simp; omega

theorem own_form {w : World} {base size n c : Nat} {e : TypeId} {a : Addr} {xs : List Value} (h : w.ownsRow base e size (.slice (some a) n c) n xs) : ∃ g, a = ⟨g, 0, none⟩ := by
  rcases h.2 with ⟨h, _⟩ | ⟨g, cap, cur, h, _⟩
  · simp at h
  · simp only [Value.slice.injEq, Option.some.injEq] at h
    exact ⟨g, h.1⟩
theorem cell_alloc {w : World} {p : Addr} {v : Value} (h : w.cell? p = some v) (o : Obj) : (w.alloc o).cell? p = some v :=
  (Below.cell (below_alloc (Below.refl _ _) o) (World.block_lt_of_cell? w p h)).trans h

theorem leN_lt {l : List Int} (h : OkB l) : 0 ≤ leN l ∧ leN l < 256 ^ l.length := by
  induction l with
  | nil => simp [leN]
  | cons x l ih =>
    have hx : 0 ≤ x ∧ x ≤ 255 := by have := h 0 (by simp); simpa [bAt] using this
    have hl : OkB l := fun j hj => by have := h (j + 1) (by simpa using hj); simpa [bAt] using this
    obtain ⟨h1, h2⟩ := ih hl
    show 0 ≤ x + 256 * leN l ∧ x + 256 * leN l < 256 ^ (l.length + 1)
    rw [Int.pow_succ]
    omega
theorem okB_drop {l : List Int} (h : OkB l) (k : Nat) : OkB (l.drop k) := fun j hj => by
  rw [List.length_drop] at hj
  have := h (k + j) (by omega)
  unfold bAt at *
  rw [List.getD_eq_getElem?_getD] at *
  rw [List.getElem?_drop]
  exact this
theorem okB_take {l : List Int} (h : OkB l) (k : Nat) : OkB (l.take k) := fun j hj => by
  rw [List.length_take] at hj
  have := h j (by omega)
  unfold bAt at *
  rw [List.getD_eq_getElem?_getD] at *
  rw [List.getElem?_take, if_pos (by omega)]
  exact this
theorem pRead_len {M : PM} {at_ s : Int} (h : (pRead M at_ s).2 = 0) : 0 ≤ s ∧ s ≤ 1024 ∧ (pRead M at_ s).1.length = s.toNat := by
  unfold pRead at h ⊢
  split at h
  · simp at h
  · rename_i hs
    rw [if_neg hs]
    cases hw : pWh M at_ s with
    | none => rw [hw] at h; simp at h
    | some p =>
      obtain ⟨k, o⟩ := p
      rw [hw] at h
      simp only at h ⊢
      obtain ⟨_, _, _, hf, _⟩ := pWh_some hw
      split at h
      · simp at h
      · rename_i hb
        rw [if_neg hb]
        refine ⟨by omega, by omega, cut_len _ _ _ (hf (by omega))⟩
theorem pRead_ok {M : PM} (hM : PMok M) (at_ s : Int) : OkB (pRead M at_ s).1 := by
  unfold pRead
  split
  · intro j hj; simp at hj
  · cases hw : pWh M at_ s with
    | none => intro j hj; simp at hj
    | some p =>
      obtain ⟨k, o⟩ := p
      simp only
      split
      · intro j hj; simp at hj
      · exact okB_take (okB_drop (hM k (pWh_some hw).2.1).1 o) _

/-- Memory has become another one, and one answer is told. -/
def MemW (R : World → Nat → PM → (Nat → Prop) → Prop) (g : Nat) (F : Nat → Prop) (M : PM) (v : Value) (w : World) (e : Ending) (w' : World) : Prop :=
  e = .returned v ∧ ∃ F', R w' g M F' ∧ Turn F w w' ∧ ∀ x, F' x → F x ∨ w.heap.size ≤ x
theorem leB_succ (n : Int) (k : Nat) : leB n (k + 1) = n % 256 :: leB (n / 256) k := rfl
theorem putN_cons {α : Type} (b : List α) (o : Nat) (x : α) (l : List α) : putN b o (x :: l) = putN (b.set o x) (o + 1) l := rfl


end Go.Proofs.YtfniahmfoigceaaGreat

namespace Go.Proofs.YtfniahmfoigceaaGreat
open Go Go.RowKit
set_option maxRecDepth 100000
set_option linter.unusedVariables false
set_option linter.unusedSimpArgs false

/-- What a map is. -/
structure Df where
  hash : Bool
  key : Int
  val : Int
  max : Int
def Df.zero : Df := ⟨false, 0, 0, 0⟩
def Df.good (d : Df) : Bool := (if d.hash then decide (1 ≤ d.key) && decide (d.key ≤ 16) else d.key == 4) && decide (8 ≤ d.val) && decide (d.val ≤ 64) && (d.val % 8 == 0) && decide (1 ≤ d.max) && decide (d.max ≤ 16)
def tRight (l : List Df) : Bool := l.all Df.good && decide (l.length ≤ 8)
/-- A key, and its slot. -/
structure TK where
  k : List Int
  s : Nat
def TK.zero : TK := ⟨[], 0⟩
/-- A map: its keys by rising ones, how many slots came to be. -/
structure TM where
  d : Df
  L : List TK
  made : Nat
def TM.zero : TM := ⟨Df.zero, [], 0⟩
abbrev TT := List TM
def mt (T : TT) (i : Nat) : TM := T.getD i TM.zero
def tArea (i s : Int) : Int := 4096 + 1024 * i + s
/-- Which of two keys stands ahead. -/
def kLt : List Int → List Int → Bool
  | _, [] => false
  | [], _ :: _ => true
  | a :: x, b :: y => decide (a < b) || (a == b && kLt x y)
def tFind (L : List TK) (key : List Int) : Option Nat := (L.find? fun x => x.k == key).map (·.s)
def tMay (T : TT) (i : Int) (key : List Int) : Bool := decide (0 ≤ i) && decide (i < T.length) && ((key.length : Int) == (mt T i.toNat).d.key)
def minusI (n : Int) : Int := 18446744073709551616 - n
def tLook (T : TT) (i : Int) (key : List Int) : Int × Int :=
  if tMay T i key then (match tFind (mt T i.toNat).L key with | none => (0, 0) | some s => (atI (tArea i s) 0, 0)) else (0, 1)
/-- A value is put in its place, byte by byte. -/
def tFill (M : PM) (i s : Int) (k : Nat) : List Int → PM
  | [] => M
  | x :: l => tFill (pStore M (atI (tArea i s) k) 1 x).1 i s (k + 1) l
/-- A key among the others. -/
def tIns (L : List TK) (x : TK) : List TK := L.takeWhile (fun y => kLt y.k x.k) ++ x :: L.dropWhile (fun y => kLt y.k x.k)
structure TP where
  T : TT
  M : PM
  n : Int
  e : Int
def tPut (T : TT) (M : PM) (i : Int) (key val : List Int) (flags : Int) : TP :=
  if tMay T i key && ((val.length : Int) == (mt T i.toNat).d.val) then
    let m := mt T i.toNat
    if 2 < flags then ⟨T, M, minusI 22, 0⟩
    else match tFind m.L key with
    | some s => if flags = 1 then ⟨T, M, minusI 17, 0⟩ else ⟨T, tFill M i s 0 val, 0, 0⟩
    | none =>
      if m.d.hash = false then ⟨T, M, minusI 7, 0⟩
      else if flags = 2 then ⟨T, M, minusI 2, 0⟩
      else if m.d.max ≤ m.L.length then ⟨T, M, minusI 7, 0⟩
      else if 1024 ≤ m.made then ⟨T, M, minusI 12, 0⟩
      else if (pMake M (tArea i m.made) val false false).2 = 0 then ⟨T.set i.toNat ⟨m.d, tIns m.L ⟨key, m.made⟩, m.made + 1⟩, (pMake M (tArea i m.made) val false false).1, 0, 0⟩
      else ⟨T, M, minusI 12, 0⟩
  else ⟨T, M, 0, 1⟩
def tDrop (T : TT) (i : Int) (key : List Int) : TT × Int × Int :=
  if tMay T i key then
    let m := mt T i.toNat
    if m.d.hash = false then (T, minusI 22, 0)
    else match tFind m.L key with
    | none => (T, minusI 2, 0)
    | some _ => (T.set i.toNat ⟨m.d, m.L.filter (fun x => !(x.k == key)), m.made⟩, 0, 0)
  else (T, 0, 1)
def tItems (T : TT) (M : PM) (i : Int) : List (List Int × List Int) :=
  if 0 ≤ i ∧ i < T.length then (mt T i.toNat).L.map (fun x => (x.k, (pArea M (tArea i x.s)).1)) else []
/-- The areas of a numbered map's values. -/
def tSlots (M : PM) (i v k : Nat) : Nat → PM × Bool
  | 0 => (M, true)
  | n + 1 => if (pMake M (tArea i k) (List.replicate v 0) false false).2 = 0 then tSlots (pMake M (tArea i k) (List.replicate v 0) false false).1 i v (k + 1) n else ((pMake M (tArea i k) (List.replicate v 0) false false).1, false)
def numL (n : Nat) : List TK := (List.range n).map fun (k : Nat) => TK.mk [((k : Nat) : Int), 0, 0, 0] k
def tNewG : Nat → List Df → PM → TT → PM × Option TT
  | _, [], M, T => (M, some T)
  | i, d :: l, M, T =>
    if d.hash then tNewG (i + 1) l M (T ++ [⟨d, [], 0⟩])
    else if (tSlots M i d.val.toNat 0 d.max.toNat).2 then tNewG (i + 1) l (tSlots M i d.val.toNat 0 d.max.toNat).1 (T ++ [⟨d, numL d.max.toNat, d.max.toNat⟩])
    else ((tSlots M i d.val.toNat 0 d.max.toNat).1, none)
def tNew (M : PM) (l : List Df) : PM × Option TT := if tRight l then tNewG 0 l M [] else (M, none)

/-- Maps as they may be. -/
structure TM.ok (m : TM) : Prop where
  good : m.d.good = true
  keys : ∀ x ∈ m.L, OkB x.k ∧ (x.k.length : Int) = m.d.key ∧ x.s < m.made
  rise : m.L.Pairwise fun x y => kLt x.k y.k = true
  few : (m.L.length : Int) ≤ m.d.max
  made : m.made ≤ 1024
def TOk (T : TT) : Prop := ∀ i, i < T.length → (mt T i).ok
theorem mt_app {T : TT} {m : TM} {k : Nat} : mt (T ++ [m]) k = if k < T.length then mt T k else if k = T.length then m else TM.zero := by
  unfold mt
  rw [List.getD_eq_getElem?_getD, List.getD_eq_getElem?_getD, List.getElem?_append]
  split
  · rfl
  · rename_i h
    by_cases h2 : k = T.length
    · rw [if_pos h2, h2, Nat.sub_self]; rfl
    · rw [if_neg h2, List.getElem?_eq_none (by simp; omega)]; rfl
theorem mt_set {T : TT} {k : Nat} (hk : k < T.length) (m : TM) (j : Nat) : mt (T.set k m) j = if j = k then m else mt T j := by
  unfold mt
  rw [List.getD_eq_getElem?_getD, List.getD_eq_getElem?_getD, List.getElem?_set]
  by_cases h : k = j
  · subst h
    rw [if_pos rfl, if_pos hk, if_pos rfl]
    rfl
  · rw [if_neg h, if_neg (fun e => h e.symm)]
/-! Keys, one ahead of the other. -/
theorem kLt_irrefl (a : List Int) : kLt a a = false := by
  induction a with
  | nil => rfl
  | cons x a ih => simp [kLt, ih]
theorem kLt_trans {a b c : List Int} (h : kLt a b = true) (k : kLt b c = true) : kLt a c = true := by
  induction a generalizing b c with
  | nil =>
    cases c with
    | nil => cases b <;> simp [kLt] at k
    | cons z c => rfl
  | cons x a ih =>
    cases b with
    | nil => simp [kLt] at h
    | cons y b =>
      cases c with
      | nil => simp [kLt] at k
      | cons z c =>
        simp only [kLt, Bool.or_eq_true, decide_eq_true_eq, Bool.and_eq_true, beq_iff_eq] at *
        rcases h with h | ⟨h1, h2⟩
        · rcases k with k | ⟨k1, _⟩
          · exact .inl (by omega)
          · exact .inl (by omega)
        · rcases k with k | ⟨k1, k2⟩
          · exact .inl (by omega)
          · exact .inr ⟨by omega, ih h2 k2⟩
theorem kLt_total {a b : List Int} (h : kLt a b = false) (hne : a ≠ b) : kLt b a = true := by
  induction a generalizing b with
  | nil =>
    cases b with
    | nil => exact absurd rfl hne
    | cons y b => simp [kLt] at h
  | cons x a ih =>
    cases b with
    | nil => rfl
    | cons y b =>
      simp only [kLt, Bool.or_eq_false_iff, decide_eq_false_iff_not, Bool.and_eq_false_iff, Bool.or_eq_true, decide_eq_true_eq, Bool.and_eq_true, beq_iff_eq] at *
      by_cases hxy : x = y
      · subst hxy
        refine .inr ⟨rfl, ih ?_ (fun e => hne (by rw [e]))⟩
        rcases h.2 with c | c
        · simp at c
        · exact c
      · exact .inl (by omega)
theorem kLt_ne {a b : List Int} (h : kLt a b = true) : a ≠ b := fun e => by rw [e, kLt_irrefl] at h; cases h
/-! Keys as strings. -/
end Go.Proofs.YtfniahmfoigceaaGreat

namespace Go.Proofs.YtfniahmfoigceaaGreat
open Go Go.RowKit
set_option linter.unusedVariables false

/-- An instruction. -/
structure Ins where
  op : Int
  dst : Int
  src : Int
  off : Int
  imm : Int
/-- Its parts fit their kinds. -/
def Ins.ok (x : Ins) : Prop := (0 ≤ x.op ∧ x.op ≤ 255) ∧ (0 ≤ x.dst ∧ x.dst ≤ 255) ∧ (0 ≤ x.src ∧ x.src ≤ 255) ∧ (-32768 ≤ x.off ∧ x.off ≤ 32767) ∧ (-2147483648 ≤ x.imm ∧ x.imm ≤ 2147483647)
def Ins.zero : Ins := ⟨0, 0, 0, 0, 0⟩
/-- What one does. -/
structure Wh where
  kind : Int
  op : Int
  wide : Bool
  reg : Bool
  signed : Bool
  size : Int
def Wh.zero : Wh := ⟨0, 0, false, false, false, 0⟩
abbrev iV (x : Ins) : Value := .agg #[.int .u8 x.op, .int .u8 x.dst, .int .u8 x.src, .int .i16 x.off, .int .i32 x.imm]
abbrev whV (x : Wh) : Value := .agg #[.int .u8 x.kind, .int .u8 x.op, .bool x.wide, .bool x.reg, .bool x.signed, .int .i64 x.size]

/-- Are Src, Off and Imm 0, but those that may be? -/
def onlyB (x : Ins) (src off imm : Bool) : Bool := (src || x.src == 0) && (off || x.off == 0) && (imm || x.imm == 0)
def inB (l : List Int) (n : Int) : Bool := l.any fun x => x == n
/-- Arithmetic. -/
def arW (x : Ins) : Wh := ⟨1, x.op / 16 * 16, x.op % 8 == 7, x.op / 8 % 2 == 1, false, 0⟩
def arOff (x : Ins) : Bool :=
  if x.op / 16 * 16 == 48 || x.op / 16 * 16 == 144 then x.off == 0 || x.off == 1
  else if x.op / 16 * 16 == 176 then x.off == 0 || (x.op / 8 % 2 == 1 && (x.off == 8 || x.off == 16 || (x.op % 8 == 7 && x.off == 32)))
  else x.off == 0
def ariths : List Int := [0, 16, 32, 64, 80, 160, 96, 112, 192, 48, 144, 176]
def arOk (x : Ins) : Bool :=
  if x.dst == 10 then false
  else if x.op / 16 * 16 == 128 then !(x.op / 8 % 2 == 1) && onlyB x false false false
  else inB ariths (x.op / 16 * 16) && arOff x && onlyB x (x.op / 8 % 2 == 1) true (!(x.op / 8 % 2 == 1))
/-- Of Ops in a row what each has; 0: it is none. -/
def szFrom : List Int → List Int → Int → Int
  | x :: l, n :: ns, op => if x = op then n else szFrom l ns op
  | _, _, _ => 0
theorem szFrom_rng (l : List Int) (op : Int) : 0 ≤ szFrom l [4, 2, 1, 8] op ∧ szFrom l [4, 2, 1, 8] op ≤ 8 := by
  match l with
  | [] => simp [szFrom]
  | [a] => simp only [szFrom]; split <;> omega
  | [a, b] => simp only [szFrom]; repeat (first | split | omega)
  | [a, b, c] => simp only [szFrom]; repeat (first | split | omega)
  | [a, b, c, d] => simp only [szFrom]; repeat (first | split | omega)
  | a :: b :: c :: d :: e :: l => simp only [szFrom]; repeat (first | split | omega)
def szL (op : Int) : Int := szFrom [97, 105, 113, 121] [4, 2, 1, 8] op
def szG (op : Int) : Int := szFrom [129, 137, 145] [4, 2, 1, 8] op
def szS (op : Int) : Int := szFrom [98, 106, 114, 122] [4, 2, 1, 8] op
def szP (op : Int) : Int := szFrom [99, 107, 115, 123] [4, 2, 1, 8] op
/-- Loads and stores. -/
def meW (x : Ins) : Wh :=
  if 0 < szL x.op + szG x.op then ⟨5, 0, false, false, decide (0 < szG x.op), szL x.op + szG x.op⟩
  else if 0 < szS x.op then ⟨6, 0, false, false, false, szS x.op⟩
  else if 0 < szP x.op then ⟨7, 0, false, true, false, szP x.op⟩
  else if x.op == 195 || x.op == 219 then ⟨8, x.imm % 256, false, true, false, if x.op == 219 then 8 else 4⟩
  else Wh.zero
def meOk (x : Ins) : Bool :=
  if 0 < szL x.op + szG x.op then !(x.dst == 10) && onlyB x true true false
  else if 0 < szS x.op then onlyB x false true true
  else if 0 < szP x.op then onlyB x true true false
  else if x.op == 195 || x.op == 219 then x.imm == 0 || x.imm == 64 || x.imm == 80 || x.imm == 160
  else false
/-- What needs no more than its Op. -/
def others : List Int := [212, 220, 215, 24, 5, 6, 133, 149]
def otW (x : Ins) : Wh :=
  if x.op == 212 || x.op == 220 || x.op == 215 then ⟨2, 0, !(x.op == 212), false, false, x.imm.tdiv 8⟩
  else if x.op == 24 then ⟨if x.src == 0 then 3 else 4, 0, true, false, false, 0⟩
  else if x.op == 5 || x.op == 6 then ⟨9, 0, false, false, false, 0⟩
  else if x.op == 133 then ⟨11, 0, false, false, false, 0⟩
  else if x.op == 149 then ⟨12, 0, false, false, false, 0⟩
  else Wh.zero
def otOk (x : Ins) : Bool :=
  if x.op == 212 || x.op == 220 || x.op == 215 then !(x.dst == 10) && onlyB x false false true && (x.imm == 16 || x.imm == 32 || x.imm == 64)
  else if x.op == 24 then (if x.src == 0 then !(x.dst == 10) && x.off == 0 else !(x.dst == 10) && x.off == 0 && x.src == 1 && decide (0 ≤ x.imm))
  else if x.op == 5 then x.dst == 0 && onlyB x false true false
  else if x.op == 6 then x.dst == 0 && onlyB x false false true
  else if x.op == 133 then x.dst == 0 && onlyB x false false true
  else if x.op == 149 then x.dst == 0 && onlyB x false false false
  else false
def jumps : List Int := [16, 32, 48, 64, 80, 96, 112, 160, 176, 192, 208]
def brW (x : Ins) : Wh := ⟨10, x.op / 16 * 16, x.op % 8 == 5, x.op / 8 % 2 == 1, false, 0⟩
def brOk (x : Ins) : Bool := inB jumps (x.op / 16 * 16) && onlyB x (x.op / 8 % 2 == 1) true (!(x.op / 8 % 2 == 1))
def waW (x : Ins) : Wh :=
  if decide (10 < x.dst) || decide (10 < x.src) then Wh.zero
  else if inB others x.op then otW x
  else if x.op % 8 == 4 || x.op % 8 == 7 then arW x
  else if x.op % 8 == 5 || x.op % 8 == 6 then brW x
  else meW x
/-- Is it an instruction? -/
def wOk (x : Ins) : Bool :=
  if decide (10 < x.dst) || decide (10 < x.src) then false
  else if inB others x.op then otOk x
  else if x.op % 8 == 4 || x.op % 8 == 7 then arOk x
  else if x.op % 8 == 5 || x.op % 8 == 6 then brOk x
  else meOk x
/-- What it does; zero, if it is none. -/
def wOf (x : Ins) : Wh := if wOk x then waW x else Wh.zero

/-! Rows of instructions. -/
def iAt (l : List Ins) (k : Nat) : Ins := l.getD k Ins.zero
/-- Where the next one begins. -/
def nxt (l : List Ins) (k : Nat) : Nat := if (iAt l k).op = 24 then k + 2 else k + 1
theorem nxt_lt (l : List Ins) (k : Nat) : k < nxt l k := by unfold nxt; split <;> omega
theorem nxt_le (l : List Ins) (k : Nat) : nxt l k ≤ k + 2 := by unfold nxt; split <;> omega
def nextOf (l : List Ins) (i : Int) : Int := if i < 0 ∨ (l.length : Int) ≤ i then -1 else (nxt l i.toNat : Int)
/-- Where instructions begin; one place is left out behind each that is wide. -/
def sts : Bool → List Ins → List Bool
  | _, [] => []
  | true, _ :: l => false :: sts false l
  | false, x :: l => true :: sts (x.op == 24) l
def stAt (l : List Ins) (k : Nat) : Bool := (sts false l).getD k false
/-- Where a Jump or Branch at a place goes. -/
def jumpy (x : Ins) : Bool := (wOf x).kind == 9 || (wOf x).kind == 10
def farOf (x : Ins) : Int := if x.op == 6 then x.imm else x.off
def toOf (x : Ins) (i : Int) : Int := if jumpy x then i + 1 + farOf x else 0
def inL (l : List Ins) (i : Int) : Bool := decide (0 ≤ i) && decide (i < (l.length : Int))
def tgOk (l : List Ins) (i : Int) : Bool := inL l i && jumpy (iAt l i.toNat) && inL l (toOf (iAt l i.toNat) i)
def tgOf (l : List Ins) (i : Int) : Int := if tgOk l i then toOf (iAt l i.toNat) i else 0
/-- Is what is behind a place the other half of what is there? -/
def halfB (l : List Ins) (k : Nat) : Bool :=
  if (wOf (iAt l k)).kind == 3 || (wOf (iAt l k)).kind == 4 then
    decide (k + 1 < l.length) && ((iAt l (k + 1)).op == 0 && (iAt l (k + 1)).dst == 0 && (iAt l (k + 1)).src == 0 && (iAt l (k + 1)).off == 0 && ((wOf (iAt l k)).kind == 3 || (iAt l (k + 1)).imm == 0))
  else true
/-- The first place, of those where one begins, at which something is wrong. -/
def fb (l : List Ins) (P : Nat → Bool) (k : Nat) : Option Nat :=
  if h : k < l.length then (if P k then some k else fb l P (nxt l k)) else none
  termination_by l.length - k
  decreasing_by have := nxt_lt l k; omega
theorem fb_in {l : List Ins} {P : Nat → Bool} {k : Nat} (h : k < l.length) : fb l P k = if P k then some k else fb l P (nxt l k) := by rw [fb, dif_pos h]
theorem fb_out {l : List Ins} {P : Nat → Bool} {k : Nat} (h : ¬ k < l.length) : fb l P k = none := by rw [fb, dif_neg h]
/-- The last place where one begins. -/
def lst (l : List Ins) (k d : Nat) : Nat :=
  if h : k < l.length then lst l (nxt l k) k else d
  termination_by l.length - k
  decreasing_by have := nxt_lt l k; omega
theorem lst_in {l : List Ins} {k d : Nat} (h : k < l.length) : lst l k d = lst l (nxt l k) k := by rw [lst, dif_pos h]
theorem lst_out {l : List Ins} {k d : Nat} (h : ¬ k < l.length) : lst l k d = d := by rw [lst, dif_neg h]
def bad1 (l : List Ins) (k : Nat) : Bool := !(wOk (iAt l k)) || !(halfB l k)
def bad2 (l : List Ins) (k : Nat) : Bool := jumpy (iAt l k) && !(inL l (toOf (iAt l k) k) && stAt l (toOf (iAt l k) k).toNat)
def ends (x : Ins) : Bool := (wOf x).kind == 12 || (wOf x).kind == 9
/-- Where, and why, a row is no program. -/
def chk (l : List Ins) : Int × Int :=
  if l.length = 0 ∨ 512 < l.length then (0, 70)
  else match fb l (bad1 l) 0 with
  | some k => (k, 71)
  | none => match fb l (bad2 l) 0 with
    | some k => (k, 72)
    | none => if ends (iAt l (lst l 0 0)) then (0, 0) else (lst l 0 0, 73)

end Go.Proofs.YtfniahmfoigceaaGreat

namespace Go.Proofs.YtfniahmfoigceaaGreat
open Go Go.RowKit

/-- 'a | b' of bits that do not meet is the sum: the higher part is a multiple of 2^i, the lower one below 2^i. -/
theorem nat_or_low (i x y : Nat) (hx : x < 2 ^ i) (hy : y % 2 ^ i = 0) : x ||| y = x + y := by
  rw [Nat.or_comm, nat_join i y x hy hx]; omega

/-! Taken from what was put, and put from what was taken: each part by its bytes. -/
end Go.Proofs.YtfniahmfoigceaaGreat
