/-
  Areas of memory, as slices hold them; what is read, and stored, of bytes. No function is named here.
  Conditions: none.
-/
import Derived.Test.YtempkpfcjonaaaaMemPlain
import Derived.Test.YtempkpfcjonaaaaTurn
namespace Go.Proofs.Ytempkpfcjonaaaa
open Go Go.RowKit
set_option linter.unusedVariables false
set_option linter.unusedSimpArgs false

/-- An area, and the slices that hold it. -/
structure AR where
  a : PA
  vb : Value
  vk : Value
def AR.zero : AR := ⟨PA.zero, .slice none 0 0, .slice none 0 0⟩
def arAt (L : List AR) (k : Nat) : AR := L.getD k AR.zero
def cA (r : AR) : List Value := [.int .i64 r.a.id, r.vb, r.vk, .bool r.a.fx]
def arC (L : List AR) : List Value := L.flatMap cA
theorem arC_len (L : List AR) : (arC L).length = L.length * 4 := by
  induction L with
  | nil => rfl
  | cons x l ih =>
    show (cA x ++ arC l).length = _
    rw [List.length_append, ih]
    simp [cA]
    omega
theorem arC_app (a b : List AR) : arC (a ++ b) = arC a ++ arC b := by simp [arC]
theorem arC_at (L : List AR) (k r : Nat) (h : k < L.length) (hr : r < 4) : (arC L)[k * 4 + r]? = (cA (arAt L k))[r]? := by
  induction L generalizing k with
  | nil => simp at h
  | cons x l ih =>
    have e : arC (x :: l) = cA x ++ arC l := rfl
    have hx : (cA x).length = 4 := rfl
    cases k with
    | zero =>
      rw [e, List.getElem?_append_left (by rw [hx]; omega)]
      simp [arAt]
    | succ k =>
      rw [e, List.getElem?_append_right (by rw [hx]; omega), hx]
      have := ih k (by simpa using h)
      rw [show (k + 1) * 4 + r - 4 = k * 4 + r by omega, this]
      simp [arAt]
def arM (L : List AR) : PM := L.map (·.a)
theorem arM_len (L : List AR) : (arM L).length = L.length := by simp [arM]
theorem arM_at (L : List AR) (k : Nat) : pAt (arM L) k = (arAt L k).a := by
  unfold pAt arM arAt
  rw [List.getD_eq_getElem?_getD, List.getD_eq_getElem?_getD, List.getElem?_map]
  cases L[k]? <;> rfl
/-- Its blocks, by place: its own, the row's, those of each area. -/
def arBlk (g : Nat) (vl : Value) (L : List AR) (p : Nat) : Option Nat :=
  if p = 0 then some g else if p = 1 then vl.ownBlock else if p % 2 = 0 then (arAt L ((p - 2) / 2)).vb.ownBlock else (arAt L ((p - 2) / 2)).vk.ownBlock
/-- What an area owns. -/
def AROwn (w : World) (r : AR) : Prop := w.ownsRow 0 5 1 r.vb r.a.b.length (byC r.a.b) ∧ w.ownsRow 0 4 1 r.vk r.a.bl.length (boC r.a.bl)
theorem arAt_out {L : List AR} {k : Nat} (h : L.length ≤ k) : arAt L k = AR.zero := by
  unfold arAt
  rw [List.getD_eq_getElem?_getD, List.getElem?_eq_none h]
  rfl
theorem arAt_set {L : List AR} {k : Nat} (hk : k < L.length) (r : AR) (j : Nat) : arAt (L.set k r) j = if j = k then r else arAt L j := by
  unfold arAt
  rw [List.getD_eq_getElem?_getD, List.getD_eq_getElem?_getD, List.getElem?_set]
  by_cases h : k = j
  · subst h
    rw [if_pos rfl, if_pos hk, if_pos rfl]
    rfl
  · rw [if_neg h, if_neg (fun e => h e.symm)]
theorem arBlk_b (g : Nat) (vl : Value) (L : List AR) (k : Nat) : arBlk g vl L (2 * k + 2) = (arAt L k).vb.ownBlock := by
  unfold arBlk
  rw [if_neg (by omega), if_neg (by omega), if_pos (by omega), show (2 * k + 2 - 2) / 2 = k by omega]
theorem arBlk_k (g : Nat) (vl : Value) (L : List AR) (k : Nat) : arBlk g vl L (2 * k + 3) = (arAt L k).vk.ownBlock := by
  unfold arBlk
  rw [if_neg (by omega), if_neg (by omega), if_neg (by omega), show (2 * k + 3 - 2) / 2 = k by omega]
theorem arBlk_cases {g : Nat} {vl : Value} {L : List AR} {p x : Nat} (h : arBlk g vl L p = some x) :
    (p = 0 ∧ x = g) ∨ (p = 1 ∧ vl.ownBlock = some x) ∨ ∃ k, k < L.length ∧ ((p = 2 * k + 2 ∧ (arAt L k).vb.ownBlock = some x) ∨ (p = 2 * k + 3 ∧ (arAt L k).vk.ownBlock = some x)) := by
  unfold arBlk at h
  by_cases h0 : p = 0
  · rw [if_pos h0] at h; cases h; exact .inl ⟨h0, rfl⟩
  rw [if_neg h0] at h
  by_cases h1 : p = 1
  · rw [if_pos h1] at h; exact .inr (.inl ⟨h1, h⟩)
  rw [if_neg h1] at h
  have hk : (p - 2) / 2 < L.length := by
    rcases Nat.lt_or_ge ((p - 2) / 2) L.length with c | c
    · exact c
    · rw [arAt_out c] at h
      split at h <;> cases h
  refine .inr (.inr ⟨(p - 2) / 2, hk, ?_⟩)
  by_cases h2 : p % 2 = 0
  · rw [if_pos h2] at h; exact .inl ⟨by omega, h⟩
  · rw [if_neg h2] at h; exact .inr ⟨by omega, h⟩
/-- An area with other bytes, in the same slices. -/
def arPut (r : AR) (b : List Int) (bl : List Bool) : AR := ⟨⟨r.a.id, b, bl, r.a.fx⟩, r.vb, r.vk⟩
theorem arC_put {L : List AR} {k : Nat} (hk : k < L.length) (b : List Int) (bl : List Bool) : arC (L.set k (arPut (arAt L k) b bl)) = arC L := by
  apply List.ext_getElem?
  intro j
  by_cases hj : j < L.length * 4
  · have e1 : j = (j / 4) * 4 + j % 4 := by omega
    have h1 := arC_at (L.set k (arPut (arAt L k) b bl)) (j / 4) (j % 4) (by rw [List.length_set]; omega) (by omega)
    have h2 := arC_at L (j / 4) (j % 4) (by omega) (by omega)
    rw [← e1] at h1 h2
    rw [h1, h2, arAt_set hk]
    by_cases hq : j / 4 = k
    · rw [if_pos hq, hq]; rfl
    · rw [if_neg hq]
  · rw [List.getElem?_eq_none (by rw [arC_len, List.length_set]; omega), List.getElem?_eq_none (by rw [arC_len]; omega)]
theorem arBlk_put {g : Nat} {vl : Value} {L : List AR} {k : Nat} (hk : k < L.length) (b : List Int) (bl : List Bool) (p : Nat) : arBlk g vl (L.set k (arPut (arAt L k) b bl)) p = arBlk g vl L p := by
  have hv : ∀ j, (arAt (L.set k (arPut (arAt L k) b bl)) j).vb = (arAt L j).vb ∧ (arAt (L.set k (arPut (arAt L k) b bl)) j).vk = (arAt L j).vk := fun j => by
    rw [arAt_set hk]
    split
    · rename_i e; rw [e]; exact ⟨rfl, rfl⟩
    · exact ⟨rfl, rfl⟩
  unfold arBlk
  rw [(hv _).1, (hv _).2]
theorem arM_put {L : List AR} {k : Nat} (b : List Int) (bl : List Bool) : arM (L.set k (arPut (arAt L k) b bl)) = (arM L).set k ⟨(arAt L k).a.id, b, bl, (arAt L k).a.fx⟩ := by
  unfold arM
  rw [List.map_set]
  rfl
theorem arPut_self {L : List AR} {k : Nat} (hk : k < L.length) : L.set k (arPut (arAt L k) (arAt L k).a.b (arAt L k).a.bl) = L := by
  have e : arPut (arAt L k) (arAt L k).a.b (arAt L k).a.bl = L[k] := by
    show arAt L k = L[k]
    unfold arAt
    rw [List.getD_eq_getElem?_getD, List.getElem?_eq_getElem hk, Option.getD_some]
  rw [e]
  exact List.set_getElem_self hk
theorem arPut_twice {L : List AR} {k : Nat} (hk : k < L.length) (b b2 : List Int) (bl bl2 : List Bool) :
    (L.set k (arPut (arAt L k) b bl)).set k (arPut (arAt (L.set k (arPut (arAt L k) b bl)) k) b2 bl2) = L.set k (arPut (arAt L k) b2 bl2) := by
  rw [List.set_set, arAt_set hk, if_pos rfl]
  rfl
theorem arAt_app {L : List AR} {r : AR} {k : Nat} : arAt (L ++ [r]) k = if k < L.length then arAt L k else if k = L.length then r else AR.zero := by
  unfold arAt
  rw [List.getD_eq_getElem?_getD, List.getD_eq_getElem?_getD, List.getElem?_append]
  split
  · rfl
  · rename_i h
    by_cases h2 : k = L.length
    · rw [if_pos h2, h2, Nat.sub_self]; rfl
    · rw [if_neg h2, List.getElem?_eq_none (by simp; omega)]; rfl
theorem arBlk_app {g : Nat} {vl vl' : Value} {L : List AR} {r : AR} {p x : Nat} (h : arBlk g vl' (L ++ [r]) p = some x) :
    (p ≠ 1 ∧ arBlk g vl L p = some x) ∨ (p = 1 ∧ vl'.ownBlock = some x) ∨ (p = 2 * L.length + 2 ∧ r.vb.ownBlock = some x) ∨ (p = 2 * L.length + 3 ∧ r.vk.ownBlock = some x) := by
  rcases arBlk_cases h with ⟨h1, h2⟩ | ⟨h1, h2⟩ | ⟨k, hk, ⟨h1, h2⟩ | ⟨h1, h2⟩⟩
  · exact .inl ⟨by omega, by rw [h1, h2]; rfl⟩
  · exact .inr (.inl ⟨h1, h2⟩)
  · rw [arAt_app] at h2
    by_cases hl : k < L.length
    · rw [if_pos hl] at h2
      exact .inl ⟨by omega, by rw [h1, arBlk_b]; exact h2⟩
    · have e : k = L.length := by simp at hk; omega
      rw [if_neg hl, if_pos e] at h2
      exact .inr (.inr (.inl ⟨by omega, h2⟩))
  · rw [arAt_app] at h2
    by_cases hl : k < L.length
    · rw [if_pos hl] at h2
      exact .inl ⟨by omega, by rw [h1, arBlk_k]; exact h2⟩
    · have e : k = L.length := by simp at hk; omega
      rw [if_neg hl, if_pos e] at h2
      exact .inr (.inr (.inr ⟨by omega, h2⟩))
theorem arM_app (L : List AR) (r : AR) : arM (L ++ [r]) = arM L ++ [r.a] := by simp [arM]
/-- Bytes, and an error, are answered. -/
def ByteW (r : List Int × Int) (w : World) (e : Ending) (w' : World) : Prop :=
  ∃ A c, e = .returned (.tuple #[.slice A r.1.length c, .int .i64 r.2]) ∧ BytS w' A r.1 ∧ r.1.length ≤ c ∧ c ≤ maxLen ∧ Below w.heap.size w w'
theorem byteW_none {w w' : World} (n : Int) (h : Below w.heap.size w w') : ByteW ([], n) w (.returned (.tuple #[.slice none 0 0, .int .i64 n])) w' :=
  ⟨none, 0, rfl, BytS.none_ _ _, Nat.le_refl _, Nat.zero_le _, h⟩
theorem blank_all {bl : List Bool} {o s : Nat} : ((bl.drop o).take s).any id = false ↔ ∀ t, o ≤ t → t < o + s → bl.getD t false = false := by
  rw [List.any_eq_false]
  constructor
  · intro h t h1 h2
    by_cases ht : t < bl.length
    · have e : bl.getD t false = bl[t] := by rw [List.getD_eq_getElem?_getD, List.getElem?_eq_getElem ht]; rfl
      rw [e]
      have := h bl[t] (List.mem_of_getElem? (i := t - o) (by rw [List.getElem?_take, if_pos (by omega), List.getElem?_drop, show o + (t - o) = t by omega, List.getElem?_eq_getElem ht]))
      simpa using this
    · rw [List.getD_eq_getElem?_getD, List.getElem?_eq_none (by omega)]; rfl
  · intro h x hx
    obtain ⟨i, hi, rfl⟩ := List.mem_iff_getElem.mp hx
    simp only [List.length_take, List.length_drop] at hi
    have := h (o + i) (by omega) (by omega)
    rw [List.getD_eq_getElem?_getD, List.getElem?_eq_getElem (by omega)] at this
    simp only [List.getElem_take, List.getElem_drop]
    simpa using this
theorem blank_some {bl : List Bool} {o s t : Nat} (h1 : o ≤ t) (h2 : t < o + s) (h3 : bl.getD t false = true) : ((bl.drop o).take s).any id = true := by
  cases h : ((bl.drop o).take s).any id
  · have := blank_all.mp h t h1 h2
    rw [h3] at this
    cases this
  · rfl
theorem cut_at (b : List Int) (o s k : Nat) (h : o + s ≤ b.length) (hk : k < s) : bAt ((b.drop o).take s) k = bAt b (o + k) := by
  unfold bAt
  rw [List.getD_eq_getElem?_getD, List.getD_eq_getElem?_getD, List.getElem?_take, if_pos hk, List.getElem?_drop]
theorem cut_len (b : List Int) (o s : Nat) (h : o + s ≤ b.length) : ((b.drop o).take s).length = s := by simp; omega

theorem own_form {w : World} {base size n c : Nat} {e : TypeId} {a : Addr} {xs : List Value} (h : w.ownsRow base e size (.slice (some a) n c) n xs) : ∃ g, a = ⟨g, 0, none⟩ := by
  rcases h.2 with ⟨h, _⟩ | ⟨g, cap, cur, h, _⟩
  · simp at h
  · simp only [Value.slice.injEq, Option.some.injEq] at h
    exact ⟨g, h.1⟩
theorem cell_alloc {w : World} {p : Addr} {v : Value} (h : w.cell? p = some v) (o : Obj) : (w.alloc o).cell? p = some v :=
  (Below.cell (below_alloc (Below.refl _ _) o) (World.block_lt_of_cell? w p h)).trans h

theorem leN_lt {l : List Int} (h : OkB l) : 0 ≤ leN l ∧ leN l < 256 ^ l.length := by
  induction l with
  | nil => simp [leN]
  | cons x l ih =>
    have hx : 0 ≤ x ∧ x ≤ 255 := by have := h 0 (by simp); simpa [bAt] using this
    have hl : OkB l := fun j hj => by have := h (j + 1) (by simpa using hj); simpa [bAt] using this
    obtain ⟨h1, h2⟩ := ih hl
    show 0 ≤ x + 256 * leN l ∧ x + 256 * leN l < 256 ^ (l.length + 1)
    rw [Int.pow_succ]
    omega
theorem okB_drop {l : List Int} (h : OkB l) (k : Nat) : OkB (l.drop k) := fun j hj => by
  rw [List.length_drop] at hj
  have := h (k + j) (by omega)
  unfold bAt at *
  rw [List.getD_eq_getElem?_getD] at *
  rw [List.getElem?_drop]
  exact this
theorem okB_take {l : List Int} (h : OkB l) (k : Nat) : OkB (l.take k) := fun j hj => by
  rw [List.length_take] at hj
  have := h j (by omega)
  unfold bAt at *
  rw [List.getD_eq_getElem?_getD] at *
  rw [List.getElem?_take, if_pos (by omega)]
  exact this
theorem leN_small {l : List Int} (h : OkB l) (hl : l.length ≤ 7) : 0 ≤ leN l ∧ leN l ≤ 72057594037927935 := by
  obtain ⟨h1, h2⟩ := leN_lt h
  have : (256 : Int) ^ l.length ≤ 256 ^ 7 := by
    have := Nat.pow_le_pow_right (n := 256) (by omega) hl
    have e : ∀ n : Nat, (256 : Int) ^ n = ((256 ^ n : Nat) : Int) := fun n => by simp
    rw [e, e]
    omega
  omega
theorem leN_drop {l : List Int} {j : Nat} (h : j < l.length) : leN (l.drop j) = bAt l j + 256 * leN (l.drop (j + 1)) := by
  rw [List.drop_eq_getElem_cons h]
  unfold bAt
  rw [List.getD_eq_getElem?_getD, List.getElem?_eq_getElem h]
  rfl
theorem pRead_len {M : PM} {at_ s : Int} (h : (pRead M at_ s).2 = 0) : 0 ≤ s ∧ s ≤ 1024 ∧ (pRead M at_ s).1.length = s.toNat := by
  unfold pRead at h ⊢
  split at h
  · simp at h
  · rename_i hs
    rw [if_neg hs]
    cases hw : pWh M at_ s with
    | none => rw [hw] at h; simp at h
    | some p =>
      obtain ⟨k, o⟩ := p
      rw [hw] at h
      simp only at h ⊢
      obtain ⟨_, _, _, hf, _⟩ := pWh_some hw
      split at h
      · simp at h
      · rename_i hb
        rw [if_neg hb]
        refine ⟨by omega, by omega, cut_len _ _ _ (hf (by omega))⟩
theorem pRead_ok {M : PM} (hM : PMok M) (at_ s : Int) : OkB (pRead M at_ s).1 := by
  unfold pRead
  split
  · intro j hj; simp at hj
  · cases hw : pWh M at_ s with
    | none => intro j hj; simp at hj
    | some p =>
      obtain ⟨k, o⟩ := p
      simp only
      split
      · intro j hj; simp at hj
      · exact okB_take (okB_drop (hM k (pWh_some hw).2.1).1 o) _

/-- Memory has become another one, and one answer is told. -/
def MemW (R : World → Nat → PM → (Nat → Prop) → Prop) (g : Nat) (F : Nat → Prop) (M : PM) (v : Value) (w : World) (e : Ending) (w' : World) : Prop :=
  e = .returned v ∧ ∃ F', R w' g M F' ∧ Turn F w w' ∧ ∀ x, F' x → F x ∨ w.heap.size ≤ x
theorem leB_succ (n : Int) (k : Nat) : leB n (k + 1) = n % 256 :: leB (n / 256) k := rfl
theorem putN_cons {α : Type} (b : List α) (o : Nat) (x : α) (l : List α) : putN b o (x :: l) = putN (b.set o x) (o + 1) l := rfl


end Go.Proofs.Ytempkpfcjonaaaa
