/-
  Layer 9's own maps, as they lie in memory: a block with a row of maps, each of which owns its keys.
  Conditions: none.
-/
import Derived.Test.YtempkpfcjonaaaaTabPlain
namespace Go.Proofs.Ytempkpfcjonaaaa
open Go Go.RowKit
set_option maxRecDepth 100000
set_option linter.unusedVariables false
set_option linter.unusedSimpArgs false

/-- A map, and the slice that holds its keys. -/
structure TR where
  m : TM
  v : Value
def TR.zero : TR := ⟨TM.zero, .slice none 0 0⟩
def trAt (L : List TR) (k : Nat) : TR := L.getD k TR.zero
def cK (x : TK) : List Value := [.string (strOfNums x.k), .int .i64 (x.s : Int)]
def kC (L : List TK) : List Value := L.flatMap cK
theorem kC_len (L : List TK) : (kC L).length = L.length * 2 := by
  induction L with
  | nil => rfl
  | cons x l ih =>
    show (cK x ++ kC l).length = _
    rw [List.length_append, ih]
    simp [cK]
    omega
theorem kC_app (a b : List TK) : kC (a ++ b) = kC a ++ kC b := by simp [kC]
def kAt (L : List TK) (k : Nat) : TK := L.getD k TK.zero
theorem kC_at (L : List TK) (k r : Nat) (h : k < L.length) (hr : r < 2) : (kC L)[k * 2 + r]? = (cK (kAt L k))[r]? := by
  induction L generalizing k with
  | nil => simp at h
  | cons x l ih =>
    have e : kC (x :: l) = cK x ++ kC l := rfl
    have hx : (cK x).length = 2 := rfl
    cases k with
    | zero =>
      rw [e, List.getElem?_append_left (by rw [hx]; omega)]
      simp [kAt]
    | succ k =>
      rw [e, List.getElem?_append_right (by rw [hx]; omega), hx]
      have := ih k (by simpa using h)
      rw [show (k + 1) * 2 + r - 2 = k * 2 + r by omega, this]
      simp [kAt]
def cT (r : TR) : List Value := [.bool r.m.d.hash, .int .i64 r.m.d.key, .int .i64 r.m.d.val, .int .i64 r.m.d.max, r.v, .int .i64 (r.m.made : Int)]
def trC (L : List TR) : List Value := L.flatMap cT
theorem trC_len (L : List TR) : (trC L).length = L.length * 6 := by
  induction L with
  | nil => rfl
  | cons x l ih =>
    show (cT x ++ trC l).length = _
    rw [List.length_append, ih]
    simp [cT]
    omega
theorem trC_app (a b : List TR) : trC (a ++ b) = trC a ++ trC b := by simp [trC]
theorem trC_at (L : List TR) (k r : Nat) (h : k < L.length) (hr : r < 6) : (trC L)[k * 6 + r]? = (cT (trAt L k))[r]? := by
  induction L generalizing k with
  | nil => simp at h
  | cons x l ih =>
    have e : trC (x :: l) = cT x ++ trC l := rfl
    have hx : (cT x).length = 6 := rfl
    cases k with
    | zero =>
      rw [e, List.getElem?_append_left (by rw [hx]; omega)]
      simp [trAt]
    | succ k =>
      rw [e, List.getElem?_append_right (by rw [hx]; omega), hx]
      have := ih k (by simpa using h)
      rw [show (k + 1) * 6 + r - 6 = k * 6 + r by omega, this]
      simp [trAt]
def trM (L : List TR) : TT := L.map (·.m)
theorem trM_len (L : List TR) : (trM L).length = L.length := by simp [trM]
theorem trM_at (L : List TR) (k : Nat) : mt (trM L) k = (trAt L k).m := by
  unfold mt trM trAt
  rw [List.getD_eq_getElem?_getD, List.getD_eq_getElem?_getD, List.getElem?_map]
  cases L[k]? <;> rfl
theorem trAt_out {L : List TR} {k : Nat} (h : L.length ≤ k) : trAt L k = TR.zero := by
  unfold trAt
  rw [List.getD_eq_getElem?_getD, List.getElem?_eq_none h]
  rfl
theorem trAt_set {L : List TR} {k : Nat} (hk : k < L.length) (r : TR) (j : Nat) : trAt (L.set k r) j = if j = k then r else trAt L j := by
  unfold trAt
  rw [List.getD_eq_getElem?_getD, List.getD_eq_getElem?_getD, List.getElem?_set]
  by_cases h : k = j
  · subst h
    rw [if_pos rfl, if_pos hk, if_pos rfl]
    rfl
  · rw [if_neg h, if_neg (fun e => h e.symm)]
theorem trAt_app {L : List TR} {r : TR} {k : Nat} : trAt (L ++ [r]) k = if k < L.length then trAt L k else if k = L.length then r else TR.zero := by
  unfold trAt
  rw [List.getD_eq_getElem?_getD, List.getD_eq_getElem?_getD, List.getElem?_append]
  split
  · rfl
  · rename_i h
    by_cases h2 : k = L.length
    · rw [if_pos h2, h2, Nat.sub_self]; rfl
    · rw [if_neg h2, List.getElem?_eq_none (by simp; omega)]; rfl
/-- Its blocks, by place: its own, the row's, those of each map's keys. -/
def trBlk (gt : Nat) (vl : Value) (L : List TR) (p : Nat) : Option Nat := if p = 0 then some gt else if p = 1 then vl.ownBlock else (trAt L (p - 2)).v.ownBlock
theorem trBlk_k (gt : Nat) (vl : Value) (L : List TR) (k : Nat) : trBlk gt vl L (k + 2) = (trAt L k).v.ownBlock := by
  unfold trBlk
  rw [if_neg (by omega), if_neg (by omega), show k + 2 - 2 = k by omega]
theorem trBlk_cases {gt : Nat} {vl : Value} {L : List TR} {p x : Nat} (h : trBlk gt vl L p = some x) :
    (p = 0 ∧ x = gt) ∨ (p = 1 ∧ vl.ownBlock = some x) ∨ ∃ k, k < L.length ∧ p = k + 2 ∧ (trAt L k).v.ownBlock = some x := by
  unfold trBlk at h
  by_cases h0 : p = 0
  · rw [if_pos h0] at h; cases h; exact .inl ⟨h0, rfl⟩
  rw [if_neg h0] at h
  by_cases h1 : p = 1
  · rw [if_pos h1] at h; exact .inr (.inl ⟨h1, h⟩)
  rw [if_neg h1] at h
  have hk : p - 2 < L.length := by
    rcases Nat.lt_or_ge (p - 2) L.length with c | c
    · exact c
    · rw [trAt_out c] at h
      cases h
  exact .inr (.inr ⟨p - 2, hk, by omega, h⟩)
def KOwn (w : World) (v : Value) (L : List TK) : Prop := w.ownsRow 0 88 2 v L.length (kC L)
structure RepT (w : World) (gt g2 : Nat) (vl : Value) (L : List TR) (F : Nat → Prop) : Prop where
  blk : Blk gt #[.pointer (some ⟨g2, 0, none⟩), vl] 82 w
  row : w.ownsRow 0 85 6 vl L.length (trC L)
  own : ∀ k, k < L.length → KOwn w (trAt L k).v (trAt L k).m.L
  apart : ∀ p q x, trBlk gt vl L p = some x → trBlk gt vl L q = some x → p = q
  foot : ∀ x, F x ↔ ∃ p, trBlk gt vl L p = some x
  ok : TOk (trM L)
/-- A block that holds maps. -/
def RepS (w : World) (gt g2 : Nat) (T : TT) (F : Nat → Prop) : Prop := ∃ vl L, T = trM L ∧ RepT w gt g2 vl L F
section
variable {w w' u : World} {gt g2 : Nat} {vl : Value} {L : List TR} {F : Nat → Prop} {T : TT}
theorem RepT.foot0 (h : RepT w gt g2 vl L F) : F gt := (h.foot gt).mpr ⟨0, rfl⟩
theorem RepT.foot1 (h : RepT w gt g2 vl L F) {x : Nat} (hx : vl.ownBlock = some x) : F x := (h.foot x).mpr ⟨1, hx⟩
theorem RepT.footK (h : RepT w gt g2 vl L F) {x k : Nat} (hx : (trAt L k).v.ownBlock = some x) : F x := (h.foot x).mpr ⟨k + 2, (trBlk_k gt vl L k).trans hx⟩
theorem RepT.lt (h : RepT w gt g2 vl L F) {x : Nat} (hx : F x) : x < w.heap.size := by
  obtain ⟨p, hp⟩ := (h.foot x).mp hx
  rcases trBlk_cases hp with ⟨_, rfl⟩ | ⟨_, hx⟩ | ⟨k, hk, _, hx⟩
  · exact Blk.lt h.blk
  · exact own_lt h.row hx
  · exact own_lt (h.own k hk) hx
theorem RepT.keep (h : RepT w gt g2 vl L F) (hs : ∀ x, F x → w'.heap[x]? = w.heap[x]?) : RepT w' gt g2 vl L F :=
  ⟨Blk.same h.blk (hs gt h.foot0), own_same h.row (fun k hk => hs k (h.foot1 hk)), fun k hk => own_same (h.own k hk) (fun x hx => hs x (h.footK hx)), h.apart, h.foot, h.ok⟩
theorem RepT.after (h : RepT w gt g2 vl L F) (b : Below w.heap.size w u) : RepT u gt g2 vl L F := h.keep fun x hx => b.block x (h.lt hx)
theorem RepS.lt (h : RepS w gt g2 T F) {x : Nat} (hx : F x) : x < w.heap.size := by
  obtain ⟨vl, L, _, h⟩ := h
  exact h.lt hx
theorem RepS.turn {G : Nat → Prop} (h : RepS w gt g2 T F) (k : Turn G w w') (hG : ∀ x, F x → ¬ G x) : RepS w' gt g2 T F := by
  obtain ⟨vl, L, e, h⟩ := h
  exact ⟨vl, L, e, h.keep fun x hx => k.block x (h.lt hx) (hG x hx)⟩
theorem RepS.after (h : RepS w gt g2 T F) (k : Below w.heap.size w w') : RepS w' gt g2 T F := h.turn (Turn.of_below (F := fun _ => False) k) (fun _ _ x => x)
theorem RepS.ok (h : RepS w gt g2 T F) : TOk T := by
  obtain ⟨vl, L, rfl, h⟩ := h
  exact h.ok
theorem RepT.cells (h : RepT w gt g2 vl L F) : w.cell? ⟨gt, 0, none⟩ = some (.pointer (some ⟨g2, 0, none⟩)) ∧ w.cell? ⟨gt, 1, none⟩ = some vl := ⟨Blk.cell h.blk 0, Blk.cell h.blk 1⟩
/-- A map in the row. -/
theorem RepT.at_ (h : RepT w gt g2 vl L F) {k : Nat} (hk : k < L.length) : ∃ gl c, vl = .slice (some ⟨gl, 0, none⟩) L.length c ∧ L.length ≤ c ∧ c ≤ maxLen ∧ gl < w.heap.size ∧
    w.cell? ⟨gl, k * 6, none⟩ = some (.bool (trAt L k).m.d.hash) ∧ w.cell? ⟨gl, k * 6 + 1, none⟩ = some (.int .i64 (trAt L k).m.d.key) ∧ w.cell? ⟨gl, k * 6 + 2, none⟩ = some (.int .i64 (trAt L k).m.d.val) ∧ w.cell? ⟨gl, k * 6 + 3, none⟩ = some (.int .i64 (trAt L k).m.d.max) ∧
    w.cell? ⟨gl, k * 6 + 4, none⟩ = some (trAt L k).v ∧ w.cell? ⟨gl, k * 6 + 5, none⟩ = some (.int .i64 ((trAt L k).m.made : Int)) := by
  obtain ⟨A, c, rfl, k1, k2⟩ := own_slice h.row
  obtain ⟨gl, rfl, _, hg⟩ := own_addr h.row (by omega)
  have hc : ∀ r, r < 6 → w.cell? ⟨gl, k * 6 + r, none⟩ = (cT (trAt L k))[r]? := fun r hr => by
    rw [h.row.cellAt _ (by omega), trC_at L k r hk hr]
  exact ⟨gl, c, rfl, k1, k2, hg, hc 0 (by omega), hc 1 (by omega), hc 2 (by omega), hc 3 (by omega), hc 4 (by omega), hc 5 (by omega)⟩
/-- A map's keys. -/
theorem RepT.keys (h : RepT w gt g2 vl L F) {k : Nat} (hk : k < L.length) : ∃ A c, (trAt L k).v = .slice A (trAt L k).m.L.length c ∧ (trAt L k).m.L.length ≤ c ∧ c ≤ maxLen ∧ (0 < (trAt L k).m.L.length → ∃ gk, A = some ⟨gk, 0, none⟩ ∧ gk < w.heap.size ∧
    ∀ j, j < (trAt L k).m.L.length → w.cell? ⟨gk, j * 2, none⟩ = some (.string (strOfNums (kAt (trAt L k).m.L j).k)) ∧ w.cell? ⟨gk, j * 2 + 1, none⟩ = some (.int .i64 ((kAt (trAt L k).m.L j).s : Int))) := by
  have ho := h.own k hk
  unfold KOwn at ho
  obtain ⟨A, c, hv, k1, k2⟩ := own_slice ho
  rw [hv] at ho
  refine ⟨A, c, hv, k1, k2, fun hp => ?_⟩
  obtain ⟨gk, rfl, _, hg⟩ := own_addr ho hp
  refine ⟨gk, rfl, hg, fun j hj => ?_⟩
  have hc : ∀ r, r < 2 → w.cell? ⟨gk, j * 2 + r, none⟩ = (cK (kAt (trAt L k).m.L j))[r]? := fun r hr => by
    rw [ho.cellAt _ (by omega), kC_at _ j r hj hr]
  exact ⟨hc 0 (by omega), hc 1 (by omega)⟩
/-- One map has become another one, its keys in a new row. -/
theorem RepT.put {k : Nat} {r : TR} (h : RepT w gt g2 vl L F) (hk : k < L.length) (hs : ∀ x, F x → vl.ownBlock ≠ some x → u.heap[x]? = w.heap[x]?) (hrow : u.ownsRow 0 85 6 vl L.length (trC (L.set k r))) (hown : KOwn u r.v r.m.L)
    (hnew : ∀ x, r.v.ownBlock = some x → w.heap.size ≤ x) (hok : r.m.ok) : ∃ F', RepT u gt g2 vl (L.set k r) F' ∧ ∀ x, F' x → F x ∨ w.heap.size ≤ x := by
  have hlen : (L.set k r).length = L.length := List.length_set
  have hF : ∀ p x, trBlk gt vl L p = some x → x < w.heap.size := fun p x hx => h.lt ((h.foot x).mpr ⟨p, hx⟩)
  have hb : ∀ p x, trBlk gt vl (L.set k r) p = some x → (p ≠ k + 2 ∧ trBlk gt vl L p = some x) ∨ (p = k + 2 ∧ r.v.ownBlock = some x) := fun p x hx => by
    rcases trBlk_cases hx with ⟨h1, h2⟩ | ⟨h1, h2⟩ | ⟨j, hj, h1, h2⟩
    · exact .inl ⟨by omega, by rw [h1, h2]; rfl⟩
    · exact .inl ⟨by omega, by rw [h1]; exact h2⟩
    · rw [trAt_set hk] at h2
      by_cases e : j = k
      · rw [if_pos e] at h2; exact .inr ⟨by omega, h2⟩
      · rw [if_neg e] at h2; exact .inl ⟨by omega, by rw [h1, trBlk_k]; exact h2⟩
  have gne : vl.ownBlock ≠ some gt := fun e => by have := h.apart 1 0 gt e rfl; omega
  refine ⟨fun x => ∃ p, trBlk gt vl (L.set k r) p = some x, ⟨Blk.same h.blk (hs gt h.foot0 gne), by rw [hlen]; exact hrow, fun j hj => ?_, fun p q x hp hq => ?_, fun x => Iff.rfl, fun j hj => ?_⟩, ?_⟩
  · rw [hlen] at hj
    rw [trAt_set hk]
    by_cases e : j = k
    · rw [if_pos e]; exact hown
    · rw [if_neg e]
      refine own_same (h.own j hj) (fun x hx => hs x (h.footK hx) (fun e2 => ?_))
      have := h.apart 1 (j + 2) x e2 ((trBlk_k gt vl L j).trans hx)
      omega
  · rcases hb p x hp with ⟨a1, a2⟩ | ⟨a1, a2⟩ <;> rcases hb q x hq with ⟨b1, b2⟩ | ⟨b1, b2⟩
    · exact h.apart p q x a2 b2
    · have := hF p x a2; have := hnew x b2; omega
    · have := hF q x b2; have := hnew x a2; omega
    · omega
  · rw [trM_len, hlen] at hj
    rw [trM_at, trAt_set hk]
    by_cases e : j = k
    · rw [if_pos e]; exact hok
    · rw [if_neg e, ← trM_at]; exact h.ok j (by rw [trM_len]; exact hj)
  · rintro x ⟨p, hp⟩
    rcases hb p x hp with ⟨_, a2⟩ | ⟨_, a2⟩
    · exact .inl ((h.foot x).mpr ⟨p, a2⟩)
    · exact .inr (hnew x a2)
/-- One map more. -/
theorem RepT.add {vl' : Value} {r : TR} (h : RepT w gt g2 vl L F) (hs : ∀ x, F x → x ≠ gt → vl.ownBlock ≠ some x → u.heap[x]? = w.heap[x]?) (hb : Blk gt #[.pointer (some ⟨g2, 0, none⟩), vl'] 82 u)
    (hrow : u.ownsRow 0 85 6 vl' (L.length + 1) (trC (L ++ [r]))) (hown : KOwn u r.v r.m.L) (h1 : ∀ x, r.v.ownBlock = some x → ¬ F x)
    (h4 : vl'.ownBlock = vl.ownBlock ∨ ∃ y, vl'.ownBlock = some y ∧ ¬ F y ∧ r.v.ownBlock ≠ some y) (hok : r.m.ok) :
    ∃ F', RepT u gt g2 vl' (L ++ [r]) F' ∧ ∀ x, F' x → F x ∨ vl'.ownBlock = some x ∨ r.v.ownBlock = some x := by
  have hc : ∀ p x, trBlk gt vl' (L ++ [r]) p = some x → (p ≠ 1 ∧ p ≠ L.length + 2 ∧ trBlk gt vl L p = some x) ∨ (p = 1 ∧ vl'.ownBlock = some x) ∨ (p = L.length + 2 ∧ r.v.ownBlock = some x) := fun p x hx => by
    rcases trBlk_cases hx with ⟨a1, a2⟩ | ⟨a1, a2⟩ | ⟨j, hj, a1, a2⟩
    · exact .inl ⟨by omega, by omega, by rw [a1, a2]; rfl⟩
    · exact .inr (.inl ⟨a1, a2⟩)
    · rw [trAt_app] at a2
      by_cases hl : j < L.length
      · rw [if_pos hl] at a2; exact .inl ⟨by omega, by omega, by rw [a1, trBlk_k]; exact a2⟩
      · have e : j = L.length := by simp at hj; omega
        rw [if_neg hl, if_pos e] at a2
        exact .inr (.inr ⟨by omega, a2⟩)
  have hF : ∀ p x, trBlk gt vl L p = some x → F x := fun p x hx => (h.foot x).mpr ⟨p, hx⟩
  have h4' : ∀ x, vl'.ownBlock = some x → vl.ownBlock = some x ∨ (¬ F x ∧ r.v.ownBlock ≠ some x) := fun x hx => by
    rcases h4 with h4 | ⟨y, hy, h5⟩
    · exact .inl (by rw [← h4]; exact hx)
    · rw [hy] at hx; cases hx; exact .inr h5
  refine ⟨fun x => ∃ p, trBlk gt vl' (L ++ [r]) p = some x, ⟨hb, by rw [List.length_append, List.length_singleton]; exact hrow, fun j hj => ?_, fun p q x hp hq => ?_, fun x => Iff.rfl, fun j hj => ?_⟩, ?_⟩
  · rw [trAt_app]
    by_cases hl : j < L.length
    · rw [if_pos hl]
      refine own_same (h.own j hl) (fun x hx => hs x (h.footK hx) (fun e => ?_) (fun e => ?_))
      · have := h.apart 0 (j + 2) x (by rw [e]; rfl) ((trBlk_k gt vl L j).trans hx); omega
      · have := h.apart 1 (j + 2) x e ((trBlk_k gt vl L j).trans hx); omega
    · have e : j = L.length := by simp at hj; omega
      rw [if_neg hl, if_pos e]
      exact hown
  · rcases hc p x hp with ⟨a0, a1, a2⟩ | ⟨a1, a2⟩ | ⟨a1, a2⟩ <;> rcases hc q x hq with ⟨b0, b1, b2⟩ | ⟨b1, b2⟩ | ⟨b1, b2⟩
    · exact h.apart p q x a2 b2
    · rcases h4' x b2 with c | ⟨c, _⟩
      · have := h.apart p 1 x a2 c; omega
      · exact absurd (hF p x a2) c
    · exact absurd (hF p x a2) (h1 x b2)
    · rcases h4' x a2 with c | ⟨c, _⟩
      · have := h.apart q 1 x b2 c; omega
      · exact absurd (hF q x b2) c
    · omega
    · rcases h4' x a2 with c | ⟨_, c⟩
      · exact absurd (hF 1 x c) (h1 x b2)
      · exact absurd b2 c
    · exact absurd (hF q x b2) (h1 x a2)
    · rcases h4' x b2 with c | ⟨_, c⟩
      · exact absurd (hF 1 x c) (h1 x a2)
      · exact absurd a2 c
    · omega
  · rw [trM_at, trAt_app]
    by_cases hl : j < L.length
    · rw [if_pos hl, ← trM_at]; exact h.ok j (by rw [trM_len]; exact hl)
    · rw [if_neg hl, if_pos (by rw [trM_len] at hj; simp at hj; omega)]
      exact hok
  · rintro x ⟨p, hp⟩
    rcases hc p x hp with ⟨_, _, a2⟩ | ⟨_, a2⟩ | ⟨_, a2⟩
    · exact .inl (hF p x a2)
    · exact .inr (.inl a2)
    · exact .inr (.inr a2)
end

end Go.Proofs.Ytempkpfcjonaaaa
