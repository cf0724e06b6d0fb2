/-
  Texts, one behind the other: Mem1, Tab1.
  Conditions: those that each theorem states.
-/
import Derived.Test.YtlbhffdpklbhfaaGreatPz1
import Derived.Test.YtlbhffdpklbhfaaGreatPz6
import Derived.StringKeys
namespace Go.Proofs.YtlbhffdpklbhfaaGreat
open Go Go.RowKit
open Go.Maps (Keyed)
set_option maxRecDepth 100000
set_option linter.unusedVariables false
set_option linter.unusedSimpArgs false
theorem pIx_ids {M M' : PM} (h : M.map (·.id) = M'.map (·.id)) (i : Int) : pIx M i = pIx M' i := by
  induction M generalizing M' with
  | nil =>
    cases M' with
    | nil => rfl
    | cons _ _ => cases h
  | cons a M ih =>
    cases M' with
    | nil => cases h
    | cons b M' =>
      simp only [List.map_cons, List.cons.injEq] at h
      simp only [pIx, h.1, ih h.2]
theorem pIx_app (M : PM) (a : PA) (i : Int) : pIx (M ++ [a]) i = match pIx M i with | some k => some k | none => if a.id = i then some M.length else none := by
  induction M with
  | nil => simp [pIx]
  | cons b M ih =>
    simp only [List.cons_append, pIx, ih]
    by_cases hb : b.id = i
    · rw [if_pos hb, if_pos hb]
    · rw [if_neg hb, if_neg hb]
      cases pIx M i with
      | some k => rfl
      | none =>
        simp only [Option.map_none, List.length_cons]
        split <;> rfl
def rgV (r : AR) : Value := .agg #[r.vb, r.vk, .bool r.a.fx]
def rgZ : Value := .agg #[.slice none 0 0, .slice none 0 0, .bool false]
def rgF (L : List AR) (i : Int) : Option Value := (pIx (arM L) i).map fun k => rgV (arAt L k)
def mvO : Value → Value
  | .map (some b) => .slice (some ⟨b, 0, none⟩) 0 0
  | _ => .slice none 0 0
def MapR (w : World) (mv : Value) (L : List AR) : Prop := (mv = .map none ∧ L = []) ∨ ∃ b, mv = .map (some b) ∧ MapIs Tryz.prog 3 w b L.length (intM (rgF L))
theorem MapR.same {w w' : World} {mv : Value} {L : List AR} (h : MapR w mv L) (hs : ∀ x, (mvO mv).ownBlock = some x → w'.heap[x]? = w.heap[x]?) : MapR w' mv L := by
  rcases h with h | ⟨b, rfl, h⟩
  · exact .inl h
  · exact .inr ⟨b, rfl, h.same (hs b rfl)⟩
theorem MapR.lt {w : World} {mv : Value} {L : List AR} (h : MapR w mv L) {x : Nat} (hx : (mvO mv).ownBlock = some x) : x < w.heap.size := by
  rcases h with ⟨rfl, _⟩ | ⟨b, rfl, h⟩
  · cases hx
  · cases hx; exact h.lt
theorem MapR.put {w : World} {mv : Value} {L : List AR} (h : MapR w mv L) {k : Nat} (hk : k < L.length) (b : List Int) (bl : List Bool) : MapR w mv (L.set k (arPut (arAt L k) b bl)) := by
  rcases h with ⟨_, rfl⟩ | ⟨c, rfl, h⟩
  · simp at hk
  · refine .inr ⟨c, rfl, ?_⟩
    rw [List.length_set]
    refine h.eq fun kl _ => ?_
    unfold intM
    split
    · rename_i i _
      unfold rgF
      rw [pIx_ids (M' := arM L) (by
        rw [arM_put, List.map_set]
        apply List.ext_getElem?
        intro j
        rw [List.getElem?_set]
        by_cases e : k = j
        · subst e
          rw [if_pos rfl, if_pos (by simp [arM, hk]), List.getElem?_map, pAt_get (by rw [arM_len]; exact hk), arM_at]
          rfl
        · rw [if_neg e])]
      cases hx : pIx (arM L) i with
      | none => rfl
      | some j =>
        simp only [Option.map_some, Option.some.injEq]
        rw [arAt_set hk]
        by_cases e : j = k
        · subst e; rw [if_pos rfl]; rfl
        · rw [if_neg e]
    · rfl
theorem rgF_app (L : List AR) (r : AR) (h : pIx (arM L) r.a.id = none) (i : Int) : rgF (L ++ [r]) i = if i = r.a.id then some (rgV r) else rgF L i := by
  unfold rgF
  have e : arM (L ++ [r]) = arM L ++ [r.a] := by simp [arM]
  rw [e, pIx_app]
  by_cases hi : i = r.a.id
  · subst hi
    rw [h, if_pos rfl, if_pos rfl]
    simp only [Option.map_some, Option.some.injEq]
    rw [arAt_app, arM_len, if_neg (by omega), if_pos rfl]
  · rw [if_neg hi]
    cases hx : pIx (arM L) i with
    | none => simp only; rw [if_neg (fun e => hi e.symm)]; rfl
    | some k =>
      have hk := (pIx_some hx).1
      rw [arM_len] at hk
      simp only [Option.map_some, Option.some.injEq]
      rw [arAt_app, if_pos hk]
theorem mapR_add {w : World} {b n : Nat} {L : List AR} {r : AR} (h : MapIs Tryz.prog 3 w b n (putM (intM (rgF L)) (.int .i64 r.a.id) (some (rgV r)))) (hn : n ≤ L.length + 1) (hx : pIx (arM L) r.a.id = none) : MapR w (.map (some b)) (L ++ [r]) := by
  refine .inr ⟨b, rfl, ?_⟩
  rw [List.length_append, List.length_singleton]
  refine (h.mono hn).eq fun kl _ => ?_
  rw [intM_put]
  unfold intM
  split
  · exact rgF_app L r hx _
  · rfl
theorem MapR.is {w : World} {b : Nat} {L : List AR} (h : MapR w (.map (some b)) L) : MapIs Tryz.prog 3 w b L.length (intM (rgF L)) := by
  rcases h with ⟨h, _⟩ | ⟨c, h, h'⟩
  · cases h
  · cases h; exact h'
theorem intK : Keyed Tryz.prog 3 := Maps.int_keyed Tryz.underlying3
theorem MapR.look {w : World} {mv : Value} {L : List AR} (h : MapR w mv L) (i : Int) (hi : -9223372036854775808 ≤ i ∧ i ≤ 9223372036854775807) :
    (Instr.lookup 154 mv (.int .i64 i) true).run Tryz.prog w = .ok (.tuple #[(rgF L i).getD rgZ, .bool (rgF L i).isSome]) w := by
  have hz : (zeroValue 158).run Tryz.prog w = .ok rgZ w := rfl
  rcases h with ⟨rfl, rfl⟩ | ⟨b, rfl, h⟩
  · exact Maps.look_nil true intK Tryz.underlying154 hz (keyI Tryz.underlying3 i hi)
  · exact h.look intK Tryz.underlying154 hz (keyI Tryz.underlying3 i hi)
structure RepQ (w : World) (g : Nat) (vl : Value) (L : List AR) (F : Nat → Prop) : Prop where
  blk : Blk g #[vl] 156 w
  map : MapR w vl L
  own : ∀ k, k < L.length → AROwn w (arAt L k)
  apart : ∀ p q x, arBlk g (mvO vl) L p = some x → arBlk g (mvO vl) L q = some x → p = q
  foot : ∀ x, F x ↔ ∃ p, arBlk g (mvO vl) L p = some x
  ok : PMok (arM L)
def RepP (w : World) (g : Nat) (M : PM) (F : Nat → Prop) : Prop := ∃ vl L, M = arM L ∧ RepQ w g vl L F
section
variable {w w' : World} {g : Nat} {vl : Value} {L : List AR} {F : Nat → Prop} {M : PM}
theorem RepQ.foot0 (h : RepQ w g vl L F) : F g := (h.foot g).mpr ⟨0, rfl⟩
theorem RepQ.foot1 (h : RepQ w g vl L F) {x : Nat} (hx : (mvO vl).ownBlock = some x) : F x := (h.foot x).mpr ⟨1, hx⟩
theorem RepQ.footB (h : RepQ w g vl L F) {x k : Nat} (hx : (arAt L k).vb.ownBlock = some x) : F x := (h.foot x).mpr ⟨2 * k + 2, (arBlk_b g (mvO vl) L k).trans hx⟩
theorem RepQ.footK (h : RepQ w g vl L F) {x k : Nat} (hx : (arAt L k).vk.ownBlock = some x) : F x := (h.foot x).mpr ⟨2 * k + 3, (arBlk_k g (mvO vl) L k).trans hx⟩
theorem RepQ.lt (h : RepQ w g vl L F) {x : Nat} (hx : F x) : x < w.heap.size := by
  obtain ⟨p, hp⟩ := (h.foot x).mp hx
  rcases arBlk_cases hp with ⟨_, rfl⟩ | ⟨_, hx⟩ | ⟨k, hk, ⟨_, hx⟩ | ⟨_, hx⟩⟩
  · exact Blk.lt h.blk
  · exact h.map.lt hx
  · exact own_lt (h.own k hk).1 hx
  · exact own_lt (h.own k hk).2 hx
theorem RepQ.keep (h : RepQ w g vl L F) (hs : ∀ x, F x → w'.heap[x]? = w.heap[x]?) : RepQ w' g vl L F :=
  ⟨Blk.same h.blk (hs g h.foot0), h.map.same (fun k hk => hs k (h.foot1 hk)), fun k hk => ⟨own_same (h.own k hk).1 (fun x hx => hs x (h.footB hx)), own_same (h.own k hk).2 (fun x hx => hs x (h.footK hx))⟩, h.apart, h.foot, h.ok⟩
theorem RepP.lt (h : RepP w g M F) {x : Nat} (hx : F x) : x < w.heap.size := by
  obtain ⟨vl, L, _, h⟩ := h
  exact h.lt hx
theorem RepP.turn {G : Nat → Prop} (h : RepP w g M F) (k : Turn G w w') (hG : ∀ x, F x → ¬ G x) : RepP w' g M F := by
  obtain ⟨vl, L, e, h⟩ := h
  exact ⟨vl, L, e, h.keep fun x hx => k.block x (h.lt hx) (hG x hx)⟩
theorem RepP.after (h : RepP w g M F) (k : Below w.heap.size w w') : RepP w' g M F := h.turn (Turn.of_below (F := fun _ => False) k) (fun _ _ x => x)
theorem RepP.ok (h : RepP w g M F) : PMok M := by
  obtain ⟨vl, L, rfl, h⟩ := h
  exact h.ok
theorem RepQ.cell (h : RepQ w g vl L F) : w.cell? ⟨g, 0, none⟩ = some vl := Blk.cell h.blk 0
theorem RepQ.setB (h : RepQ w g vl L F) {k j gb n cb : Nat} (hk : k < L.length) (hj : j < (arAt L k).a.b.length) (hvb : (arAt L k).vb = .slice (some ⟨gb, 0, none⟩) n cb) {v : Int} (hv : 0 ≤ v ∧ v ≤ 255) :
    RepQ (w.setCell ⟨gb, j, none⟩ (.int .u8 v)) g vl (L.set k (arPut (arAt L k) ((arAt L k).a.b.set j v) (arAt L k).a.bl)) F ∧ F gb := by
  have hob : (arAt L k).vb.ownBlock = some gb := by rw [hvb]; rfl
  have hF : F gb := h.footB hob
  have hp : arBlk g (mvO vl) L (2 * k + 2) = some gb := (arBlk_b g (mvO vl) L k).trans hob
  have hne : ∀ x p, arBlk g (mvO vl) L p = some x → p ≠ 2 * k + 2 → (w.setCell ⟨gb, j, none⟩ (.int .u8 v)).heap[x]? = w.heap[x]? := fun x p hx hpn =>
    Below.heap_setCell _ _ _ _ (fun e => by
      have e' : x = gb := e
      subst e'
      exact hpn (h.apart _ _ _ hx hp))
  obtain ⟨h1, h2, h3, h4⟩ := h.ok k (by rw [arM_len]; exact hk)
  rw [arM_at] at h1 h2 h3 h4
  refine ⟨⟨Blk.same h.blk (hne g 0 rfl (by omega)), ?_, ?_, fun p q x => ?_, fun x => ?_, ?_⟩, hF⟩
  · exact (h.map.put hk _ _).same (fun x hx => hne x 1 hx (by omega))
  · intro i hi
    rw [List.length_set] at hi
    rw [arAt_set hk]
    by_cases hik : i = k
    · subst hik
      rw [if_pos rfl]
      refine ⟨?_, own_same (h.own i hi).2 (fun x hx => hne x (2 * i + 3) ((arBlk_k g (mvO vl) L i).trans hx) (by omega))⟩
      have ho := (h.own i hi).1
      have e : (arPut (arAt L i) ((arAt L i).a.b.set j v) (arAt L i).a.bl).a.b.length = (arAt L i).a.b.length := by simp [arPut]
      have e2 : byC (arPut (arAt L i) ((arAt L i).a.b.set j v) (arAt L i).a.bl).a.b = (byC (arAt L i).a.b).set j (.int .u8 v) := (byC_set _ _ _).symm
      rw [e, e2]
      show World.ownsRow _ _ _ _ (arAt L i).vb _ _
      rw [hvb] at ho ⊢
      obtain ⟨A, c, hA, _, _⟩ := own_slice ho
      have hn : n = (arAt L i).a.b.length := by injection hA
      rw [← hn] at ho ⊢
      exact (ho.stored j (.int .u8 v)).1
    · rw [if_neg hik]
      exact ⟨own_same (h.own i hi).1 (fun x hx => hne x (2 * i + 2) ((arBlk_b g (mvO vl) L i).trans hx) (by omega)), own_same (h.own i hi).2 (fun x hx => hne x (2 * i + 3) ((arBlk_k g (mvO vl) L i).trans hx) (by omega))⟩
  · rw [arBlk_put hk, arBlk_put hk]; exact h.apart p q x
  · rw [h.foot]; simp only [arBlk_put hk]
  · rw [arM_put]
    intro i hi
    rw [List.length_set] at hi
    rw [pAt_set (by rw [arM_len]; exact hk)]
    split
    · exact ⟨okB_set h1 hj hv, by simp only [List.length_set]; exact h2, by simp only [List.length_set]; exact h3, h4⟩
    · exact h.ok i hi
theorem RepQ.setK (h : RepQ w g vl L F) {k j gk n ck : Nat} (hk : k < L.length) (hvk : (arAt L k).vk = .slice (some ⟨gk, 0, none⟩) n ck) (v : Bool) :
    RepQ (w.setCell ⟨gk, j, none⟩ (.bool v)) g vl (L.set k (arPut (arAt L k) (arAt L k).a.b ((arAt L k).a.bl.set j v))) F ∧ F gk := by
  have hob : (arAt L k).vk.ownBlock = some gk := by rw [hvk]; rfl
  have hF : F gk := h.footK hob
  have hp : arBlk g (mvO vl) L (2 * k + 3) = some gk := (arBlk_k g (mvO vl) L k).trans hob
  have hne : ∀ x p, arBlk g (mvO vl) L p = some x → p ≠ 2 * k + 3 → (w.setCell ⟨gk, j, none⟩ (.bool v)).heap[x]? = w.heap[x]? := fun x p hx hpn =>
    Below.heap_setCell _ _ _ _ (fun e => by
      have e' : x = gk := e
      subst e'
      exact hpn (h.apart _ _ _ hx hp))
  obtain ⟨h1, h2, h3, h4⟩ := h.ok k (by rw [arM_len]; exact hk)
  rw [arM_at] at h1 h2 h3 h4
  refine ⟨⟨Blk.same h.blk (hne g 0 rfl (by omega)), ?_, ?_, fun p q x => ?_, fun x => ?_, ?_⟩, hF⟩
  · exact (h.map.put hk _ _).same (fun x hx => hne x 1 hx (by omega))
  · intro i hi
    rw [List.length_set] at hi
    rw [arAt_set hk]
    by_cases hik : i = k
    · subst hik
      rw [if_pos rfl]
      refine ⟨own_same (h.own i hi).1 (fun x hx => hne x (2 * i + 2) ((arBlk_b g (mvO vl) L i).trans hx) (by omega)), ?_⟩
      have ho := (h.own i hi).2
      have e : (arPut (arAt L i) (arAt L i).a.b ((arAt L i).a.bl.set j v)).a.bl.length = (arAt L i).a.bl.length := by simp [arPut]
      have e2 : boC (arPut (arAt L i) (arAt L i).a.b ((arAt L i).a.bl.set j v)).a.bl = (boC (arAt L i).a.bl).set j (.bool v) := (boC_set _ _ _).symm
      rw [e, e2]
      show World.ownsRow _ _ _ _ (arAt L i).vk _ _
      rw [hvk] at ho ⊢
      obtain ⟨A, c, hA, _, _⟩ := own_slice ho
      have hn : n = (arAt L i).a.bl.length := by injection hA
      rw [← hn] at ho ⊢
      exact (ho.stored j (.bool v)).1
    · rw [if_neg hik]
      exact ⟨own_same (h.own i hi).1 (fun x hx => hne x (2 * i + 2) ((arBlk_b g (mvO vl) L i).trans hx) (by omega)), own_same (h.own i hi).2 (fun x hx => hne x (2 * i + 3) ((arBlk_k g (mvO vl) L i).trans hx) (by omega))⟩
  · rw [arBlk_put hk, arBlk_put hk]; exact h.apart p q x
  · rw [h.foot]; simp only [arBlk_put hk]
  · rw [arM_put]
    intro i hi
    rw [List.length_set] at hi
    rw [pAt_set (by rw [arM_len]; exact hk)]
    split
    · exact ⟨h1, by simp only [List.length_set]; exact h2, h3, h4⟩
    · exact h.ok i hi
theorem RepQ.step {k j gb gk nb cb nk ck : Nat} {b : List Int} {bl : List Bool} (h : RepQ w g vl (L.set k (arPut (arAt L k) b bl)) F) (hk : k < L.length) (hj : j < b.length)
    (hvb : (arAt L k).vb = .slice (some ⟨gb, 0, none⟩) nb cb) (hvk : (arAt L k).vk = .slice (some ⟨gk, 0, none⟩) nk ck) {v : Int} (hv : 0 ≤ v ∧ v ≤ 255) :
    RepQ ((w.setCell ⟨gb, j, none⟩ (.int .u8 v)).setCell ⟨gk, j, none⟩ (.bool false)) g vl (L.set k (arPut (arAt L k) (b.set j v) (bl.set j false))) F ∧ F gb ∧ F gk ∧ g ≠ gb ∧ gk ≠ gb := by
  have hkl : k < (L.set k (arPut (arAt L k) b bl)).length := by rw [List.length_set]; exact hk
  have e : arAt (L.set k (arPut (arAt L k) b bl)) k = arPut (arAt L k) b bl := by rw [arAt_set hk, if_pos rfl]
  have pb : arBlk g (mvO vl) (L.set k (arPut (arAt L k) b bl)) (2 * k + 2) = some gb := by rw [arBlk_put hk, arBlk_b, hvb]; rfl
  have pk : arBlk g (mvO vl) (L.set k (arPut (arAt L k) b bl)) (2 * k + 3) = some gk := by rw [arBlk_put hk, arBlk_k, hvk]; rfl
  obtain ⟨h1, f1⟩ := h.setB (k := k) (j := j) (gb := gb) (n := nb) (cb := cb) hkl (by rw [e]; exact hj) (by rw [e]; exact hvb) hv
  rw [arPut_twice hk, e] at h1
  have e2 : arAt (L.set k (arPut (arAt L k) (b.set j v) bl)) k = arPut (arAt L k) (b.set j v) bl := by rw [arAt_set hk, if_pos rfl]
  have h1' : RepQ (w.setCell ⟨gb, j, none⟩ (.int .u8 v)) g vl (L.set k (arPut (arAt L k) (b.set j v) bl)) F := h1
  obtain ⟨h2, f2⟩ := h1'.setK (k := k) (j := j) (gk := gk) (n := nk) (ck := ck) (by rw [List.length_set]; exact hk) (by rw [e2]; exact hvk) false
  rw [arPut_twice hk, e2] at h2
  refine ⟨h2, f1, f2, fun e => ?_, fun e => ?_⟩
  · have := h.apart 0 (2 * k + 2) g rfl (by rw [e]; exact pb)
    omega
  · have := h.apart (2 * k + 3) (2 * k + 2) gk pk (by rw [e]; exact pb)
    omega
end
theorem RepQ.add {w u : World} {g : Nat} {vl vl' : Value} {L : List AR} {F : Nat → Prop} {r : AR} (h : RepQ w g vl L F)
    (hs : ∀ x, F x → x ≠ g → (mvO vl).ownBlock ≠ some x → u.heap[x]? = w.heap[x]?)
    (hb : Blk g #[vl'] 156 u) (hr : MapR u vl' (L ++ [r])) (ho : AROwn u r)
    (h1 : ∀ x, r.vb.ownBlock = some x → w.heap.size ≤ x) (h2 : ∀ x, r.vk.ownBlock = some x → w.heap.size ≤ x) (h3 : ∀ x, r.vb.ownBlock = some x → r.vk.ownBlock ≠ some x)
    (h4 : (mvO vl').ownBlock = (mvO vl).ownBlock ∨ ∃ y, (mvO vl').ownBlock = some y ∧ w.heap.size ≤ y ∧ r.vb.ownBlock ≠ some y ∧ r.vk.ownBlock ≠ some y) (hok : r.a.ok) :
    ∃ F', RepQ u g vl' (L ++ [r]) F' ∧ ∀ x, F' x → F x ∨ w.heap.size ≤ x := by
  have old : ∀ p x, p ≠ 1 → arBlk g (mvO vl) L p = some x → p < 2 * L.length + 2 := fun p x hp hx => by
    rcases arBlk_cases hx with ⟨h1, _⟩ | ⟨h1, _⟩ | ⟨k, hk, ⟨h1, _⟩ | ⟨h1, _⟩⟩ <;> omega
  have hF : ∀ p x, arBlk g (mvO vl) L p = some x → x < w.heap.size := fun p x hx => h.lt ((h.foot x).mpr ⟨p, hx⟩)
  have h4' : ∀ x, (mvO vl').ownBlock = some x → ((mvO vl).ownBlock = some x) ∨ (w.heap.size ≤ x ∧ r.vb.ownBlock ≠ some x ∧ r.vk.ownBlock ≠ some x) := fun x hx => by
    rcases h4 with h4 | ⟨y, hy, h5⟩
    · exact .inl (by rw [← h4]; exact hx)
    · rw [hy] at hx; cases hx; exact .inr h5
  have f1 : ∀ x, (mvO vl).ownBlock = some x → x < w.heap.size := fun x hx => hF 1 x hx
  refine ⟨fun x => ∃ p, arBlk g (mvO vl') (L ++ [r]) p = some x, ⟨hb, ?_, ?_, ?_, fun x => Iff.rfl, ?_⟩, ?_⟩
  · exact hr
  · intro k hk
    rw [arAt_app]
    by_cases hl : k < L.length
    · rw [if_pos hl]
      have apart : ∀ x p, arBlk g (mvO vl) L p = some x → p ≠ 0 → p ≠ 1 → u.heap[x]? = w.heap[x]? := fun x p hx p0 p1 =>
        hs x ((h.foot x).mpr ⟨p, hx⟩) (fun e => p0 (h.apart p 0 x hx (by rw [e]; rfl))) (fun e => p1 (h.apart p 1 x hx e))
      exact ⟨own_same (h.own k hl).1 (fun x hx => apart x (2 * k + 2) ((arBlk_b g (mvO vl) L k).trans hx) (by omega) (by omega)), own_same (h.own k hl).2 (fun x hx => apart x (2 * k + 3) ((arBlk_k g (mvO vl) L k).trans hx) (by omega) (by omega))⟩
    · have e : k = L.length := by simp at hk; omega
      rw [if_neg hl, if_pos e]
      exact ho
  · intro p q x hp hq
    rcases arBlk_app (vl := mvO vl) hp with ⟨a1, a2⟩ | ⟨a1, a2⟩ | ⟨a1, a2⟩ | ⟨a1, a2⟩ <;> rcases arBlk_app (vl := mvO vl) hq with ⟨b1, b2⟩ | ⟨b1, b2⟩ | ⟨b1, b2⟩ | ⟨b1, b2⟩
    · exact h.apart p q x a2 b2
    · have := hF p x a2
      rcases h4' x b2 with c | ⟨c, _⟩
      · exact absurd (h.apart p 1 x a2 c) a1
      · omega
    · have := hF p x a2; have := h1 x b2; omega
    · have := hF p x a2; have := h2 x b2; omega
    · have := hF q x b2
      rcases h4' x a2 with c | ⟨c, _⟩
      · exact absurd (h.apart q 1 x b2 c) b1
      · omega
    · omega
    · rcases h4' x a2 with c | ⟨_, c, _⟩
      · have := f1 x c; have := h1 x b2; omega
      · exact absurd b2 c
    · rcases h4' x a2 with c | ⟨_, _, c⟩
      · have := f1 x c; have := h2 x b2; omega
      · exact absurd b2 c
    · have := hF q x b2; have := h1 x a2; omega
    · rcases h4' x b2 with c | ⟨_, c, _⟩
      · have := f1 x c; have := h1 x a2; omega
      · exact absurd a2 c
    · omega
    · exact absurd b2 (h3 x a2)
    · have := hF q x b2; have := h2 x a2; omega
    · rcases h4' x b2 with c | ⟨_, _, c⟩
      · have := f1 x c; have := h2 x a2; omega
      · exact absurd a2 c
    · exact absurd a2 (h3 x b2)
    · omega
  · rw [arM_app]
    intro k hk
    rw [pAt_app]
    by_cases hl : k < (arM L).length
    · rw [if_pos hl]; exact h.ok k hl
    · rw [if_neg hl, if_pos (by simp at hk hl ⊢; omega)]
      exact hok
  · rintro x ⟨p, hp⟩
    rcases arBlk_app (vl := mvO vl) hp with ⟨a1, a2⟩ | ⟨a1, a2⟩ | ⟨a1, a2⟩ | ⟨a1, a2⟩
    · exact .inl ((h.foot x).mpr ⟨p, a2⟩)
    · rcases h4' x a2 with c | ⟨c, _⟩
      · exact .inl ((h.foot x).mpr ⟨1, c⟩)
      · exact .inr c
    · exact .inr (h1 x a2)
    · exact .inr (h2 x a2)
def strM (K : List TK) : Lit → Option Value
  | .string s => (K.find? fun x => (strOfNums x.k).toList == s).map fun x => .int .i64 (x.s : Int)
  | _ => none
def kLit (key : List Int) : Lit := .string (strOfNums key).toList
def sV : Option Nat → Option Value
  | none => none
  | some n => some (.int .i64 (n : Int))
theorem find_cong {α : Type} {p q : α → Bool} : ∀ {l : List α}, (∀ x ∈ l, p x = q x) → l.find? p = l.find? q
  | [], _ => rfl
  | a :: r, h => by
    rw [List.find?_cons, List.find?_cons, h a (List.mem_cons_self ..), find_cong (l := r) fun x hx => h x (List.mem_cons_of_mem _ hx)]
theorem str_find {K : List TK} (hK : ∀ x ∈ K, OkB x.k) {key : List Int} (hk : OkB key) : strM K (kLit key) = sV (tFind K key) := by
  unfold strM kLit tFind
  have e : K.find? (fun x => (strOfNums x.k).toList == (strOfNums key).toList) = K.find? (fun x => x.k == key) :=
    find_cong fun x hx => eq_str (hK x hx) hk
  simp only
  rw [e]
  cases K.find? (fun x => x.k == key) <;> rfl
theorem find_skip {α : Type} {p : α → Bool} {A B : List α} {x : α} (h : p x = false) : (A ++ x :: B).find? p = (A ++ B).find? p := by
  rw [List.find?_append, List.find?_append, List.find?_cons, h]
theorem str_put {K : List TK} (hK : ∀ x ∈ K, OkB x.k) {x : TK} (hx : OkB x.k) (hn : tFind K x.k = none) (kl : Lit) : strM (tIns K x) kl = putM (strM K) (kLit x.k) (some (.int .i64 (x.s : Int))) kl := by
  by_cases h : kl = kLit x.k
  · subst h
    rw [putM_same]
    show ((tIns K x).find? fun y => (strOfNums y.k).toList == (strOfNums x.k).toList).map _ = _
    have hs : tIns K x = K.takeWhile (fun y => kLt y.k x.k) ++ x :: K.dropWhile (fun y => kLt y.k x.k) := rfl
    rw [hs, List.find?_append, List.find?_eq_none.2 (fun y hy => ?_), Option.none_or, List.find?_cons]
    · simp
    · have hy' : y ∈ K := (List.takeWhile_sublist _).subset hy
      unfold tFind at hn
      rw [Option.map_eq_none_iff, List.find?_eq_none] at hn
      rw [eq_str (hK y hy') hx]
      exact hn y hy'
  · rw [putM_other h]
    unfold strM
    split
    · rename_i s
      congr 1
      have hs : tIns K x = K.takeWhile (fun y => kLt y.k x.k) ++ x :: K.dropWhile (fun y => kLt y.k x.k) := rfl
      rw [hs, find_skip, List.takeWhile_append_dropWhile]
      unfold kLit at h
      rw [Bool.eq_false_iff]
      intro e
      rw [beq_iff_eq] at e
      exact h (by rw [e])
    · rfl
theorem str_drop {K : List TK} (hK : ∀ x ∈ K, OkB x.k) {key : List Int} (hk : OkB key) (kl : Lit) : strM (leftK K key) kl = putM (strM K) (kLit key) none kl := by
  by_cases h : kl = kLit key
  · subst h
    unfold leftK
    rw [putM_same, str_find (fun x hx => hK x (List.mem_filter.1 hx).1) hk]
    have e : tFind (K.filter fun x => !(x.k == key)) key = none := by
      unfold tFind
      rw [List.find?_eq_none.2]
      · rfl
      · intro x hx
        have := (List.mem_filter.1 hx).2
        simpa using this
    rw [e]
    rfl
  · rw [putM_other h]
    unfold strM
    split
    · rename_i s
      congr 1
      unfold leftK
      rw [List.find?_filter]
      refine find_cong fun x hx => ?_
      by_cases e : x.k = key
      · have : ((strOfNums x.k).toList == s) = false := by
          rw [Bool.eq_false_iff]
          intro e2
          rw [beq_iff_eq] at e2
          exact h (by unfold kLit; rw [← e, e2])
        simp [e]
        rw [← e]
        simpa using this
      · have e2 : (!(x.k == key)) = true := by simp [e]
        rw [e2]
        simp only [true_and]
        cases ((strOfNums x.k).toList == s) <;> rfl
    · rfl
def SlotR (w : World) (mv : Value) (K : List TK) : Prop := (mv = .map none ∧ K = []) ∨ ∃ b, mv = .map (some b) ∧ MapIs Tryz.prog 9 w b K.length (strM K)
theorem SlotR.same {w w' : World} {mv : Value} {K : List TK} (h : SlotR w mv K) (hs : ∀ x, (mvO mv).ownBlock = some x → w'.heap[x]? = w.heap[x]?) : SlotR w' mv K := by
  rcases h with h | ⟨b, rfl, h⟩
  · exact .inl h
  · exact .inr ⟨b, rfl, h.same (hs b rfl)⟩
theorem SlotR.lt {w : World} {mv : Value} {K : List TK} (h : SlotR w mv K) {x : Nat} (hx : (mvO mv).ownBlock = some x) : x < w.heap.size := by
  rcases h with ⟨rfl, _⟩ | ⟨b, rfl, h⟩
  · cases hx
  · cases hx; exact h.lt
theorem SlotR.is {w : World} {b : Nat} {K : List TK} (h : SlotR w (.map (some b)) K) : MapIs Tryz.prog 9 w b K.length (strM K) := by
  rcases h with ⟨h, _⟩ | ⟨c, h, h'⟩
  · cases h
  · cases h; exact h'
theorem strK : Keyed Tryz.prog 9 := Maps.string_keyed Tryz.underlying9
theorem str_size (key : List Int) : (strOfNums key).size = key.length := by
  have := congrArg List.length (strOfNums_data key)
  simpa using this
theorem keyOf_key {key : List Int} (hl : key.length ≤ maxLen) : keyOf Tryz.prog 9 (.string (strOfNums key)) = some (kLit key) := by
  rw [WideMaps.keyOf_string_mk Tryz.underlying9 (by rw [str_size]; exact hl)]
  unfold kLit
  rw [Lib.toList_data]
theorem SlotR.look {w : World} {mv : Value} {K : List TK} (h : SlotR w mv K) (hK : ∀ x ∈ K, OkB x.k) {key : List Int} (hk : OkB key) (hl : key.length ≤ maxLen) :
    (Instr.lookup 115 mv (.string (strOfNums key)) true).run Tryz.prog w = .ok (.tuple #[.int .i64 (((tFind K key).getD 0 : Nat) : Int), .bool (tFind K key).isSome]) w := by
  have hz : (zeroValue 3).run Tryz.prog w = .ok (.int .i64 0) w := rfl
  rcases h with ⟨rfl, rfl⟩ | ⟨b, rfl, h⟩
  · exact Maps.look_nil true strK Tryz.underlying115 hz (keyOf_key hl)
  · rw [h.look strK Tryz.underlying115 hz (keyOf_key hl), str_find hK hk]
    unfold sV
    cases tFind K key <;> rfl
def qBlk (gt : Nat) (vl : Value) (L : List TR) (p : Nat) : Option Nat := if p = 0 then some gt else if p = 1 then vl.ownBlock else (mvO (trAt L (p - 2)).v).ownBlock
theorem qBlk_k (gt : Nat) (vl : Value) (L : List TR) (k : Nat) : qBlk gt vl L (k + 2) = (mvO (trAt L k).v).ownBlock := by
  unfold qBlk
  rw [if_neg (by omega), if_neg (by omega), show k + 2 - 2 = k by omega]
theorem qBlk_cases {gt : Nat} {vl : Value} {L : List TR} {p x : Nat} (h : qBlk gt vl L p = some x) :
    (p = 0 ∧ x = gt) ∨ (p = 1 ∧ vl.ownBlock = some x) ∨ ∃ k, k < L.length ∧ p = k + 2 ∧ (mvO (trAt L k).v).ownBlock = some x := by
  unfold qBlk at h
  by_cases h0 : p = 0
  · rw [if_pos h0] at h; cases h; exact .inl ⟨h0, rfl⟩
  rw [if_neg h0] at h
  by_cases h1 : p = 1
  · rw [if_pos h1] at h; exact .inr (.inl ⟨h1, h⟩)
  rw [if_neg h1] at h
  have hk : p - 2 < L.length := by
    rcases Nat.lt_or_ge (p - 2) L.length with c | c
    · exact c
    · rw [trAt_out c] at h
      cases h
  exact .inr (.inr ⟨p - 2, hk, by omega, h⟩)
structure RepV (w : World) (gt gm : Nat) (vl : Value) (L : List TR) (F : Nat → Prop) : Prop where
  blk : Blk gt #[.pointer (some ⟨gm, 0, none⟩), vl] 114 w
  row : w.ownsRow 0 117 6 vl L.length (trC L)
  own : ∀ k, k < L.length → SlotR w (trAt L k).v (trAt L k).m.L
  apart : ∀ p q x, qBlk gt vl L p = some x → qBlk gt vl L q = some x → p = q
  foot : ∀ x, F x ↔ ∃ p, qBlk gt vl L p = some x
structure TFull (T : TT) : Prop where
  ok : TOk T
  full : ∀ k, k < T.length → (mt T k).d.hash = false → ((mt T k).L.length : Int) = (mt T k).d.max
def RepU (w : World) (gt gm : Nat) (T : TT) (F : Nat → Prop) : Prop := ∃ vl L, T = trM L ∧ RepV w gt gm vl L F ∧ TFull T ∧ ∀ k, k < L.length → (trAt L k).v ≠ .map none
section
variable {w w' u : World} {gt gm : Nat} {vl : Value} {L : List TR} {F : Nat → Prop} {T : TT}
theorem RepV.foot0 (h : RepV w gt gm vl L F) : F gt := (h.foot gt).mpr ⟨0, rfl⟩
theorem RepV.foot1 (h : RepV w gt gm vl L F) {x : Nat} (hx : vl.ownBlock = some x) : F x := (h.foot x).mpr ⟨1, hx⟩
theorem RepV.footK (h : RepV w gt gm vl L F) {x k : Nat} (hx : (mvO (trAt L k).v).ownBlock = some x) : F x := (h.foot x).mpr ⟨k + 2, (qBlk_k gt vl L k).trans hx⟩
theorem RepV.lt (h : RepV w gt gm vl L F) {x : Nat} (hx : F x) : x < w.heap.size := by
  obtain ⟨p, hp⟩ := (h.foot x).mp hx
  rcases qBlk_cases hp with ⟨_, rfl⟩ | ⟨_, hx⟩ | ⟨k, hk, _, hx⟩
  · exact Blk.lt h.blk
  · exact own_lt h.row hx
  · exact (h.own k hk).lt hx
theorem RepV.keep (h : RepV w gt gm vl L F) (hs : ∀ x, F x → w'.heap[x]? = w.heap[x]?) : RepV w' gt gm vl L F :=
  ⟨Blk.same h.blk (hs gt h.foot0), own_same h.row (fun k hk => hs k (h.foot1 hk)), fun k hk => (h.own k hk).same (fun x hx => hs x (h.footK hx)), h.apart, h.foot⟩
theorem RepV.after (h : RepV w gt gm vl L F) (b : Below w.heap.size w u) : RepV u gt gm vl L F := h.keep fun x hx => b.block x (h.lt hx)
theorem RepV.turn {G : Nat → Prop} (h : RepV w gt gm vl L F) (k : Turn G w w') (hG : ∀ x, F x → ¬ G x) : RepV w' gt gm vl L F := h.keep fun x hx => k.block x (h.lt hx) (hG x hx)
theorem RepU.lt (h : RepU w gt gm T F) {x : Nat} (hx : F x) : x < w.heap.size := by
  obtain ⟨vl, L, _, h, _⟩ := h
  exact h.lt hx
theorem RepU.turn {G : Nat → Prop} (h : RepU w gt gm T F) (k : Turn G w w') (hG : ∀ x, F x → ¬ G x) : RepU w' gt gm T F := by
  obtain ⟨vl, L, e, h, r⟩ := h
  exact ⟨vl, L, e, h.turn k hG, r⟩
theorem RepU.after (h : RepU w gt gm T F) (k : Below w.heap.size w w') : RepU w' gt gm T F := h.turn (Turn.of_below (F := fun _ => False) k) (fun _ _ x => x)
theorem RepU.ok (h : RepU w gt gm T F) : TOk T := by
  obtain ⟨vl, L, rfl, _, h, _⟩ := h
  exact h.ok
theorem RepV.cells (h : RepV w gt gm vl L F) : w.cell? ⟨gt, 0, none⟩ = some (.pointer (some ⟨gm, 0, none⟩)) ∧ w.cell? ⟨gt, 1, none⟩ = some vl := ⟨Blk.cell h.blk 0, Blk.cell h.blk 1⟩
theorem RepV.at_ (h : RepV w gt gm vl L F) {k : Nat} (hk : k < L.length) : ∃ gl c, vl = .slice (some ⟨gl, 0, none⟩) L.length c ∧ L.length ≤ c ∧ c ≤ maxLen ∧ gl < w.heap.size ∧
    w.cell? ⟨gl, k * 6, none⟩ = some (.bool (trAt L k).m.d.hash) ∧ w.cell? ⟨gl, k * 6 + 1, none⟩ = some (.int .i64 (trAt L k).m.d.key) ∧ w.cell? ⟨gl, k * 6 + 2, none⟩ = some (.int .i64 (trAt L k).m.d.val) ∧ w.cell? ⟨gl, k * 6 + 3, none⟩ = some (.int .i64 (trAt L k).m.d.max) ∧
    w.cell? ⟨gl, k * 6 + 4, none⟩ = some (trAt L k).v ∧ w.cell? ⟨gl, k * 6 + 5, none⟩ = some (.int .i64 ((trAt L k).m.made : Int)) := by
  obtain ⟨A, c, rfl, k1, k2⟩ := own_slice h.row
  obtain ⟨gl, rfl, _, hg⟩ := own_addr h.row (by omega)
  have hc : ∀ r, r < 6 → w.cell? ⟨gl, k * 6 + r, none⟩ = (cT (trAt L k))[r]? := fun r hr => by
    rw [h.row.cellAt _ (by omega), trC_at L k r hk hr]
  exact ⟨gl, c, rfl, k1, k2, hg, hc 0 (by omega), hc 1 (by omega), hc 2 (by omega), hc 3 (by omega), hc 4 (by omega), hc 5 (by omega)⟩
theorem RepV.put {k : Nat} {r : TR} (h : RepV w gt gm vl L F) (hk : k < L.length) (hs : ∀ x, F x → vl.ownBlock ≠ some x → (mvO (trAt L k).v).ownBlock ≠ some x → u.heap[x]? = w.heap[x]?) (hrow : u.ownsRow 0 117 6 vl L.length (trC (L.set k r))) (hown : SlotR u r.v r.m.L)
    (hnew : r.v = (trAt L k).v ∨ ∀ x, (mvO r.v).ownBlock = some x → w.heap.size ≤ x) : ∃ F', RepV u gt gm vl (L.set k r) F' ∧ ∀ x, F' x → F x ∨ w.heap.size ≤ x := by
  have hlen : (L.set k r).length = L.length := List.length_set
  have hF : ∀ p x, qBlk gt vl L p = some x → x < w.heap.size := fun p x hx => h.lt ((h.foot x).mpr ⟨p, hx⟩)
  have hb : ∀ p x, qBlk gt vl (L.set k r) p = some x → (qBlk gt vl L p = some x) ∨ (p = k + 2 ∧ w.heap.size ≤ x) := fun p x hx => by
    rcases qBlk_cases hx with ⟨h1, h2⟩ | ⟨h1, h2⟩ | ⟨j, hj, h1, h2⟩
    · exact .inl (by rw [h1, h2]; rfl)
    · exact .inl (by rw [h1]; exact h2)
    · rw [trAt_set hk] at h2
      by_cases e : j = k
      · rw [if_pos e] at h2
        rcases hnew with hn | hn
        · rw [hn] at h2; exact .inl (by rw [h1, qBlk_k, e]; exact h2)
        · exact .inr ⟨by omega, hn x h2⟩
      · rw [if_neg e] at h2; exact .inl (by rw [h1, qBlk_k]; exact h2)
  have gne : vl.ownBlock ≠ some gt := fun e => by have := h.apart 1 0 gt e rfl; omega
  have gnk : (mvO (trAt L k).v).ownBlock ≠ some gt := fun e => by have := h.apart (k + 2) 0 gt ((qBlk_k gt vl L k).trans e) rfl; omega
  refine ⟨fun x => ∃ p, qBlk gt vl (L.set k r) p = some x, ⟨Blk.same h.blk (hs gt h.foot0 gne gnk), by rw [hlen]; exact hrow, fun j hj => ?_, fun p q x hp hq => ?_, fun x => Iff.rfl⟩, ?_⟩
  · rw [hlen] at hj
    rw [trAt_set hk]
    by_cases e : j = k
    · rw [if_pos e]; exact hown
    · rw [if_neg e]
      refine (h.own j hj).same (fun x hx => hs x (h.footK hx) (fun e2 => ?_) (fun e2 => ?_))
      · have := h.apart 1 (j + 2) x e2 ((qBlk_k gt vl L j).trans hx)
        omega
      · have := h.apart (k + 2) (j + 2) x ((qBlk_k gt vl L k).trans e2) ((qBlk_k gt vl L j).trans hx)
        omega
  · rcases hb p x hp with a2 | ⟨a1, a2⟩ <;> rcases hb q x hq with b2 | ⟨b1, b2⟩
    · exact h.apart p q x a2 b2
    · have := hF p x a2; omega
    · have := hF q x b2; omega
    · omega
  · rintro x ⟨p, hp⟩
    rcases hb p x hp with a2 | ⟨_, a2⟩
    · exact .inl ((h.foot x).mpr ⟨p, a2⟩)
    · exact .inr a2
end
end Go.Proofs.YtlbhffdpklbhfaaGreat
