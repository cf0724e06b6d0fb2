/-
  Layer 8's own memory, as it lies in memory: a block with a row of areas, each of which owns its bytes.
  Conditions: none.
-/
import Derived.Test.YtempkpfcjonaaaaAreas
namespace Go.Proofs.Ytempkpfcjonaaaa
open Go Go.RowKit
set_option linter.unusedVariables false
set_option linter.unusedSimpArgs false

structure RepA (w : World) (g : Nat) (vl : Value) (L : List AR) (F : Nat → Prop) : Prop where
  blk : Blk g #[vl] 30 w
  row : w.ownsRow 0 101 4 vl L.length (arC L)
  own : ∀ k, k < L.length → AROwn w (arAt L k)
  apart : ∀ p q x, arBlk g vl L p = some x → arBlk g vl L q = some x → p = q
  foot : ∀ x, F x ↔ ∃ p, arBlk g vl L p = some x
  ok : PMok (arM L)
/-- A block that holds memory. -/
def RepR (w : World) (g : Nat) (M : PM) (F : Nat → Prop) : Prop := ∃ vl L, M = arM L ∧ RepA w g vl L F
section
variable {w w' : World} {g : Nat} {vl : Value} {L : List AR} {F : Nat → Prop} {M : PM}
theorem RepA.foot0 (h : RepA w g vl L F) : F g := (h.foot g).mpr ⟨0, rfl⟩
theorem RepA.foot1 (h : RepA w g vl L F) {x : Nat} (hx : vl.ownBlock = some x) : F x := (h.foot x).mpr ⟨1, hx⟩
theorem RepA.footB (h : RepA w g vl L F) {x k : Nat} (hx : (arAt L k).vb.ownBlock = some x) : F x := (h.foot x).mpr ⟨2 * k + 2, (arBlk_b g vl L k).trans hx⟩
theorem RepA.footK (h : RepA w g vl L F) {x k : Nat} (hx : (arAt L k).vk.ownBlock = some x) : F x := (h.foot x).mpr ⟨2 * k + 3, (arBlk_k g vl L k).trans hx⟩
theorem RepA.lt (h : RepA w g vl L F) {x : Nat} (hx : F x) : x < w.heap.size := by
  obtain ⟨p, hp⟩ := (h.foot x).mp hx
  rcases arBlk_cases hp with ⟨_, rfl⟩ | ⟨_, hx⟩ | ⟨k, hk, ⟨_, hx⟩ | ⟨_, hx⟩⟩
  · exact Blk.lt h.blk
  · exact own_lt h.row hx
  · exact own_lt (h.own k hk).1 hx
  · exact own_lt (h.own k hk).2 hx
theorem RepA.keep (h : RepA w g vl L F) (hs : ∀ x, F x → w'.heap[x]? = w.heap[x]?) : RepA w' g vl L F :=
  ⟨Blk.same h.blk (hs g h.foot0), own_same h.row (fun k hk => hs k (h.foot1 hk)), fun k hk => ⟨own_same (h.own k hk).1 (fun x hx => hs x (h.footB hx)), own_same (h.own k hk).2 (fun x hx => hs x (h.footK hx))⟩, h.apart, h.foot, h.ok⟩
theorem RepR.lt (h : RepR w g M F) {x : Nat} (hx : F x) : x < w.heap.size := by
  obtain ⟨vl, L, _, h⟩ := h
  exact h.lt hx
theorem RepR.turn {G : Nat → Prop} (h : RepR w g M F) (k : Turn G w w') (hG : ∀ x, F x → ¬ G x) : RepR w' g M F := by
  obtain ⟨vl, L, e, h⟩ := h
  exact ⟨vl, L, e, h.keep fun x hx => k.block x (h.lt hx) (hG x hx)⟩
theorem RepR.after (h : RepR w g M F) (k : Below w.heap.size w w') : RepR w' g M F := h.turn (Turn.of_below (F := fun _ => False) k) (fun _ _ x => x)
theorem RepR.ok (h : RepR w g M F) : PMok M := by
  obtain ⟨vl, L, rfl, h⟩ := h
  exact h.ok
theorem RepA.cell (h : RepA w g vl L F) : w.cell? ⟨g, 0, none⟩ = some vl := Blk.cell h.blk 0
/-- The row of areas. -/
theorem RepA.rows (h : RepA w g vl L F) : ∃ A c, vl = .slice A L.length c ∧ L.length ≤ c ∧ c ≤ maxLen ∧ (0 < L.length → ∃ gl, A = some ⟨gl, 0, none⟩ ∧ gl < w.heap.size ∧
    ∀ k, k < L.length → w.cell? ⟨gl, k * 4, none⟩ = some (.int .i64 (arAt L k).a.id) ∧ w.cell? ⟨gl, k * 4 + 1, none⟩ = some (arAt L k).vb ∧ w.cell? ⟨gl, k * 4 + 2, none⟩ = some (arAt L k).vk ∧ w.cell? ⟨gl, k * 4 + 3, none⟩ = some (.bool (arAt L k).a.fx)) := by
  obtain ⟨A, c, rfl, k1, k2⟩ := own_slice h.row
  refine ⟨A, c, rfl, k1, k2, fun hp => ?_⟩
  obtain ⟨gl, rfl, _, hg⟩ := own_addr h.row hp
  refine ⟨gl, rfl, hg, fun k hk => ?_⟩
  have hc : ∀ r, r < 4 → w.cell? ⟨gl, k * 4 + r, none⟩ = (cA (arAt L k))[r]? := fun r hr => by
    rw [h.row.cellAt _ (by omega), arC_at L k r hk hr]
  exact ⟨hc 0 (by omega), hc 1 (by omega), hc 2 (by omega), hc 3 (by omega)⟩
/-- One byte is stored. -/
theorem RepA.setB (h : RepA w g vl L F) {k j gb n cb : Nat} (hk : k < L.length) (hj : j < (arAt L k).a.b.length) (hvb : (arAt L k).vb = .slice (some ⟨gb, 0, none⟩) n cb) {v : Int} (hv : 0 ≤ v ∧ v ≤ 255) :
    RepA (w.setCell ⟨gb, j, none⟩ (.int .u8 v)) g vl (L.set k (arPut (arAt L k) ((arAt L k).a.b.set j v) (arAt L k).a.bl)) F ∧ F gb := by
  have hob : (arAt L k).vb.ownBlock = some gb := by rw [hvb]; rfl
  have hF : F gb := h.footB hob
  have hp : arBlk g vl L (2 * k + 2) = some gb := (arBlk_b g vl L k).trans hob
  have hne : ∀ x p, arBlk g vl L p = some x → p ≠ 2 * k + 2 → (w.setCell ⟨gb, j, none⟩ (.int .u8 v)).heap[x]? = w.heap[x]? := fun x p hx hpn =>
    Below.heap_setCell _ _ _ _ (fun e => by
      have e' : x = gb := e
      subst e'
      exact hpn (h.apart _ _ _ hx hp))
  obtain ⟨h1, h2, h3, h4⟩ := h.ok k (by rw [arM_len]; exact hk)
  rw [arM_at] at h1 h2 h3 h4
  refine ⟨⟨Blk.same h.blk (hne g 0 rfl (by omega)), ?_, ?_, fun p q x => ?_, fun x => ?_, ?_⟩, hF⟩
  · rw [arC_put hk, List.length_set]
    exact own_same h.row (fun x hx => hne x 1 hx (by omega))
  · intro i hi
    rw [List.length_set] at hi
    rw [arAt_set hk]
    by_cases hik : i = k
    · subst hik
      rw [if_pos rfl]
      refine ⟨?_, own_same (h.own i hi).2 (fun x hx => hne x (2 * i + 3) ((arBlk_k g vl L i).trans hx) (by omega))⟩
      have ho := (h.own i hi).1
      have e : (arPut (arAt L i) ((arAt L i).a.b.set j v) (arAt L i).a.bl).a.b.length = (arAt L i).a.b.length := by simp [arPut]
      have e2 : byC (arPut (arAt L i) ((arAt L i).a.b.set j v) (arAt L i).a.bl).a.b = (byC (arAt L i).a.b).set j (.int .u8 v) := (byC_set _ _ _).symm
      rw [e, e2]
      show World.ownsRow _ _ _ _ (arAt L i).vb _ _
      rw [hvb] at ho ⊢
      obtain ⟨A, c, hA, _, _⟩ := own_slice ho
      have hn : n = (arAt L i).a.b.length := by injection hA
      rw [← hn] at ho ⊢
      exact (ho.stored j (.int .u8 v)).1
    · rw [if_neg hik]
      exact ⟨own_same (h.own i hi).1 (fun x hx => hne x (2 * i + 2) ((arBlk_b g vl L i).trans hx) (by omega)), own_same (h.own i hi).2 (fun x hx => hne x (2 * i + 3) ((arBlk_k g vl L i).trans hx) (by omega))⟩
  · rw [arBlk_put hk, arBlk_put hk]; exact h.apart p q x
  · rw [h.foot]; simp only [arBlk_put hk]
  · rw [arM_put]
    intro i hi
    rw [List.length_set] at hi
    rw [pAt_set (by rw [arM_len]; exact hk)]
    split
    · exact ⟨okB_set h1 hj hv, by simp only [List.length_set]; exact h2, by simp only [List.length_set]; exact h3, h4⟩
    · exact h.ok i hi
/-- One byte is blank no more. -/
theorem RepA.setK (h : RepA w g vl L F) {k j gk n ck : Nat} (hk : k < L.length) (hvk : (arAt L k).vk = .slice (some ⟨gk, 0, none⟩) n ck) (v : Bool) :
    RepA (w.setCell ⟨gk, j, none⟩ (.bool v)) g vl (L.set k (arPut (arAt L k) (arAt L k).a.b ((arAt L k).a.bl.set j v))) F ∧ F gk := by
  have hob : (arAt L k).vk.ownBlock = some gk := by rw [hvk]; rfl
  have hF : F gk := h.footK hob
  have hp : arBlk g vl L (2 * k + 3) = some gk := (arBlk_k g vl L k).trans hob
  have hne : ∀ x p, arBlk g vl L p = some x → p ≠ 2 * k + 3 → (w.setCell ⟨gk, j, none⟩ (.bool v)).heap[x]? = w.heap[x]? := fun x p hx hpn =>
    Below.heap_setCell _ _ _ _ (fun e => by
      have e' : x = gk := e
      subst e'
      exact hpn (h.apart _ _ _ hx hp))
  obtain ⟨h1, h2, h3, h4⟩ := h.ok k (by rw [arM_len]; exact hk)
  rw [arM_at] at h1 h2 h3 h4
  refine ⟨⟨Blk.same h.blk (hne g 0 rfl (by omega)), ?_, ?_, fun p q x => ?_, fun x => ?_, ?_⟩, hF⟩
  · rw [arC_put hk, List.length_set]
    exact own_same h.row (fun x hx => hne x 1 hx (by omega))
  · intro i hi
    rw [List.length_set] at hi
    rw [arAt_set hk]
    by_cases hik : i = k
    · subst hik
      rw [if_pos rfl]
      refine ⟨own_same (h.own i hi).1 (fun x hx => hne x (2 * i + 2) ((arBlk_b g vl L i).trans hx) (by omega)), ?_⟩
      have ho := (h.own i hi).2
      have e : (arPut (arAt L i) (arAt L i).a.b ((arAt L i).a.bl.set j v)).a.bl.length = (arAt L i).a.bl.length := by simp [arPut]
      have e2 : boC (arPut (arAt L i) (arAt L i).a.b ((arAt L i).a.bl.set j v)).a.bl = (boC (arAt L i).a.bl).set j (.bool v) := (boC_set _ _ _).symm
      rw [e, e2]
      show World.ownsRow _ _ _ _ (arAt L i).vk _ _
      rw [hvk] at ho ⊢
      obtain ⟨A, c, hA, _, _⟩ := own_slice ho
      have hn : n = (arAt L i).a.bl.length := by injection hA
      rw [← hn] at ho ⊢
      exact (ho.stored j (.bool v)).1
    · rw [if_neg hik]
      exact ⟨own_same (h.own i hi).1 (fun x hx => hne x (2 * i + 2) ((arBlk_b g vl L i).trans hx) (by omega)), own_same (h.own i hi).2 (fun x hx => hne x (2 * i + 3) ((arBlk_k g vl L i).trans hx) (by omega))⟩
  · rw [arBlk_put hk, arBlk_put hk]; exact h.apart p q x
  · rw [h.foot]; simp only [arBlk_put hk]
  · rw [arM_put]
    intro i hi
    rw [List.length_set] at hi
    rw [pAt_set (by rw [arM_len]; exact hk)]
    split
    · exact ⟨h1, by simp only [List.length_set]; exact h2, h3, h4⟩
    · exact h.ok i hi
theorem RepA.rowAt {gl n c : Nat} (h : RepA w g (.slice (some ⟨gl, 0, none⟩) n c) L F) {k : Nat} (hk : k < L.length) : n = L.length ∧
    w.cell? ⟨gl, k * 4, none⟩ = some (.int .i64 (arAt L k).a.id) ∧ w.cell? ⟨gl, k * 4 + 1, none⟩ = some (arAt L k).vb ∧ w.cell? ⟨gl, k * 4 + 2, none⟩ = some (arAt L k).vk ∧ w.cell? ⟨gl, k * 4 + 3, none⟩ = some (.bool (arAt L k).a.fx) := by
  obtain ⟨A, c', e, _, _⟩ := own_slice h.row
  have hn : n = L.length := by injection e
  subst hn
  have hc : ∀ r, r < 4 → w.cell? ⟨gl, k * 4 + r, none⟩ = (cA (arAt L k))[r]? := fun r hr => by
    rw [h.row.cellAt _ (by omega), arC_at L k r hk hr]
  exact ⟨rfl, hc 0 (by omega), hc 1 (by omega), hc 2 (by omega), hc 3 (by omega)⟩
/-- A byte is stored, and is blank no more. -/
theorem RepA.step {k j gl gb gk nl cl nb cb nk ck : Nat} {b : List Int} {bl : List Bool} (h : RepA w g (.slice (some ⟨gl, 0, none⟩) nl cl) (L.set k (arPut (arAt L k) b bl)) F) (hk : k < L.length) (hj : j < b.length)
    (hvb : (arAt L k).vb = .slice (some ⟨gb, 0, none⟩) nb cb) (hvk : (arAt L k).vk = .slice (some ⟨gk, 0, none⟩) nk ck) {v : Int} (hv : 0 ≤ v ∧ v ≤ 255) :
    RepA ((w.setCell ⟨gb, j, none⟩ (.int .u8 v)).setCell ⟨gk, j, none⟩ (.bool false)) g (.slice (some ⟨gl, 0, none⟩) nl cl) (L.set k (arPut (arAt L k) (b.set j v) (bl.set j false))) F ∧ F gb ∧ F gk ∧ g ≠ gb ∧ gl ≠ gb ∧ gk ≠ gb := by
  have hkl : k < (L.set k (arPut (arAt L k) b bl)).length := by rw [List.length_set]; exact hk
  have e : arAt (L.set k (arPut (arAt L k) b bl)) k = arPut (arAt L k) b bl := by rw [arAt_set hk, if_pos rfl]
  have pb : arBlk g (.slice (some ⟨gl, 0, none⟩) nl cl) (L.set k (arPut (arAt L k) b bl)) (2 * k + 2) = some gb := by rw [arBlk_put hk, arBlk_b, hvb]; rfl
  have pk : arBlk g (.slice (some ⟨gl, 0, none⟩) nl cl) (L.set k (arPut (arAt L k) b bl)) (2 * k + 3) = some gk := by rw [arBlk_put hk, arBlk_k, hvk]; rfl
  obtain ⟨h1, f1⟩ := h.setB (k := k) (j := j) (gb := gb) (n := nb) (cb := cb) hkl (by rw [e]; exact hj) (by rw [e]; exact hvb) hv
  rw [arPut_twice hk, e] at h1
  have e2 : arAt (L.set k (arPut (arAt L k) (b.set j v) bl)) k = arPut (arAt L k) (b.set j v) bl := by rw [arAt_set hk, if_pos rfl]
  have h1' : RepA (w.setCell ⟨gb, j, none⟩ (.int .u8 v)) g (.slice (some ⟨gl, 0, none⟩) nl cl) (L.set k (arPut (arAt L k) (b.set j v) bl)) F := h1
  obtain ⟨h2, f2⟩ := h1'.setK (k := k) (j := j) (gk := gk) (n := nk) (ck := ck) (by rw [List.length_set]; exact hk) (by rw [e2]; exact hvk) false
  rw [arPut_twice hk, e2] at h2
  refine ⟨h2, f1, f2, fun e => ?_, fun e => ?_, fun e => ?_⟩
  · have := h.apart 0 (2 * k + 2) g rfl (by rw [e]; exact pb)
    omega
  · have := h.apart 1 (2 * k + 2) gl rfl (by rw [e]; exact pb)
    omega
  · have := h.apart (2 * k + 3) (2 * k + 2) gk pk (by rw [e]; exact pb)
    omega
end


end Go.Proofs.Ytempkpfcjonaaaa
