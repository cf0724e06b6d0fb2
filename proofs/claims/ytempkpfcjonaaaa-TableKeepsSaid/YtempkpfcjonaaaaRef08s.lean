/-
  Layer 8's own memory with one area more.
  Conditions: none.
-/
import Derived.Test.YtempkpfcjonaaaaRef08r
namespace Go.Proofs.Ytempkpfcjonaaaa
open Go Go.RowKit
set_option linter.unusedVariables false
set_option linter.unusedSimpArgs false

theorem RepA.add {w u : World} {g : Nat} {vl vl' : Value} {L : List AR} {F : Nat → Prop} {r : AR} (h : RepA w g vl L F)
    (hs : ∀ x, F x → x ≠ g → vl.ownBlock ≠ some x → u.heap[x]? = w.heap[x]?)
    (hb : Blk g #[vl'] 30 u) (hr : u.ownsRow 0 101 4 vl' (L.length + 1) (arC (L ++ [r]))) (ho : AROwn u r)
    (h1 : ∀ x, r.vb.ownBlock = some x → w.heap.size ≤ x) (h2 : ∀ x, r.vk.ownBlock = some x → w.heap.size ≤ x) (h3 : ∀ x, r.vb.ownBlock = some x → r.vk.ownBlock ≠ some x)
    (h4 : vl'.ownBlock = vl.ownBlock ∨ ∃ y, vl'.ownBlock = some y ∧ w.heap.size ≤ y ∧ r.vb.ownBlock ≠ some y ∧ r.vk.ownBlock ≠ some y) (hok : r.a.ok) :
    ∃ F', RepA u g vl' (L ++ [r]) F' ∧ ∀ x, F' x → F x ∨ w.heap.size ≤ x := by
  have old : ∀ p x, p ≠ 1 → arBlk g vl L p = some x → p < 2 * L.length + 2 := fun p x hp hx => by
    rcases arBlk_cases hx with ⟨h1, _⟩ | ⟨h1, _⟩ | ⟨k, hk, ⟨h1, _⟩ | ⟨h1, _⟩⟩ <;> omega
  have hF : ∀ p x, arBlk g vl L p = some x → x < w.heap.size := fun p x hx => h.lt ((h.foot x).mpr ⟨p, hx⟩)
  have h4' : ∀ x, vl'.ownBlock = some x → (vl.ownBlock = some x) ∨ (w.heap.size ≤ x ∧ r.vb.ownBlock ≠ some x ∧ r.vk.ownBlock ≠ some x) := fun x hx => by
    rcases h4 with h4 | ⟨y, hy, h5⟩
    · exact .inl (by rw [← h4]; exact hx)
    · rw [hy] at hx; cases hx; exact .inr h5
  have f1 : ∀ x, vl.ownBlock = some x → x < w.heap.size := fun x hx => hF 1 x hx
  refine ⟨fun x => ∃ p, arBlk g vl' (L ++ [r]) p = some x, ⟨hb, ?_, ?_, ?_, fun x => Iff.rfl, ?_⟩, ?_⟩
  · rw [List.length_append, List.length_singleton]; exact hr
  · intro k hk
    rw [arAt_app]
    by_cases hl : k < L.length
    · rw [if_pos hl]
      have apart : ∀ x p, arBlk g vl L p = some x → p ≠ 0 → p ≠ 1 → u.heap[x]? = w.heap[x]? := fun x p hx p0 p1 =>
        hs x ((h.foot x).mpr ⟨p, hx⟩) (fun e => p0 (h.apart p 0 x hx (by rw [e]; rfl))) (fun e => p1 (h.apart p 1 x hx e))
      exact ⟨own_same (h.own k hl).1 (fun x hx => apart x (2 * k + 2) ((arBlk_b g vl L k).trans hx) (by omega) (by omega)), own_same (h.own k hl).2 (fun x hx => apart x (2 * k + 3) ((arBlk_k g vl L k).trans hx) (by omega) (by omega))⟩
    · have e : k = L.length := by simp at hk; omega
      rw [if_neg hl, if_pos e]
      exact ho
  · intro p q x hp hq
    rcases arBlk_app (vl := vl) hp with ⟨a1, a2⟩ | ⟨a1, a2⟩ | ⟨a1, a2⟩ | ⟨a1, a2⟩ <;> rcases arBlk_app (vl := vl) hq with ⟨b1, b2⟩ | ⟨b1, b2⟩ | ⟨b1, b2⟩ | ⟨b1, b2⟩
    · exact h.apart p q x a2 b2
    · have := hF p x a2
      rcases h4' x b2 with c | ⟨c, _⟩
      · exact absurd (h.apart p 1 x a2 c) a1
      · omega
    · have := hF p x a2; have := h1 x b2; omega
    · have := hF p x a2; have := h2 x b2; omega
    · have := hF q x b2
      rcases h4' x a2 with c | ⟨c, _⟩
      · exact absurd (h.apart q 1 x b2 c) b1
      · omega
    · omega
    · rcases h4' x a2 with c | ⟨_, c, _⟩
      · have := f1 x c; have := h1 x b2; omega
      · exact absurd b2 c
    · rcases h4' x a2 with c | ⟨_, _, c⟩
      · have := f1 x c; have := h2 x b2; omega
      · exact absurd b2 c
    · have := hF q x b2; have := h1 x a2; omega
    · rcases h4' x b2 with c | ⟨_, c, _⟩
      · have := f1 x c; have := h1 x a2; omega
      · exact absurd a2 c
    · omega
    · exact absurd b2 (h3 x a2)
    · have := hF q x b2; have := h2 x a2; omega
    · rcases h4' x b2 with c | ⟨_, _, c⟩
      · have := f1 x c; have := h2 x a2; omega
      · exact absurd a2 c
    · exact absurd a2 (h3 x b2)
    · omega
  · rw [arM_app]
    intro k hk
    rw [pAt_app]
    by_cases hl : k < (arM L).length
    · rw [if_pos hl]; exact h.ok k hl
    · rw [if_neg hl, if_pos (by simp at hk hl ⊢; omega)]
      exact hok
  · rintro x ⟨p, hp⟩
    rcases arBlk_app (vl := vl) hp with ⟨a1, a2⟩ | ⟨a1, a2⟩ | ⟨a1, a2⟩ | ⟨a1, a2⟩
    · exact .inl ((h.foot x).mpr ⟨p, a2⟩)
    · rcases h4' x a2 with c | ⟨c, _⟩
      · exact .inl ((h.foot x).mpr ⟨1, c⟩)
      · exact .inr c
    · exact .inr (h1 x a2)
    · exact .inr (h2 x a2)


end Go.Proofs.Ytempkpfcjonaaaa
