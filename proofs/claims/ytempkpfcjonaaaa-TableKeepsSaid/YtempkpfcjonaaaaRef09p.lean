/-
  Layer 9's own New: a map of numbers while its values' areas are made.
  Conditions: none.
-/
import Derived.Test.YtempkpfcjonaaaaRef09o
namespace Go.Proofs.Ytempkpfcjonaaaa
open Go.RowKit
set_option maxRecDepth 100000
set_option linter.unusedVariables false
set_option linter.unusedSimpArgs false

/-- A map of numbers, of which k are there; memory is M by now, and was M1 when the map was begun. -/
structure InS (w : World) (gt g2 gx : Nat) (G : Nat → Prop) (vl : Value) (L : List TR) (F : Nat → Prop) (d : Df) (j n : Nat) (M1 : PM) (k : Nat) (vk : Value) (G' : Nat → Prop) (M : PM) (u : World) : Prop where
  maps : RepT u gt g2 vl L F
  mem : RepR u g2 M G'
  apart : ∀ x, F x → ¬ G' x
  turn : Turn G w u
  foot : ∀ x, G' x → G x ∨ w.heap.size ≤ x
  new : ∀ x, F x → w.heap.size ≤ x
  var : Blk gx #[.bool d.hash, .int .i64 d.key, .int .i64 d.val, .int .i64 d.max, vk, .int .i64 (k : Int)] 85 u
  vnew : w.heap.size ≤ gx
  vout : ¬ F gx ∧ ¬ G' gx
  row : u.ownsRow 0 88 2 vk k (kC (numL k))
  sep : ∀ x, vk.ownBlock = some x → ¬ F x ∧ ¬ G' x ∧ w.heap.size ≤ x ∧ x ≠ gx
  slots : tSlots M j d.val.toNat k (n - k) = tSlots M1 j d.val.toNat 0 n
section
variable {w u u' : World} {gt g2 gx j n k : Nat} {G F G' : Nat → Prop} {vl vk : Value} {L : List TR} {d : Df} {M1 M M' : PM}
theorem InS.after (h : InS w gt g2 gx G vl L F d j n M1 k vk G' M u) (b : Below u.heap.size u u') : InS w gt g2 gx G vl L F d j n M1 k vk G' M u' :=
  ⟨h.maps.after b, h.mem.after b, h.apart, h.turn.next b, h.foot, h.new, h.var.after b, h.vnew, h.vout, own_after h.row b, h.sep, h.slots⟩
/-- The beginning. -/
theorem NewS.in_ {M0 : PM} {l : List Df} (h : NewS w gt g2 G M0 l j vl L F G' M u) (d : Df) (n : Nat) (hv : Blk u.heap.size #[.bool d.hash, .int .i64 d.key, .int .i64 d.val, .int .i64 d.max, .slice none 0 0, .int .i64 ((0 : Nat) : Int)] 85 u') (b : Below u.heap.size u u') :
    InS w gt g2 u.heap.size G vl L F d j n M 0 (.slice none 0 0) G' M u' :=
  ⟨h.maps.after b, h.mem.after b, h.apart, h.turn.next b, h.foot, h.new, hv, h.turn.size, ⟨fun c => by have := h.maps.lt c; omega, fun c => by have := h.mem.lt c; omega⟩, World.ownsRow_nil _ 0 88 2, fun x hx => (by cases hx), rfl⟩
/-- An area is made, or not: memory has become another one. -/
theorem InS.made {v : Value} {e : Ending} (h : InS w gt g2 gx G vl L F d j n M1 k vk G' M u) (hw : MemW RepR g2 G' M' v u e u') :
    e = .returned v ∧ ∃ G2, RepT u' gt g2 vl L F ∧ RepR u' g2 M' G2 ∧ (∀ x, F x → ¬ G2 x) ∧ Turn G w u' ∧ (∀ x, G2 x → G x ∨ w.heap.size ≤ x) ∧
      Blk gx #[.bool d.hash, .int .i64 d.key, .int .i64 d.val, .int .i64 d.max, vk, .int .i64 (k : Int)] 85 u' ∧ ¬ G2 gx ∧ u'.ownsRow 0 88 2 vk k (kC (numL k)) ∧ ∀ x, vk.ownBlock = some x → ¬ F x ∧ ¬ G2 x ∧ w.heap.size ≤ x ∧ x ≠ gx := by
  obtain ⟨he, G2, r, t, hG⟩ := hw
  have hs := h.turn.size
  have hgx := h.var.lt
  have out : ∀ x, x < u.heap.size → ¬ G' x → ¬ G2 x := fun x hx hn c => by
    rcases hG x c with q | q
    · exact hn q
    · omega
  refine ⟨he, G2, h.maps.keep (fun x hx => t.block x (h.maps.lt hx) (h.apart x hx)), r, fun x hx => out x (h.maps.lt hx) (h.apart x hx), h.turn.trans t h.foot, fun x hx => ?_, Blk.same h.var (t.block gx hgx h.vout.2), out gx hgx h.vout.2, own_same h.row (fun x hx => t.block x (own_lt h.row hx) (h.sep x hx).2.1), fun x hx => ⟨(h.sep x hx).1, out x (own_lt h.row hx) (h.sep x hx).2.1, (h.sep x hx).2.2⟩⟩
  rcases hG x hx with c | c
  · exact h.foot x c
  · exact .inr (by omega)
/-- One number more: its key is laid behind the others, the map's block told so. -/
theorem in_put {w1 w' : World} {vk' : Value} {G2 : Nat → Prop} (hm : RepT u gt g2 vl L F) (hr : RepR u g2 M G2) (ha : ∀ x, F x → ¬ G2 x) (ht : Turn G w u) (hf : ∀ x, G2 x → G x ∨ w.heap.size ≤ x) (hnew : ∀ x, F x → w.heap.size ≤ x)
    (hv : Blk gx #[.bool d.hash, .int .i64 d.key, .int .i64 d.val, .int .i64 d.max, vk, .int .i64 (k : Int)] 85 u) (hvn : w.heap.size ≤ gx) (hvo : ¬ F gx ∧ ¬ G2 gx) (hrow : u.ownsRow 0 88 2 vk k (kC (numL k)))
    (hsep : ∀ x, vk.ownBlock = some x → ¬ F x ∧ ¬ G2 x ∧ w.heap.size ≤ x ∧ x ≠ gx) (hslots : tSlots M j d.val.toNat (k + 1) (n - (k + 1)) = tSlots M1 j d.val.toNat 0 n)
    (hrow' : w'.ownsRow 0 88 2 vk' (k + 1) (kC (numL (k + 1)))) (hg : u.grownBy w' vk.ownBlock) (hat : vk'.ownBlock = vk.ownBlock ∨ vk'.ownBlock = some u.heap.size) :
    InS w gt g2 gx G vl L F d j n M1 (k + 1) vk' G2 M ((w'.setCell ⟨gx, 4, none⟩ vk').setCell ⟨gx, 5, none⟩ (.int .i64 ((k + 1 : Nat) : Int))) := by
  have hgx := hv.lt
  have hsz := ht.size
  have hst : ∀ x, x ≠ gx → ((w'.setCell ⟨gx, 4, none⟩ vk').setCell ⟨gx, 5, none⟩ (.int .i64 ((k + 1 : Nat) : Int))).heap[x]? = w'.heap[x]? := fun x hx => (Below.heap_setCell _ _ _ _ hx).trans (Below.heap_setCell _ _ _ _ hx)
  have hgr : ∀ x, x < u.heap.size → vk.ownBlock ≠ some x → w'.heap[x]? = u.heap[x]? := fun x hx hne => hg.block x hx (fun e => hne e.symm)
  have old : ∀ x, x < u.heap.size → x ≠ gx → vk.ownBlock ≠ some x → ((w'.setCell ⟨gx, 4, none⟩ vk').setCell ⟨gx, 5, none⟩ (.int .i64 ((k + 1 : Nat) : Int))).heap[x]? = u.heap[x]? := fun x hx hne hnv => (hst x hne).trans (hgr x hx hnv)
  have tn : Turn (fun x => x = gx ∨ vk.ownBlock = some x) u ((w'.setCell ⟨gx, 4, none⟩ vk').setCell ⟨gx, 5, none⟩ (.int .i64 ((k + 1 : Nat) : Int))) :=
    (((Turn.refl _ u).grown hg (fun y e => .inl (.inr e))).setCell (p := ⟨gx, 4, none⟩) (.inl (.inl rfl)) _).setCell (p := ⟨gx, 5, none⟩) (.inl (.inl rfl)) _
  refine ⟨hm.keep (fun x hx => old x (hm.lt hx) (fun e => hvo.1 (e ▸ hx)) (fun e => (hsep x e).1 hx)), hr.turn tn (fun x hx c => ?_), ha, ht.trans tn (fun x c => ?_), hf, hnew, ?_, hvn, hvo, own_same hrow' (fun x hx => hst x (fun e => ?_)), fun x hx => ?_, hslots⟩
  · rcases c with c | c
    · exact hvo.2 (c ▸ hx)
    · exact (hsep x c).2.1 hx
  · rcases c with c | c
    · exact .inr (by omega)
    · exact .inr (hsep x c).2.2.1
  · exact Blk.set (Blk.set (Blk.same hv (hgr gx hgx (fun e => (hsep gx e).2.2.2 rfl))) 4 vk') 5 (.int .i64 ((k + 1 : Nat) : Int))
  · subst e
    rcases hat with c | c
    · exact (hsep x (c ▸ hx)).2.2.2 rfl
    · rw [c] at hx; injection hx with hx; omega
  · rcases hat with c | c
    · exact hsep x (c ▸ hx)
    · rw [c] at hx
      injection hx with hx
      exact ⟨fun q => by have := hm.lt q; omega, fun q => by have := hr.lt q; omega, by omega, by omega⟩
end

end Go.Proofs.Ytempkpfcjonaaaa
