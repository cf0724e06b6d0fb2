/-
  What a call may turn: blocks of a given set, and new ones; all else stays as it was. Rows that a structure owns, in whatever world has come.
  Conditions: none.
-/
import Derived.Test.YtempkpfcjonaaaaByt
namespace Go.Proofs.Ytempkpfcjonaaaa
open Go Go.RowKit
set_option linter.unusedVariables false
set_option linter.unusedSimpArgs false

/-- Blocks that are not of F are as they were; no block has gone. -/
structure Turn (F : Nat → Prop) (w w' : World) : Prop where
  os : w'.os = w.os
  tape : w'.tape = w.tape
  output : w'.output = w.output
  size : w.heap.size ≤ w'.heap.size
  block : ∀ k, k < w.heap.size → ¬ F k → w'.heap[k]? = w.heap[k]?
theorem Turn.refl (F : Nat → Prop) (w : World) : Turn F w w := ⟨rfl, rfl, rfl, Nat.le_refl _, fun _ _ _ => rfl⟩
theorem Turn.trans {F G : Nat → Prop} {a b c : World} (h : Turn F a b) (k : Turn G b c) (hG : ∀ x, G x → F x ∨ a.heap.size ≤ x) : Turn F a c :=
  ⟨k.os.trans h.os, k.tape.trans h.tape, k.output.trans h.output, Nat.le_trans h.size k.size, fun i hi hF => (k.block i (Nat.lt_of_lt_of_le hi h.size) (fun g => (hG i g).elim hF (fun x => by omega))).trans (h.block i hi hF)⟩
theorem Turn.mono {F G : Nat → Prop} {a b : World} (h : Turn F a b) (hG : ∀ x, F x → G x ∨ a.heap.size ≤ x) : Turn G a b :=
  ⟨h.os, h.tape, h.output, h.size, fun i hi hn => h.block i hi (fun f => (hG i f).elim hn (fun x => by omega))⟩
theorem Turn.drew {F : Nat → Prop} {a b : World} (h : Turn F a b) : Turn F a b.drew := ⟨h.os, h.tape, h.output, h.size, h.block⟩
theorem Turn.alloc {F : Nat → Prop} {a b : World} (h : Turn F a b) (o : Obj) : Turn F a (b.alloc o) :=
  ⟨h.os, h.tape, h.output, Nat.le_trans h.size (by simp), fun k hk hn => (Below.heap_alloc _ _ _ (Nat.lt_of_lt_of_le hk h.size)).trans (h.block k hk hn)⟩
theorem Turn.setCell {F : Nat → Prop} {a b : World} (h : Turn F a b) {p : Addr} (hp : F p.block ∨ a.heap.size ≤ p.block) (u : Value) : Turn F a (b.setCell p u) :=
  ⟨h.os, h.tape, h.output, Nat.le_trans h.size (by simp [World.setCell]), fun k hk hn => (Below.heap_setCell _ _ _ _ (fun e => by subst e; exact hp.elim hn (fun x => by omega))).trans (h.block k hk hn)⟩
theorem Turn.grown {F : Nat → Prop} {a b c : World} {row : Option Nat} (h : Turn F a b) (hg : b.grownBy c row) (hr : ∀ k, row = some k → F k ∨ a.heap.size ≤ k) : Turn F a c :=
  ⟨hg.os.trans h.os, hg.tape.trans h.tape, hg.output.trans h.output, Nat.le_trans h.size hg.size, fun k hk hn => (hg.block k (Nat.lt_of_lt_of_le hk h.size) (fun e => (hr k e.symm).elim hn (fun x => by omega))).trans (h.block k hk hn)⟩
theorem Turn.of_below {F : Nat → Prop} {a b : World} (h : Below a.heap.size a b) : Turn F a b := ⟨h.os, h.tape, h.output, h.size, fun k hk _ => h.block k hk⟩
theorem Turn.next {F : Nat → Prop} {a b c : World} (h : Turn F a b) (k : Below b.heap.size b c) : Turn F a c := h.trans (G := fun _ => False) (Turn.of_below k) (fun _ x => x.elim)
theorem Turn.below {F : Nat → Prop} {B : Nat} {a b : World} (h : Turn F a b) (hB : B ≤ a.heap.size) (hF : ∀ k, k < B → ¬ F k) : Below B a b := ⟨h.os, h.tape, h.output, h.size, fun k hk => h.block k (Nat.lt_of_lt_of_le hk hB) (hF k hk)⟩
/-- On from a world that has come of the first one. -/
theorem Turn.on {F : Nat → Prop} {B : Nat} {w a b : World} (h : Below B w a) (k : Turn F a b) (hB : B ≤ a.heap.size) (hF : ∀ k, F k → B ≤ k) : Below B w b :=
  h.trans (k.below hB (fun i hi f => by have := hF i f; omega))
/-- A row that is owned stays, where its block stays. -/
theorem own_same {w w' : World} {base size n : Nat} {e : TypeId} {v : Value} {xs : List Value} (h : w.ownsRow base e size v n xs) (hs : ∀ k, v.ownBlock = some k → w'.heap[k]? = w.heap[k]?) : w'.ownsRow base e size v n xs := by
  refine ⟨h.1, ?_⟩
  rcases h.2 with hn | ⟨g, cap, cur, rfl, hb, hgg, rest⟩
  · exact .inl hn
  · exact .inr ⟨g, cap, cur, rfl, hb, (hs g rfl).trans hgg, rest⟩
theorem own_base {w : World} {base base' size n : Nat} {e : TypeId} {v : Value} {xs : List Value} (h : w.ownsRow base e size v n xs) (hb : ∀ k, v.ownBlock = some k → base' ≤ k) : w.ownsRow base' e size v n xs := by
  refine ⟨h.1, ?_⟩
  rcases h.2 with hn | ⟨g, cap, cur, rfl, hb', hgg, rest⟩
  · exact .inl hn
  · exact .inr ⟨g, cap, cur, rfl, hb g rfl, hgg, rest⟩
theorem own_lt {w : World} {base size n : Nat} {e : TypeId} {v : Value} {xs : List Value} (h : w.ownsRow base e size v n xs) {k : Nat} (hk : v.ownBlock = some k) : k < w.heap.size := (h.lt k hk).2
theorem Blk.same {g : Nat} {cs : Array Value} {t : TypeId} {w w' : World} (h : Blk g cs t w) (hs : w'.heap[g]? = w.heap[g]?) : Blk g cs t w' := hs.trans h
/-- The cells of bools. -/
def boC (l : List Bool) : List Value := l.map Value.bool
theorem boC_len (l : List Bool) : (boC l).length = l.length := by simp [boC]
theorem boC_at (l : List Bool) {k : Nat} (h : k < l.length) : (boC l)[k]? = some (.bool (l.getD k false)) := by
  simp [boC, List.getD_eq_getElem?_getD, List.getElem?_eq_getElem h]
theorem boC_one (l : List Bool) : ∀ u ∈ boC l, u.oneCell' = true := by
  intro u hu
  simp only [boC, List.mem_map] at hu
  obtain ⟨x, _, rfl⟩ := hu
  rfl
theorem boC_set (l : List Bool) (k : Nat) (b : Bool) : (boC l).set k (.bool b) = boC (l.set k b) := by simp [boC, List.map_set]
theorem boC_app (a b : List Bool) : boC (a ++ b) = boC a ++ boC b := by simp [boC]

end Go.Proofs.Ytempkpfcjonaaaa
