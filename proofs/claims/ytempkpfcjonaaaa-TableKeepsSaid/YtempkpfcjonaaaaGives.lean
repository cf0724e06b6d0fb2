/-
  What walks over laws answer, named; blocks that hold cells, in whatever world has come of the first one.
  Conditions: none.
-/
import Derived.Test.YtempkpfcjonaaaaKit
namespace Go.Proofs.Ytempkpfcjonaaaa
open Go.RowKit
set_option linter.unusedVariables false

theorem int_lt_or (a b : Int) : a < b ∨ b ≤ a := by omega

/-- True, and nothing that was there has turned. -/
def Fine (w : World) (e : Ending) (w' : World) : Prop := e = .returned (.bool true) ∧ Below w.heap.size w w'
/-- One answer, and nothing that was there has turned. -/
def Gives (v : Value) (w : World) (e : Ending) (w' : World) : Prop := e = .returned v ∧ Below w.heap.size w w'
theorem gives_same {v u : Value} {w w' : World} {e : Ending} (h : u = v) (hg : Gives u w e w') : Gives v w e w' := by rw [← h]; exact hg
theorem below_alloc {w w' : World} (h : Below w.heap.size w w') (o : Obj) : Below w.heap.size w (w'.alloc o) := h.alloc h.size o

/-- A block that holds these cells. -/
def Blk (g : Nat) (cs : Array Value) (t : TypeId) (w : World) : Prop := w.heap[g]? = some (.cells cs t (0, 0))
theorem Blk.lt {g : Nat} {cs : Array Value} {t : TypeId} {w : World} (h : Blk g cs t w) : g < w.heap.size := by
  rcases Nat.lt_or_ge g w.heap.size with k | k
  · exact k
  · unfold Blk at h; rw [Array.getElem?_eq_none k] at h; cases h
theorem Blk.new (w : World) (cs : Array Value) (t : TypeId) {g : Nat} (hg : g = w.heap.size) : Blk g cs t (w.alloc (.cells cs t)) := by
  subst hg
  show (w.heap.push _)[w.heap.size]? = _
  simp
theorem Blk.below {g : Nat} {cs : Array Value} {t : TypeId} {w w' : World} {B : Nat} (h : Blk g cs t w) (b : Below B w w') (hB : g < B) : Blk g cs t w' := (b.block g hB).trans h
theorem Blk.after {g : Nat} {cs : Array Value} {t : TypeId} {w w' : World} (h : Blk g cs t w) (b : Below w.heap.size w w') : Blk g cs t w' := h.below b h.lt
theorem Blk.cell {g : Nat} {cs : Array Value} {t : TypeId} {w : World} (h : Blk g cs t w) (k : Nat) : w.cell? ⟨g, k, none⟩ = cs[k]? := cell_of_row w g k cs t (0, 0) h
theorem Blk.free {g : Nat} {cs : Array Value} {t : TypeId} {w : World} (h : Blk g cs t w) (k : Nat) : w.frozen? ⟨g, k, none⟩ = false := by
  unfold Blk at h
  simp [World.frozen?, h]
theorem Blk.set {g : Nat} {cs : Array Value} {t : TypeId} {w : World} (h : Blk g cs t w) (k : Nat) (v : Value) : Blk g (cs.setIfInBounds k v) t (w.setCell ⟨g, k, none⟩ v) := by
  unfold Blk at *
  simp [World.setCell, Array.getElem?_modify, h]
theorem Blk.other {g k o : Nat} {cs : Array Value} {t : TypeId} {w : World} (h : Blk g cs t w) (v : Value) (hk : g ≠ k) : Blk g cs t (w.setCell ⟨k, o, none⟩ v) := (Below.heap_setCell w ⟨k, o, none⟩ v g hk).trans h

/-- Blocks, in whatever world has come of w0. -/
def Blks (w0 : World) (l : List (Nat × Array Value × TypeId)) (u : World) : Prop := Below w0.heap.size w0 u ∧ ∀ p ∈ l, Blk p.1 p.2.1 p.2.2 u
theorem Blks.none_ {w u : World} (h : Below w.heap.size w u) : Blks w [] u := ⟨h, fun p hp => by cases hp⟩
theorem Blks.start (w : World) : Blks w [] w := Blks.none_ (Below.refl _ _)
theorem Blks.after {w0 u u' : World} {l : List (Nat × Array Value × TypeId)} (h : Blks w0 l u) (k : Below u.heap.size u u') : Blks w0 l u' := ⟨below_next' h.1 k, fun p hp => (h.2 p hp).after k⟩
theorem Blks.alloc {w0 u : World} {l : List (Nat × Array Value × TypeId)} (h : Blks w0 l u) (o : Obj) : Blks w0 l (u.alloc o) := h.after (below_alloc (Below.refl _ _) o)
theorem Blks.new {w0 u : World} {l : List (Nat × Array Value × TypeId)} (h : Blks w0 l u) (cs : Array Value) (t : TypeId) : Blks w0 ((u.heap.size, cs, t) :: l) (u.alloc (.cells cs t)) :=
  ⟨below_alloc h.1 _, fun p hp => by
    rcases List.mem_cons.mp hp with rfl | hp
    · exact Blk.new u cs t rfl
    · exact (h.2 p hp).after (below_alloc (Below.refl _ _) _)⟩
theorem Blks.one {w0 u : World} {g : Nat} {cs : Array Value} {t : TypeId} {l : List (Nat × Array Value × TypeId)} (h : Blks w0 ((g, cs, t) :: l) u) : Blk g cs t u ∧ Blks w0 l u :=
  ⟨h.2 (g, cs, t) (by simp), h.1, fun p hp => h.2 p (by simp [hp])⟩
theorem Blks.get {w0 u : World} {l : List (Nat × Array Value × TypeId)} (h : Blks w0 l u) {g : Nat} {cs : Array Value} {t : TypeId} (hp : (g, cs, t) ∈ l) : Blk g cs t u := h.2 _ hp

end Go.Proofs.Ytempkpfcjonaaaa
