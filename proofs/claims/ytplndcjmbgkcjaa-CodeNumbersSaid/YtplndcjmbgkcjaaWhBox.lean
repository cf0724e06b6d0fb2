/-
  A block that holds what an instruction does.
  Conditions: none.
-/
import Derived.Test.YtplndcjmbgkcjaaInsRow
namespace Go.Proofs.Ytplndcjmbgkcjaa
open Go.RowKit
set_option linter.unusedVariables false

abbrev whCells (v : Wh) : Array Value := #[.int .u8 v.kind, .int .u8 v.op, .bool v.wide, .bool v.reg, .bool v.signed, .int .i64 v.size]
def whB (g : Nat) (v : Wh) (w : World) : Prop := Blk g (whCells v) 26 w
theorem whB.lt {g : Nat} {v : Wh} {w : World} (h : whB g v w) : g < w.heap.size := Blk.lt h
theorem whB.new (w : World) (v : Wh) {g : Nat} (hg : g = w.heap.size) : whB g v (w.alloc (.cells (whCells v) 26)) := Blk.new w _ _ hg
theorem whB.after {g : Nat} {v : Wh} {w w' : World} (h : whB g v w) (b : Below w.heap.size w w') : whB g v w' := Blk.after h b
theorem whB.alloc {g : Nat} {v : Wh} {w : World} (h : whB g v w) (o : Obj) : whB g v (w.alloc o) := h.after (below_alloc (Below.refl _ _) o)
theorem iB.alloc {g : Nat} {x : Ins} {w : World} (h : iB g x w) (o : Obj) : iB g x (w.alloc o) := h.after (below_alloc (Below.refl _ _) o)
theorem whB.cells {g : Nat} {v : Wh} {w : World} (h : whB g v w) : w.cell? ⟨g, 0, none⟩ = some (.int .u8 v.kind) ∧ w.cell? ⟨g, 1, none⟩ = some (.int .u8 v.op) ∧ w.cell? ⟨g, 2, none⟩ = some (.bool v.wide) ∧ w.cell? ⟨g, 3, none⟩ = some (.bool v.reg) ∧ w.cell? ⟨g, 4, none⟩ = some (.bool v.signed) ∧ w.cell? ⟨g, 5, none⟩ = some (.int .i64 v.size) :=
  ⟨Blk.cell h 0, Blk.cell h 1, Blk.cell h 2, Blk.cell h 3, Blk.cell h 4, Blk.cell h 5⟩
theorem whB.free {g : Nat} {v : Wh} {w : World} (h : whB g v w) : w.frozen? ⟨g, 0, none⟩ = false ∧ w.frozen? ⟨g, 1, none⟩ = false ∧ w.frozen? ⟨g, 2, none⟩ = false ∧ w.frozen? ⟨g, 3, none⟩ = false ∧ w.frozen? ⟨g, 4, none⟩ = false ∧ w.frozen? ⟨g, 5, none⟩ = false :=
  ⟨Blk.free h 0, Blk.free h 1, Blk.free h 2, Blk.free h 3, Blk.free h 4, Blk.free h 5⟩
/-- What is stored whole. -/
abbrev whSet (w : World) (g : Nat) (u : Wh) : World := (((((w.setCell ⟨g, 0, none⟩ (.int .u8 u.kind)).setCell ⟨g, 1, none⟩ (.int .u8 u.op)).setCell ⟨g, 2, none⟩ (.bool u.wide)).setCell ⟨g, 3, none⟩ (.bool u.reg)).setCell ⟨g, 4, none⟩ (.bool u.signed)).setCell ⟨g, 5, none⟩ (.int .i64 u.size)
theorem whB.set {g : Nat} {v : Wh} {w : World} (h : whB g v w) (u : Wh) : whB g u (whSet w g u) :=
  Blk.set (Blk.set (Blk.set (Blk.set (Blk.set (Blk.set h 0 _) 1 _) 2 _) 3 _) 4 _) 5 _
theorem Blk.whs {g k : Nat} {cs : Array Value} {t : TypeId} {w : World} (h : Blk g cs t w) (u : Wh) (hk : g ≠ k) : Blk g cs t (whSet w k u) :=
  Blk.other (Blk.other (Blk.other (Blk.other (Blk.other (Blk.other h _ hk) _ hk) _ hk) _ hk) _ hk) _ hk
theorem whB.whs {g k : Nat} {v : Wh} {w : World} (h : whB g v w) (u : Wh) (hk : g ≠ k) : whB g v (whSet w k u) := Blk.whs h u hk
theorem iB.whs {g k : Nat} {x : Ins} {w : World} (h : iB g x w) (u : Wh) (hk : g ≠ k) : iB g x (whSet w k u) := Blk.whs h u hk
theorem below_whs {B k : Nat} {w u : World} (h : Below B w u) (hk : B ≤ k) (v : Wh) : Below B w (whSet u k v) :=
  (((((h.setCell (p := ⟨k, 0, none⟩) hk _).setCell (p := ⟨k, 1, none⟩) hk _).setCell (p := ⟨k, 2, none⟩) hk _).setCell (p := ⟨k, 3, none⟩) hk _).setCell (p := ⟨k, 4, none⟩) hk _).setCell (p := ⟨k, 5, none⟩) hk _
/-- Three blocks of a call: an instruction, what is answered, what was made. -/
def ITri (x : Ins) (v u : Wh) (w w' : World) : Prop := Below w.heap.size w w' ∧ iB w.heap.size x w' ∧ whB (w.heap.size + 1) v w' ∧ whB (w.heap.size + 2) u w'
theorem ITri.new (x : Ins) (v u : Wh) (w : World) : ITri x v u w (((w.alloc (.cells (insCells x) 24)).alloc (.cells (whCells v) 26)).alloc (.cells (whCells u) 26)) :=
  ⟨below_alloc (below_alloc (below_alloc (Below.refl _ _) _) _) _, ((iB.new w x rfl).alloc _).alloc _, (whB.new _ v (by simp)).alloc _, whB.new _ u (by simp)⟩
theorem ITri.after {x : Ins} {v u : Wh} {w w1 w2 : World} (h : ITri x v u w w1) (b : Below w1.heap.size w1 w2) : ITri x v u w w2 := ⟨below_next' h.1 b, h.2.1.after b, h.2.2.1.after b, h.2.2.2.after b⟩
theorem ITri.set {x : Ins} {v u : Wh} {w w1 : World} (h : ITri x v u w w1) (y : Wh) : ITri x y u w (whSet w1 (w.heap.size + 1) y) :=
  ⟨below_whs h.1 (by omega) y, h.2.1.whs y (by omega), h.2.2.1.set y, h.2.2.2.whs y (by omega)⟩
/-- Two of them. -/
def IDuo (x : Ins) (v : Wh) (w w' : World) : Prop := Below w.heap.size w w' ∧ iB w.heap.size x w' ∧ whB (w.heap.size + 1) v w'
theorem IDuo.new (x : Ins) (v : Wh) (w : World) : IDuo x v w ((w.alloc (.cells (insCells x) 24)).alloc (.cells (whCells v) 26)) :=
  ⟨below_alloc (below_alloc (Below.refl _ _) _) _, (iB.new w x rfl).alloc _, whB.new _ v (by simp)⟩
theorem IDuo.after {x : Ins} {v : Wh} {w w1 w2 : World} (h : IDuo x v w w1) (b : Below w1.heap.size w1 w2) : IDuo x v w w2 := ⟨below_next' h.1 b, h.2.1.after b, h.2.2.after b⟩
theorem IDuo.set {x : Ins} {v : Wh} {w w1 : World} (h : IDuo x v w w1) (y : Wh) : IDuo x y w (whSet w1 (w.heap.size + 1) y) :=
  ⟨below_whs h.1 (by omega) y, h.2.1.whs y (by omega), h.2.2.set y⟩

end Go.Proofs.Ytplndcjmbgkcjaa
