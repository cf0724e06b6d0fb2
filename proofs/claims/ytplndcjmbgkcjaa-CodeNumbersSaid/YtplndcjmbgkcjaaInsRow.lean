/-
  A slice that reads as a row of instructions, in whatever world comes of the first one.
  Conditions: none.
-/
import Derived.Test.YtplndcjmbgkcjaaGives
import Derived.Test.YtplndcjmbgkcjaaCodePlain
namespace Go.Proofs.Ytplndcjmbgkcjaa
open Go.RowKit
set_option linter.unusedVariables false

/-- The cells of an instruction. -/
abbrev insCells (x : Ins) : Array Value := #[.int .u8 x.op, .int .u8 x.dst, .int .u8 x.src, .int .i16 x.off, .int .i32 x.imm]
def InsAt (w : World) (g o : Nat) (x : Ins) : Prop :=
  w.cell? ⟨g, o, none⟩ = some (.int .u8 x.op) ∧ w.cell? ⟨g, o + 1, none⟩ = some (.int .u8 x.dst) ∧ w.cell? ⟨g, o + 2, none⟩ = some (.int .u8 x.src) ∧ w.cell? ⟨g, o + 3, none⟩ = some (.int .i16 x.off) ∧ w.cell? ⟨g, o + 4, none⟩ = some (.int .i32 x.imm)
theorem InsAt.below {w w' : World} {B g o : Nat} {x : Ins} (h : InsAt w g o x) (b : Below B w w') (hg : g < B) : InsAt w' g o x := by
  obtain ⟨h0, h1, h2, h3, h4⟩ := h
  exact ⟨(b.cell (p := ⟨g, o, none⟩) hg).trans h0, (b.cell (p := ⟨g, o + 1, none⟩) hg).trans h1, (b.cell (p := ⟨g, o + 2, none⟩) hg).trans h2, (b.cell (p := ⟨g, o + 3, none⟩) hg).trans h3, (b.cell (p := ⟨g, o + 4, none⟩) hg).trans h4⟩
theorem InsAt.after {w w' : World} {g o : Nat} {x : Ins} (h : InsAt w g o x) (b : Below w.heap.size w w') (hg : g < w.heap.size) : InsAt w' g o x := h.below b hg
/-- A slice's address reads as a row. -/
def InsS (w : World) (A : Option Addr) (l : List Ins) : Prop :=
  0 < l.length → ∃ g o, A = some ⟨g, o, none⟩ ∧ g < w.heap.size ∧ ∀ k, k < l.length → InsAt w g (o + k * 5) (iAt l k)
theorem InsS.none_ (w : World) (A : Option Addr) : InsS w A [] := fun h => absurd h (by simp)
theorem InsS.after {w w' : World} {A : Option Addr} {l : List Ins} (h : InsS w A l) (b : Below w.heap.size w w') : InsS w' A l := fun hl => by
  obtain ⟨g, o, e, hg, hc⟩ := h hl
  exact ⟨g, o, e, Nat.lt_of_lt_of_le hg b.size, fun k hk => (hc k hk).after b hg⟩
theorem InsS.at_ {w : World} {A : Option Addr} {l : List Ins} (h : InsS w A l) {k : Nat} (hk : k < l.length) : ∃ g o, A = some ⟨g, o, none⟩ ∧ g < w.heap.size ∧ InsAt w g (o + k * 5) (iAt l k) := by
  obtain ⟨g, o, e, hg, hc⟩ := h (by omega)
  exact ⟨g, o, e, hg, hc k hk⟩
def OkAll (l : List Ins) : Prop := ∀ k, k < l.length → (iAt l k).ok
/-- A block that holds one instruction. -/
def iB (g : Nat) (x : Ins) (w : World) : Prop := Blk g (insCells x) 24 w
theorem iB.lt {g : Nat} {x : Ins} {w : World} (h : iB g x w) : g < w.heap.size := Blk.lt h
theorem iB.new (w : World) (x : Ins) {g : Nat} (hg : g = w.heap.size) : iB g x (w.alloc (.cells (insCells x) 24)) := Blk.new w _ _ hg
theorem iB.after {g : Nat} {x : Ins} {w w' : World} (h : iB g x w) (b : Below w.heap.size w w') : iB g x w' := Blk.after h b
theorem iB.cells {g : Nat} {x : Ins} {w : World} (h : iB g x w) : w.cell? ⟨g, 0, none⟩ = some (.int .u8 x.op) ∧ w.cell? ⟨g, 1, none⟩ = some (.int .u8 x.dst) ∧ w.cell? ⟨g, 2, none⟩ = some (.int .u8 x.src) ∧ w.cell? ⟨g, 3, none⟩ = some (.int .i16 x.off) ∧ w.cell? ⟨g, 4, none⟩ = some (.int .i32 x.imm) :=
  ⟨Blk.cell h 0, Blk.cell h 1, Blk.cell h 2, Blk.cell h 3, Blk.cell h 4⟩

end Go.Proofs.Ytplndcjmbgkcjaa
