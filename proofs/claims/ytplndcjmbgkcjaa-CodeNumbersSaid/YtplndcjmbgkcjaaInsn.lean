/-
  What insn.Put and insn.Take do, as contracts over their translated bodies.
  Conditions: the parts fit their kinds.
-/
import Derived.Test.YtplndcjmbgkcjaaPlain
import Derived.Test.YtplndcjmbgkcjaaRows
import Derived.WalkKit
import Derived.WalkSpells
import Derived.WalkLawsBesides
import Derived.Deep.QuietTactic
import Derived.BigQuiet
import Derived.Outline
namespace Go.Proofs.Ytplndcjmbgkcjaa
open Go.RowKit
set_option linter.unusedVariables false

abbrev insnV (op dst src off imm : Int) : Value := .agg #[.int .u8 op, .int .u8 dst, .int .u8 src, .int .i16 off, .int .i32 imm]

/-- A new block of eight bytes, and nothing else turned. -/
def EightOf (b0 b1 b2 b3 b4 b5 b6 b7 : Int) (w : World) (e : Ending) (w' : World) : Prop :=
  ∃ g, e = .returned (.tuple #[.slice (some ⟨g, 0, none⟩) 8 8, .int .i64 0]) ∧ w.heap.size ≤ g ∧ Below w.heap.size w w' ∧
    w'.heap[g]? = some (.cells #[.int .u8 b0, .int .u8 b1, .int .u8 b2, .int .u8 b3, .int .u8 b4, .int .u8 b5, .int .u8 b6, .int .u8 b7] 5 (0, 0))

theorem heap_at_last (w : World) (o : Obj) (g : Nat) (h : g = w.heap.size) : (w.alloc o).heap[g]? = some o := by
  subst h
  show (w.heap.push o)[w.heap.size]? = some o
  simp

set_option maxHeartbeats 400000 in
theorem put_ok (op dst src off imm : Int) (w : World) (h1 : 0 ≤ dst) (h2 : dst ≤ 15) (h3 : 0 ≤ src) (h4 : src ≤ 15) :
    Calls Try.prog 40 #[insnV op dst src off imm] w
      (EightOf op (dst + 16 * src) (off % 256) (off / 256 % 256) (imm % 256) (imm / 256 % 256) (imm / 65536 % 256) (imm / 16777216 % 256) w) := by
  go_enter Try.func40, Try.ntmps40
  go_wp2
  go_quiet (fail)
  go_wp2
  have e1 := regs_or dst src h1 h2 h3 h4
  have e2 : IntKind.u16.wrap off % 256 = off % 256 := by rw [IntKind.wrap_u16]; omega
  have e3 : IntKind.u16.wrap off / 256 % 256 = off / 256 % 256 := by rw [IntKind.wrap_u16]; omega
  have e4 : imm % 4294967296 / 256 % 256 = imm / 256 % 256 := by omega
  have e5 : imm % 4294967296 / 65536 % 256 = imm / 65536 % 256 := by omega
  have e6 : imm % 4294967296 / 16777216 = imm / 16777216 % 256 := by omega
  rw [e1, e2, e3, e4, e5, e6]
  go_ret2
  refine ⟨_, rfl, by simp, ?_, ?_⟩
  · exact (below_drewN ((Below.refl _ _).alloc (Nat.le_refl _) _) _).alloc (by simp) _
  · exact heap_at_last _ _ _ (by simp)

/-- No slice, and an error's number; below the heap's old size nothing turned. -/
def NoneBut (k : Int) (w : World) (e : Ending) (w' : World) : Prop := e = .returned (.tuple #[.slice none 0 0, .int .i64 k]) ∧ Below w.heap.size w w'

set_option maxHeartbeats 400000 in
theorem put_dst (op dst src off imm : Int) (w : World) (h : 15 < dst) :
    Calls Try.prog 40 #[insnV op dst src off imm] w (NoneBut 1 w) := by
  go_enter Try.func40, Try.ntmps40
  go_wp2
  go_ret2
  exact ⟨rfl, (Below.refl _ _).alloc (Nat.le_refl _) _⟩
set_option maxHeartbeats 400000 in
theorem put_src (op dst src off imm : Int) (w : World) (h0 : dst ≤ 15) (h : 15 < src) :
    Calls Try.prog 40 #[insnV op dst src off imm] w (NoneBut 1 w) := by
  go_enter Try.func40, Try.ntmps40
  go_wp2
  go_ret2
  exact ⟨rfl, (Below.refl _ _).alloc (Nat.le_refl _) _⟩

/-- Bytes that are not eight are no instruction. -/
def NoInsn (k : Int) (w : World) (e : Ending) (w' : World) : Prop := e = .returned (.tuple #[insnV 0 0 0 0 0, .int .i64 k]) ∧ Below w.heap.size w w'
set_option maxHeartbeats 400000 in
theorem take_bad (A : Option Addr) (n c : Nat) (w : World) (h : ((n : Int) == 8) = false) :
    Calls Try.prog 42 #[.slice A n c] w (NoInsn 6 w) := by
  go_enter Try.func42, Try.ntmps42
  go_wp2
  exact bodyPost_ret (v := .tuple #[insnV 0 0 0 0 0, .int .i64 6]) (by simp [results, Try.results42, go_sem]) rfl ⟨rfl, (Below.refl _ _).alloc (Nat.le_refl _) _⟩

/-- An instruction, and no error. -/
def TheInsn (op dst src off imm : Int) (w : World) (e : Ending) (w' : World) : Prop := e = .returned (.tuple #[insnV op dst src off imm, .int .i64 0]) ∧ Below w.heap.size w w'
set_option maxHeartbeats 400000 in
theorem take_ok (g o c : Nat) (b0 b1 b2 b3 b4 b5 b6 b7 : Int) (w : World)
    (c0 : w.cell? ⟨g, o, none⟩ = some (.int .u8 b0)) (c1 : w.cell? ⟨g, o + 1, none⟩ = some (.int .u8 b1)) (c2 : w.cell? ⟨g, o + 2, none⟩ = some (.int .u8 b2)) (c3 : w.cell? ⟨g, o + 3, none⟩ = some (.int .u8 b3))
    (c4 : w.cell? ⟨g, o + 4, none⟩ = some (.int .u8 b4)) (c5 : w.cell? ⟨g, o + 5, none⟩ = some (.int .u8 b5)) (c6 : w.cell? ⟨g, o + 6, none⟩ = some (.int .u8 b6)) (c7 : w.cell? ⟨g, o + 7, none⟩ = some (.int .u8 b7))
    (l0 : 0 ≤ b0 ∧ b0 ≤ 255) (l1 : 0 ≤ b1 ∧ b1 ≤ 255) (l2 : 0 ≤ b2 ∧ b2 ≤ 255) (l3 : 0 ≤ b3 ∧ b3 ≤ 255) (l4 : 0 ≤ b4 ∧ b4 ≤ 255) (l5 : 0 ≤ b5 ∧ b5 ≤ 255) (l6 : 0 ≤ b6 ∧ b6 ≤ 255) (l7 : 0 ≤ b7 ∧ b7 ≤ 255) (hg : g < w.heap.size) :
    Calls Try.prog 42 #[.slice (some ⟨g, o, none⟩) 8 c] w (TheInsn b0 (b1 % 16) (b1 / 16) (IntKind.i16.wrap (b2 + 256 * b3)) (wrap32 (b4 + 256 * b5 + 65536 * b6 + 16777216 * b7)) w) := by
  go_enter Try.func42, Try.ntmps42
  go_wp2
  go_quiet (fail)
  go_wp2
  go_quiet (fail)
  go_wp2
  rw [two_or b2 b3 l2 l3, four_or b4 b5 b6 b7 l4 l5 l6 l7]
  go_region
  go_wp2
  refine bodyPost_ret (v := .tuple #[insnV b0 (b1 % 16) (b1 / 16) (IntKind.i16.wrap (b2 + 256 * b3)) (wrap32 (b4 + 256 * b5 + 65536 * b6 + 16777216 * b7)), .int .i64 0]) (by simp [results, Try.results42, go_sem]) rfl ⟨rfl, ?_⟩
  exact (((((below_drewN ((Below.refl _ _).alloc (Nat.le_refl _) _) _).setCell (Nat.le_refl _) _).setCell (Nat.le_refl _) _).setCell (Nat.le_refl _) _).setCell (Nat.le_refl _) _).setCell (Nat.le_refl _) _

end Go.Proofs.Ytplndcjmbgkcjaa
