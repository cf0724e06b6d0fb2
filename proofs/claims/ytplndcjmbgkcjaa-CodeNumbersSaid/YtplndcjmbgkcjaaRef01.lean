/-
  What the document's own Put and Take (package hackleref01) do: the same contracts as insn's.
  Conditions: the parts fit their kinds.
-/
import Derived.Test.YtplndcjmbgkcjaaInsn
import Derived.Lib.Hide
namespace Go.Proofs.Ytplndcjmbgkcjaa
open Go.RowKit
set_option linter.unusedVariables false

theorem u16_range (x : Int) : 0 ≤ IntKind.u16.wrap x ∧ IntKind.u16.wrap x ≤ 65535 := by rw [IntKind.wrap_u16]; omega

set_option maxHeartbeats 400000 in
theorem ref_put_ok (op dst src off imm : Int) (w : World) (h1 : 0 ≤ dst) (h2 : dst ≤ 15) (h3 : 0 ≤ src) (h4 : src ≤ 15) :
    Calls Try.prog 41 #[insnV op dst src off imm] w
      (EightOf op (dst + 16 * src) (off % 256) (off / 256 % 256) (imm % 256) (imm / 256 % 256) (imm / 65536 % 256) (imm / 16777216 % 256) w) := by
  have hu := (u16_range off).1
  have hu' := (u16_range off).2
  go_enter Try.func41, Try.ntmps41
  go_wp2
  have e2 : IntKind.u16.wrap off % 256 = off % 256 := by rw [IntKind.wrap_u16]; omega
  have e3 : IntKind.u16.wrap ((IntKind.u16.wrap off).tdiv 256) % 256 = off / 256 % 256 := by
    rw [Int.tdiv_eq_ediv_of_nonneg hu, IntKind.wrap_u16, IntKind.wrap_u16]; omega
  have e4 : imm % 4294967296 / 256 % 256 = imm / 256 % 256 := by omega
  have e5 : imm % 4294967296 / 65536 % 256 = imm / 65536 % 256 := by omega
  have e6 : imm % 4294967296 / 16777216 = imm / 16777216 % 256 := by omega
  rw [e2, e3, e4, e5, e6]
  go_ret2
  exact ⟨_, rfl, by simp, ((Below.refl _ _).alloc (Nat.le_refl _) _).alloc (by simp) _, heap_at_last _ _ _ (by simp)⟩

set_option maxHeartbeats 400000 in
theorem ref_put_dst (op dst src off imm : Int) (w : World) (h : 15 < dst) :
    Calls Try.prog 41 #[insnV op dst src off imm] w (NoneBut 1 w) := by
  go_enter Try.func41, Try.ntmps41
  go_wp2
  go_ret2
  exact ⟨rfl, (Below.refl _ _).alloc (Nat.le_refl _) _⟩
set_option maxHeartbeats 400000 in
theorem ref_put_src (op dst src off imm : Int) (w : World) (h0 : dst ≤ 15) (h : 15 < src) :
    Calls Try.prog 41 #[insnV op dst src off imm] w (NoneBut 1 w) := by
  go_enter Try.func41, Try.ntmps41
  go_wp2
  go_ret2
  exact ⟨rfl, (Below.refl _ _).alloc (Nat.le_refl _) _⟩

set_option maxHeartbeats 400000 in
theorem ref_take_bad (A : Option Addr) (n c : Nat) (w : World) (h : ((n : Int) == 8) = false) :
    Calls Try.prog 43 #[.slice A n c] w (NoInsn 6 w) := by
  go_enter Try.func43, Try.ntmps43
  go_wp2
  exact bodyPost_ret (v := .tuple #[insnV 0 0 0 0 0, .int .i64 6]) (by simp [results, Try.results43, go_sem]) rfl ⟨rfl, (Below.refl _ _).alloc (Nat.le_refl _) _⟩

set_option maxHeartbeats 400000 in
theorem ref_take_ok (g o c : Nat) (b0 b1 b2 b3 b4 b5 b6 b7 : Int) (w : World)
    (c0 : w.cell? ⟨g, o, none⟩ = some (.int .u8 b0)) (c1 : w.cell? ⟨g, o + 1, none⟩ = some (.int .u8 b1)) (c2 : w.cell? ⟨g, o + 2, none⟩ = some (.int .u8 b2)) (c3 : w.cell? ⟨g, o + 3, none⟩ = some (.int .u8 b3))
    (c4 : w.cell? ⟨g, o + 4, none⟩ = some (.int .u8 b4)) (c5 : w.cell? ⟨g, o + 5, none⟩ = some (.int .u8 b5)) (c6 : w.cell? ⟨g, o + 6, none⟩ = some (.int .u8 b6)) (c7 : w.cell? ⟨g, o + 7, none⟩ = some (.int .u8 b7))
    (l0 : 0 ≤ b0 ∧ b0 ≤ 255) (l1 : 0 ≤ b1 ∧ b1 ≤ 255) (l2 : 0 ≤ b2 ∧ b2 ≤ 255) (l3 : 0 ≤ b3 ∧ b3 ≤ 255) (l4 : 0 ≤ b4 ∧ b4 ≤ 255) (l5 : 0 ≤ b5 ∧ b5 ≤ 255) (l6 : 0 ≤ b6 ∧ b6 ≤ 255) (l7 : 0 ≤ b7 ∧ b7 ≤ 255) (hg : g < w.heap.size) :
    Calls Try.prog 43 #[.slice (some ⟨g, o, none⟩) 8 c] w (TheInsn b0 (b1 % 16) (b1 / 16) (IntKind.i16.wrap (b2 + 256 * b3)) (wrap32 (b4 + 256 * b5 + 65536 * b6 + 16777216 * b7)) w) := by
  go_enter Try.func43, Try.ntmps43
  go_wp2
  go_quiet (fail)
  go_wp2
  go_quiet (fail)
  go_wp2
  go_region
  go_wp2
  refine bodyPost_ret (v := .tuple #[insnV b0 (b1 % 16) (b1 / 16) (IntKind.i16.wrap (b2 + 256 * b3)) (wrap32 (b4 + 256 * b5 + 65536 * b6 + 16777216 * b7)), .int .i64 0]) (by simp [results, Try.results43, go_sem]) rfl ⟨rfl, ?_⟩
  exact (((((below_drewN ((Below.refl _ _).alloc (Nat.le_refl _) _) _).setCell (Nat.le_refl _) _).setCell (Nat.le_refl _) _).setCell (Nat.le_refl _) _).setCell (Nat.le_refl _) _).setCell (Nat.le_refl _) _

end Go.Proofs.Ytplndcjmbgkcjaa
