/-
  P1.2: the number of two instructions, and the statement InsnLong's walk.
  Conditions: none beyond the row's own.
-/
import Derived.Test.YtkggikcgaalgiaaParts
namespace Go.Proofs.Ytkggikcgaalgiaa
open Go.RowKit
set_option linter.unusedVariables false

theorem or_u64 (i : Nat) (a b : Int) (h1 : 0 ≤ a) (h2 : a < 2 ^ i) (h3 : 0 ≤ b) (h4 : b < 18446744073709551616) (hi : (2 : Int) ^ i ≤ 18446744073709551616) (h5 : b.toNat % 2 ^ i = 0) : bits .or .u64 a b = a + b := by
  have ha : a.toNat < 2 ^ i := by
    have : (a.toNat : Int) < ((2 ^ i : Nat) : Int) := by push_cast; omega
    omega
  rw [u64_or a b h1 (by omega) h3 h4, nat_or_low i _ _ ha h5]; omega

/-- The number of two that are one. -/
def longOf (a b : Int) : Int := a % 4294967296 + 4294967296 * (b % 4294967296)

theorem long_or (a b : Int) : bits .or .u64 (a % 4294967296) (b % 4294967296 * 4294967296) = longOf a b := by
  rw [or_u64 32 _ _ (by omega) (by omega) (by omega) (by omega) (by decide) (by omega)]; unfold longOf; omega

theorem insn_long (op dst src off imm op' dst' src' off' imm' : Int) (w : World) :
    Calls Try.prog 13 #[insnV op dst src off imm, insnV op' dst' src' off' imm'] w fun e w' => e = .returned (.int .u64 (longOf imm imm')) ∧ Below w.heap.size w w' := by
  go_enter Try.func13, Try.ntmps13
  go_wp2
  go_quiet (fail)
  go_wp2
  rw [long_or]
  go_ret
  exact ⟨rfl, below_drewN (((Below.refl _ _).alloc (Nat.le_refl _) _).alloc (by simp) _) _⟩

theorem ref_long (op dst src off imm op' dst' src' off' imm' : Int) (w : World) :
    Calls Try.prog 14 #[insnV op dst src off imm, insnV op' dst' src' off' imm'] w fun e w' => e = .returned (.int .u64 (longOf imm imm')) ∧ Below w.heap.size w w' := by
  go_enter Try.func14, Try.ntmps14
  go_wp2
  go_ret
  exact ⟨rfl, ((Below.refl _ _).alloc (Nat.le_refl _) _).alloc (by simp) _⟩

theorem insn_class (op dst src off imm : Int) (h : 0 ≤ op) (w : World) :
    Calls Try.prog 11 #[insnV op dst src off imm] w fun e w' => e = .returned (.int .u8 (op % 8)) ∧ Below w.heap.size w w' := by
  go_enter Try.func11, Try.ntmps11
  go_wp2
  go_ret
  exact ⟨rfl, (Below.refl _ _).alloc (Nat.le_refl _) _⟩

theorem insn_wide (op dst src off imm : Int) (w : World) :
    Calls Try.prog 12 #[insnV op dst src off imm] w fun e w' => e = .returned (.bool (op == 24)) ∧ Below w.heap.size w w' := by
  go_enter Try.func12, Try.ntmps12
  go_wp2
  go_ret
  exact ⟨rfl, (Below.refl _ _).alloc (Nat.le_refl _) _⟩

theorem Two.free {w w1 : World} {op dst src off imm op' dst' src' off' imm' : Int} (hb : Two w op dst src off imm op' dst' src' off' imm' w1) :
    w1.frozen? ⟨w.heap.size, 4, none⟩ = false ∧ w1.frozen? ⟨w.heap.size + 1, 4, none⟩ = false := by
  refine ⟨(Below.frozen hb (p := ⟨w.heap.size, 4, none⟩) (by show w.heap.size < _; omega)).trans ?_, (Below.frozen hb (p := ⟨w.heap.size + 1, 4, none⟩) (by show w.heap.size + 1 < _; omega)).trans ?_⟩ <;> go_simp
theorem long_bounds (a b : Int) : 0 ≤ longOf a b ∧ longOf a b / 4294967296 ≤ 4294967295 := by unfold longOf; omega

/-- What InsnLong asks of the number. -/
theorem long_parts (a b : Int) (ha : -2147483648 ≤ a ∧ a ≤ 2147483647) (hb : -2147483648 ≤ b ∧ b ≤ 2147483647) :
    wrap32 (longOf a b % 4294967296) = a ∧ wrap32 (longOf a b / 4294967296 % 4294967296) = b := by
  unfold wrap32 longOf; omega

set_option maxHeartbeats 1000000 in
theorem long_walk (op dst src off imm op' dst' src' off' imm' a b : Int) (w : World) (ha : -2147483648 ≤ a ∧ a ≤ 2147483647) (hb : -2147483648 ≤ b ∧ b ≤ 2147483647) :
    Calls Try.prog 6 #[insnV op dst src off imm, insnV op' dst' src' off' imm', .int .i32 a, .int .i32 b] w fun e w' => e = .returned (.bool true) ∧ Below w.heap.size w w' := by
  go_enter Try.func6, Try.ntmps6
  go_wp2_with fail
  refine (shown_true _).mono ?_
  rintro e w2 ⟨rfl, hb2⟩
  have x2 : Two w op dst src off imm op' dst' src' off' imm' w2 := by simpa [Two] using hb2
  clear hb2
  obtain ⟨z0, z1⟩ := x2.free
  obtain ⟨⟨hz2, hy2⟩, ⟨p0, p1, p2, p3, p4⟩, ⟨q0, q1, q2, q3, q4⟩⟩ := x2.cells
  have l0 := (long_bounds a b).1
  have hl := Lib.hid (long_parts a b ha hb)
  go_wp2_with fail
  refine (insn_long _ _ _ _ _ _ _ _ _ _ _).mono ?_
  rintro e w3 ⟨rfl, hb3⟩
  obtain ⟨m0, m1⟩ := Hid.out hl
  have hb4 := (x2.below.setCell (p := ⟨w.heap.size, 4, none⟩) (Nat.le_refl _) (.int .i32 a)).setCell (p := ⟨w.heap.size + 1, 4, none⟩) (by simp) (.int .i32 b)
  have hb5 := hb4.trans (hb3.mono (by have := x2.size; simp; omega))
  clear hb3 hb4 p0 p1 p2 p3 p4 q0 q1 q2 q3 q4 z0 z1 x2 hl ha hb
  go_wp2_with fail
  refine (insn_long _ _ _ _ _ _ _ _ _ _ _).mono ?_
  rintro e w6 ⟨rfl, hb6⟩
  go_wp2_with fail
  go_ret
  exact ⟨rfl, hb5.trans (hb6.mono (by have := hb5.size; omega))⟩

end Go.Proofs.Ytkggikcgaalgiaa
