/-
  Texts, one behind the other: Code2.
  Conditions: those that each theorem states.
-/
import Derived.Test.YtlbhffdpklbhfaaGreatPz16
namespace Go.Proofs.YtlbhffdpklbhfaaGreat
open Go.RowKit
set_option maxRecDepth 100000
set_option linter.unusedVariables false
set_option linter.unusedSimpArgs false
theorem bne_of' {a b : Int} {r : Bool} (h : (a == b) = r) : (a != b) = !r := by unfold bne; rw [h]
set_option maxRecDepth 100000 in
set_option maxHeartbeats 4000000 in
theorem c7_only (x : Ins) (f : Int) (f1 : 0 ≤ f) (f2 : f ≤ 255) (w : World) : Calls Tryz.prog 102 #[iV x, .int .u8 f] w (Gives (.bool (tOnly x f)) w) := by
  have B := Lib.hid (i_box x w)
  have E1 := and3 f f1 f2
  have E2 := and4 f f1 f2
  have E3 := and8 f f1 f2
  have E4 := and16 f f1 f2
  unfold tOnly
  generalize f % 4 = m1 at *
  generalize f / 4 % 2 * 4 = m2 at *
  generalize f / 8 % 2 * 8 = m3 at *
  generalize f / 16 % 2 * 16 = m4 at *
  rcases or_ways (x.dst == 0) (m1 != 0) with h1 | ⟨h1, k1⟩ | ⟨h1, k1⟩
  · skip
    rcases or_ways (x.src == 0) (m2 != 0) with h2 | ⟨h2, k2⟩ | ⟨h2, k2⟩
    · skip
      rcases or_ways (x.off == 0) (m3 != 0) with h3 | ⟨h3, k3⟩ | ⟨h3, k3⟩
      · skip
        rcases or_ways (x.imm == 0) (m4 != 0) with h4 | ⟨h4, k4⟩ | ⟨h4, k4⟩
        · skip
          rw [show ((x.dst == 0 || m1 != 0) && ((x.src == 0 || m2 != 0) && ((x.off == 0 || m3 != 0) && (x.imm == 0 || m4 != 0)))) = true by simp only [h1, Bool.true_or, h2, Bool.true_or, h3, Bool.true_or, h4, Bool.true_or]; rfl]
          go_enter Tryz.func102, Tryz.ntmps102
          go_wp2_with fail
          go_ret
          exact ⟨rfl, B.out⟩
        · skip
          rw [show ((x.dst == 0 || m1 != 0) && ((x.src == 0 || m2 != 0) && ((x.off == 0 || m3 != 0) && (x.imm == 0 || m4 != 0)))) = true by simp only [h1, Bool.true_or, h2, Bool.true_or, h3, Bool.true_or, h4, k4, Bool.or_true]; rfl]
          go_enter Tryz.func102, Tryz.ntmps102
          go_wp2_with fail
          go_ret
          exact ⟨rfl, B.out⟩
        · skip
          rw [show ((x.dst == 0 || m1 != 0) && ((x.src == 0 || m2 != 0) && ((x.off == 0 || m3 != 0) && (x.imm == 0 || m4 != 0)))) = false by simp only [h1, Bool.true_or, h2, Bool.true_or, h3, Bool.true_or, h4, k4, Bool.or_self, Bool.false_and, Bool.and_false]]
          go_enter Tryz.func102, Tryz.ntmps102
          go_wp2_with fail
          go_ret
          exact ⟨rfl, B.out⟩
      · skip
        rcases or_ways (x.imm == 0) (m4 != 0) with h4 | ⟨h4, k4⟩ | ⟨h4, k4⟩
        · skip
          rw [show ((x.dst == 0 || m1 != 0) && ((x.src == 0 || m2 != 0) && ((x.off == 0 || m3 != 0) && (x.imm == 0 || m4 != 0)))) = true by simp only [h1, Bool.true_or, h2, Bool.true_or, h3, k3, Bool.or_true, h4, Bool.true_or]; rfl]
          go_enter Tryz.func102, Tryz.ntmps102
          go_wp2_with fail
          go_ret
          exact ⟨rfl, B.out⟩
        · skip
          rw [show ((x.dst == 0 || m1 != 0) && ((x.src == 0 || m2 != 0) && ((x.off == 0 || m3 != 0) && (x.imm == 0 || m4 != 0)))) = true by simp only [h1, Bool.true_or, h2, Bool.true_or, h3, k3, Bool.or_true, h4, k4, Bool.or_true]; rfl]
          go_enter Tryz.func102, Tryz.ntmps102
          go_wp2_with fail
          go_ret
          exact ⟨rfl, B.out⟩
        · skip
          rw [show ((x.dst == 0 || m1 != 0) && ((x.src == 0 || m2 != 0) && ((x.off == 0 || m3 != 0) && (x.imm == 0 || m4 != 0)))) = false by simp only [h1, Bool.true_or, h2, Bool.true_or, h3, k3, Bool.or_true, h4, k4, Bool.or_self, Bool.false_and, Bool.and_false]]
          go_enter Tryz.func102, Tryz.ntmps102
          go_wp2_with fail
          go_ret
          exact ⟨rfl, B.out⟩
      · skip
        rw [show ((x.dst == 0 || m1 != 0) && ((x.src == 0 || m2 != 0) && ((x.off == 0 || m3 != 0) && (x.imm == 0 || m4 != 0)))) = false by simp only [h1, Bool.true_or, h2, Bool.true_or, h3, k3, Bool.or_self, Bool.false_and, Bool.and_false]]
        go_enter Tryz.func102, Tryz.ntmps102
        go_wp2_with fail
        go_ret
        exact ⟨rfl, B.out⟩
    · skip
      rcases or_ways (x.off == 0) (m3 != 0) with h3 | ⟨h3, k3⟩ | ⟨h3, k3⟩
      · skip
        rcases or_ways (x.imm == 0) (m4 != 0) with h4 | ⟨h4, k4⟩ | ⟨h4, k4⟩
        · skip
          rw [show ((x.dst == 0 || m1 != 0) && ((x.src == 0 || m2 != 0) && ((x.off == 0 || m3 != 0) && (x.imm == 0 || m4 != 0)))) = true by simp only [h1, Bool.true_or, h2, k2, Bool.or_true, h3, Bool.true_or, h4, Bool.true_or]; rfl]
          go_enter Tryz.func102, Tryz.ntmps102
          go_wp2_with fail
          go_ret
          exact ⟨rfl, B.out⟩
        · skip
          rw [show ((x.dst == 0 || m1 != 0) && ((x.src == 0 || m2 != 0) && ((x.off == 0 || m3 != 0) && (x.imm == 0 || m4 != 0)))) = true by simp only [h1, Bool.true_or, h2, k2, Bool.or_true, h3, Bool.true_or, h4, k4, Bool.or_true]; rfl]
          go_enter Tryz.func102, Tryz.ntmps102
          go_wp2_with fail
          go_ret
          exact ⟨rfl, B.out⟩
        · skip
          rw [show ((x.dst == 0 || m1 != 0) && ((x.src == 0 || m2 != 0) && ((x.off == 0 || m3 != 0) && (x.imm == 0 || m4 != 0)))) = false by simp only [h1, Bool.true_or, h2, k2, Bool.or_true, h3, Bool.true_or, h4, k4, Bool.or_self, Bool.false_and, Bool.and_false]]
          go_enter Tryz.func102, Tryz.ntmps102
          go_wp2_with fail
          go_ret
          exact ⟨rfl, B.out⟩
      · skip
        rcases or_ways (x.imm == 0) (m4 != 0) with h4 | ⟨h4, k4⟩ | ⟨h4, k4⟩
        · skip
          rw [show ((x.dst == 0 || m1 != 0) && ((x.src == 0 || m2 != 0) && ((x.off == 0 || m3 != 0) && (x.imm == 0 || m4 != 0)))) = true by simp only [h1, Bool.true_or, h2, k2, Bool.or_true, h3, k3, Bool.or_true, h4, Bool.true_or]; rfl]
          go_enter Tryz.func102, Tryz.ntmps102
          go_wp2_with fail
          go_ret
          exact ⟨rfl, B.out⟩
        · skip
          rw [show ((x.dst == 0 || m1 != 0) && ((x.src == 0 || m2 != 0) && ((x.off == 0 || m3 != 0) && (x.imm == 0 || m4 != 0)))) = true by simp only [h1, Bool.true_or, h2, k2, Bool.or_true, h3, k3, Bool.or_true, h4, k4, Bool.or_true]; rfl]
          go_enter Tryz.func102, Tryz.ntmps102
          go_wp2_with fail
          go_ret
          exact ⟨rfl, B.out⟩
        · skip
          rw [show ((x.dst == 0 || m1 != 0) && ((x.src == 0 || m2 != 0) && ((x.off == 0 || m3 != 0) && (x.imm == 0 || m4 != 0)))) = false by simp only [h1, Bool.true_or, h2, k2, Bool.or_true, h3, k3, Bool.or_true, h4, k4, Bool.or_self, Bool.false_and, Bool.and_false]]
          go_enter Tryz.func102, Tryz.ntmps102
          go_wp2_with fail
          go_ret
          exact ⟨rfl, B.out⟩
      · skip
        rw [show ((x.dst == 0 || m1 != 0) && ((x.src == 0 || m2 != 0) && ((x.off == 0 || m3 != 0) && (x.imm == 0 || m4 != 0)))) = false by simp only [h1, Bool.true_or, h2, k2, Bool.or_true, h3, k3, Bool.or_self, Bool.false_and, Bool.and_false]]
        go_enter Tryz.func102, Tryz.ntmps102
        go_wp2_with fail
        go_ret
        exact ⟨rfl, B.out⟩
    · skip
      rw [show ((x.dst == 0 || m1 != 0) && ((x.src == 0 || m2 != 0) && ((x.off == 0 || m3 != 0) && (x.imm == 0 || m4 != 0)))) = false by simp only [h1, Bool.true_or, h2, k2, Bool.or_self, Bool.false_and, Bool.and_false]]
      go_enter Tryz.func102, Tryz.ntmps102
      go_wp2_with fail
      go_ret
      exact ⟨rfl, B.out⟩
  · skip
    rcases or_ways (x.src == 0) (m2 != 0) with h2 | ⟨h2, k2⟩ | ⟨h2, k2⟩
    · skip
      rcases or_ways (x.off == 0) (m3 != 0) with h3 | ⟨h3, k3⟩ | ⟨h3, k3⟩
      · skip
        rcases or_ways (x.imm == 0) (m4 != 0) with h4 | ⟨h4, k4⟩ | ⟨h4, k4⟩
        · skip
          rw [show ((x.dst == 0 || m1 != 0) && ((x.src == 0 || m2 != 0) && ((x.off == 0 || m3 != 0) && (x.imm == 0 || m4 != 0)))) = true by simp only [h1, k1, Bool.or_true, h2, Bool.true_or, h3, Bool.true_or, h4, Bool.true_or]; rfl]
          go_enter Tryz.func102, Tryz.ntmps102
          go_wp2_with fail
          go_ret
          exact ⟨rfl, B.out⟩
        · skip
          rw [show ((x.dst == 0 || m1 != 0) && ((x.src == 0 || m2 != 0) && ((x.off == 0 || m3 != 0) && (x.imm == 0 || m4 != 0)))) = true by simp only [h1, k1, Bool.or_true, h2, Bool.true_or, h3, Bool.true_or, h4, k4, Bool.or_true]; rfl]
          go_enter Tryz.func102, Tryz.ntmps102
          go_wp2_with fail
          go_ret
          exact ⟨rfl, B.out⟩
        · skip
          rw [show ((x.dst == 0 || m1 != 0) && ((x.src == 0 || m2 != 0) && ((x.off == 0 || m3 != 0) && (x.imm == 0 || m4 != 0)))) = false by simp only [h1, k1, Bool.or_true, h2, Bool.true_or, h3, Bool.true_or, h4, k4, Bool.or_self, Bool.false_and, Bool.and_false]]
          go_enter Tryz.func102, Tryz.ntmps102
          go_wp2_with fail
          go_ret
          exact ⟨rfl, B.out⟩
      · skip
        rcases or_ways (x.imm == 0) (m4 != 0) with h4 | ⟨h4, k4⟩ | ⟨h4, k4⟩
        · skip
          rw [show ((x.dst == 0 || m1 != 0) && ((x.src == 0 || m2 != 0) && ((x.off == 0 || m3 != 0) && (x.imm == 0 || m4 != 0)))) = true by simp only [h1, k1, Bool.or_true, h2, Bool.true_or, h3, k3, Bool.or_true, h4, Bool.true_or]; rfl]
          go_enter Tryz.func102, Tryz.ntmps102
          go_wp2_with fail
          go_ret
          exact ⟨rfl, B.out⟩
        · skip
          rw [show ((x.dst == 0 || m1 != 0) && ((x.src == 0 || m2 != 0) && ((x.off == 0 || m3 != 0) && (x.imm == 0 || m4 != 0)))) = true by simp only [h1, k1, Bool.or_true, h2, Bool.true_or, h3, k3, Bool.or_true, h4, k4, Bool.or_true]; rfl]
          go_enter Tryz.func102, Tryz.ntmps102
          go_wp2_with fail
          go_ret
          exact ⟨rfl, B.out⟩
        · skip
          rw [show ((x.dst == 0 || m1 != 0) && ((x.src == 0 || m2 != 0) && ((x.off == 0 || m3 != 0) && (x.imm == 0 || m4 != 0)))) = false by simp only [h1, k1, Bool.or_true, h2, Bool.true_or, h3, k3, Bool.or_true, h4, k4, Bool.or_self, Bool.false_and, Bool.and_false]]
          go_enter Tryz.func102, Tryz.ntmps102
          go_wp2_with fail
          go_ret
          exact ⟨rfl, B.out⟩
      · skip
        rw [show ((x.dst == 0 || m1 != 0) && ((x.src == 0 || m2 != 0) && ((x.off == 0 || m3 != 0) && (x.imm == 0 || m4 != 0)))) = false by simp only [h1, k1, Bool.or_true, h2, Bool.true_or, h3, k3, Bool.or_self, Bool.false_and, Bool.and_false]]
        go_enter Tryz.func102, Tryz.ntmps102
        go_wp2_with fail
        go_ret
        exact ⟨rfl, B.out⟩
    · skip
      rcases or_ways (x.off == 0) (m3 != 0) with h3 | ⟨h3, k3⟩ | ⟨h3, k3⟩
      · skip
        rcases or_ways (x.imm == 0) (m4 != 0) with h4 | ⟨h4, k4⟩ | ⟨h4, k4⟩
        · skip
          rw [show ((x.dst == 0 || m1 != 0) && ((x.src == 0 || m2 != 0) && ((x.off == 0 || m3 != 0) && (x.imm == 0 || m4 != 0)))) = true by simp only [h1, k1, Bool.or_true, h2, k2, Bool.or_true, h3, Bool.true_or, h4, Bool.true_or]; rfl]
          go_enter Tryz.func102, Tryz.ntmps102
          go_wp2_with fail
          go_ret
          exact ⟨rfl, B.out⟩
        · skip
          rw [show ((x.dst == 0 || m1 != 0) && ((x.src == 0 || m2 != 0) && ((x.off == 0 || m3 != 0) && (x.imm == 0 || m4 != 0)))) = true by simp only [h1, k1, Bool.or_true, h2, k2, Bool.or_true, h3, Bool.true_or, h4, k4, Bool.or_true]; rfl]
          go_enter Tryz.func102, Tryz.ntmps102
          go_wp2_with fail
          go_ret
          exact ⟨rfl, B.out⟩
        · skip
          rw [show ((x.dst == 0 || m1 != 0) && ((x.src == 0 || m2 != 0) && ((x.off == 0 || m3 != 0) && (x.imm == 0 || m4 != 0)))) = false by simp only [h1, k1, Bool.or_true, h2, k2, Bool.or_true, h3, Bool.true_or, h4, k4, Bool.or_self, Bool.false_and, Bool.and_false]]
          go_enter Tryz.func102, Tryz.ntmps102
          go_wp2_with fail
          go_ret
          exact ⟨rfl, B.out⟩
      · skip
        rcases or_ways (x.imm == 0) (m4 != 0) with h4 | ⟨h4, k4⟩ | ⟨h4, k4⟩
        · skip
          rw [show ((x.dst == 0 || m1 != 0) && ((x.src == 0 || m2 != 0) && ((x.off == 0 || m3 != 0) && (x.imm == 0 || m4 != 0)))) = true by simp only [h1, k1, Bool.or_true, h2, k2, Bool.or_true, h3, k3, Bool.or_true, h4, Bool.true_or]; rfl]
          go_enter Tryz.func102, Tryz.ntmps102
          go_wp2_with fail
          go_ret
          exact ⟨rfl, B.out⟩
        · skip
          rw [show ((x.dst == 0 || m1 != 0) && ((x.src == 0 || m2 != 0) && ((x.off == 0 || m3 != 0) && (x.imm == 0 || m4 != 0)))) = true by simp only [h1, k1, Bool.or_true, h2, k2, Bool.or_true, h3, k3, Bool.or_true, h4, k4, Bool.or_true]; rfl]
          go_enter Tryz.func102, Tryz.ntmps102
          go_wp2_with fail
          go_ret
          exact ⟨rfl, B.out⟩
        · skip
          rw [show ((x.dst == 0 || m1 != 0) && ((x.src == 0 || m2 != 0) && ((x.off == 0 || m3 != 0) && (x.imm == 0 || m4 != 0)))) = false by simp only [h1, k1, Bool.or_true, h2, k2, Bool.or_true, h3, k3, Bool.or_true, h4, k4, Bool.or_self, Bool.false_and, Bool.and_false]]
          go_enter Tryz.func102, Tryz.ntmps102
          go_wp2_with fail
          go_ret
          exact ⟨rfl, B.out⟩
      · skip
        rw [show ((x.dst == 0 || m1 != 0) && ((x.src == 0 || m2 != 0) && ((x.off == 0 || m3 != 0) && (x.imm == 0 || m4 != 0)))) = false by simp only [h1, k1, Bool.or_true, h2, k2, Bool.or_true, h3, k3, Bool.or_self, Bool.false_and, Bool.and_false]]
        go_enter Tryz.func102, Tryz.ntmps102
        go_wp2_with fail
        go_ret
        exact ⟨rfl, B.out⟩
    · skip
      rw [show ((x.dst == 0 || m1 != 0) && ((x.src == 0 || m2 != 0) && ((x.off == 0 || m3 != 0) && (x.imm == 0 || m4 != 0)))) = false by simp only [h1, k1, Bool.or_true, h2, k2, Bool.or_self, Bool.false_and, Bool.and_false]]
      go_enter Tryz.func102, Tryz.ntmps102
      go_wp2_with fail
      go_ret
      exact ⟨rfl, B.out⟩
  · skip
    rw [show ((x.dst == 0 || m1 != 0) && ((x.src == 0 || m2 != 0) && ((x.off == 0 || m3 != 0) && (x.imm == 0 || m4 != 0)))) = false by simp only [h1, k1, Bool.or_self, Bool.false_and, Bool.and_false]]
    go_enter Tryz.func102, Tryz.ntmps102
    go_wp2_with fail
    go_ret
    exact ⟨rfl, B.out⟩
set_option maxRecDepth 100000 in
set_option maxHeartbeats 4000000 in
theorem c7_registers (x : Ins) (f : Int) (f1 : 0 ≤ f) (f2 : f ≤ 255) (w : World) : Calls Tryz.prog 103 #[iV x, .int .u8 f] w (Gives (.bool (tRegs x f)) w) := by
  have B := Lib.hid (i_box x w)
  have E1 := and1 f f1 f2
  unfold tRegs
  generalize f % 2 = m1 at *
  cases h1 : decide (x.dst ≤ 10)
  · skip
    go_enter Tryz.func103, Tryz.ntmps103
    go_wp2_with fail
    go_ret
    exact ⟨rfl, B.out⟩
  cases h2 : decide (x.src ≤ 10)
  · skip
    go_enter Tryz.func103, Tryz.ntmps103
    go_wp2_with fail
    go_ret
    exact ⟨rfl, B.out⟩
  rcases or_ways (x.dst != 10) (m1 == 0) with h3 | ⟨h3, h4⟩ | ⟨h3, h4⟩
  · rw [h3]
    go_enter Tryz.func103, Tryz.ntmps103
    go_wp2_with fail
    go_ret
    exact ⟨rfl, B.out⟩
  · rw [h3, h4]
    go_enter Tryz.func103, Tryz.ntmps103
    go_wp2_with fail
    go_ret
    exact ⟨rfl, B.out⟩
  · rw [h3, h4]
    go_enter Tryz.func103, Tryz.ntmps103
    go_wp2_with fail
    go_ret
    exact ⟨rfl, B.out⟩
set_option maxRecDepth 100000 in
set_option maxHeartbeats 4000000 in
theorem c7_offFits (v : Wh) (n : Int) (w : World) : Calls Tryz.prog 182 #[whV v, .int .i16 n] w (Gives (.bool (offB v.op v.wide v.reg n)) w) := by
  have B := Lib.hid (below_alloc (Below.refl w.heap.size w) (.cells (whCells v) 96))
  obtain ⟨kd, op, wi, re, si, sz⟩ := v
  unfold offB
  simp only at *
  cases h0 : (n == 0)
  rotate_left 1
  · skip
    go_enter Tryz.func182, Tryz.ntmps182
    go_wp2_with fail
    go_ret
    exact ⟨rfl, B.out⟩
  have e0 : (false = true) = False := by simp
  simp only [e0, if_false]
  rcases or_ways (op == 48) (op == 144) with h1 | ⟨h1, h2⟩ | ⟨h1, h2⟩
  · simp only [h1, Bool.true_or, if_true]
    go_enter Tryz.func182, Tryz.ntmps182
    go_wp2_with fail
    go_ret
    exact ⟨rfl, B.out⟩
  · simp only [h1, h2, Bool.false_or, if_true]
    go_enter Tryz.func182, Tryz.ntmps182
    go_wp2_with fail
    go_ret
    exact ⟨rfl, B.out⟩
  simp only [h1, h2, Bool.or_self, e0, if_false]
  cases h3 : (op == 176)
  · simp only [Bool.false_and, e0, if_false]
    go_enter Tryz.func182, Tryz.ntmps182
    go_wp2_with fail
    go_ret
    exact ⟨rfl, B.out⟩
  cases re
  · simp only [Bool.true_and, e0, if_false]
    go_enter Tryz.func182, Tryz.ntmps182
    go_wp2_with fail
    go_ret
    exact ⟨rfl, B.out⟩
  simp only [Bool.true_and, if_true]
  cases h4 : (n == 8)
  rotate_left 1
  · skip
    go_enter Tryz.func182, Tryz.ntmps182
    go_wp2_with fail
    go_ret
    exact ⟨rfl, B.out⟩
  cases h5 : (n == 16)
  rotate_left 1
  · skip
    go_enter Tryz.func182, Tryz.ntmps182
    go_wp2_with fail
    go_ret
    exact ⟨rfl, B.out⟩
  cases h6 : (n == 32)
  · skip
    go_enter Tryz.func182, Tryz.ntmps182
    go_wp2_with fail
    go_ret
    exact ⟨rfl, B.out⟩
  cases wi
  · skip
    go_enter Tryz.func182, Tryz.ntmps182
    go_wp2_with fail
    go_ret
    exact ⟨rfl, B.out⟩
  · skip
    go_enter Tryz.func182, Tryz.ntmps182
    go_wp2_with fail
    go_ret
    exact ⟨rfl, B.out⟩
set_option maxRecDepth 100000 in
set_option maxHeartbeats 4000000 in
theorem c7_alone (x : Ins) (hx : x.ok) (w : World) : Calls Tryz.prog 152 #[iV x] w (Gives (.tuple #[whV (tAlone x).1, .int .u8 (tAlone x).2]) w) := by
  unfold tAlone
  have P := Lib.hid (IDuo.new x Wh.zero w)
  cases h5 : (x.op == 5)
  rotate_left 1
  · rw [if_pos rfl]
    have BB := Lib.hid (IDuo.new x (⟨9, 0, false, false, false, 0⟩ : Wh) w).1
    go_enter Tryz.func152, Tryz.ntmps152
    go_wp2_with fail
    exact bodyPost_ret (v := .tuple #[whV (⟨9, 0, false, false, false, 0⟩ : Wh), .int .u8 8]) (by simp [results, Tryz.results152, go_sem, Wh.zero]) rfl ⟨rfl, BB.out⟩
  rw [if_neg Bool.false_ne_true]
  cases h6 : (x.op == 6)
  rotate_left 1
  · rw [if_pos rfl]
    have BB := Lib.hid (IDuo.new x (⟨9, 0, false, false, false, 0⟩ : Wh) w).1
    go_enter Tryz.func152, Tryz.ntmps152
    go_wp2_with fail
    exact bodyPost_ret (v := .tuple #[whV (⟨9, 0, false, false, false, 0⟩ : Wh), .int .u8 16]) (by simp [results, Tryz.results152, go_sem, Wh.zero]) rfl ⟨rfl, BB.out⟩
  rw [if_neg Bool.false_ne_true]
  cases h133 : (x.op == 133)
  rotate_left 1
  · rw [if_pos rfl]
    have BB := Lib.hid (IDuo.new x (⟨11, 0, false, false, false, 0⟩ : Wh) w).1
    go_enter Tryz.func152, Tryz.ntmps152
    go_wp2_with fail
    exact bodyPost_ret (v := .tuple #[whV (⟨11, 0, false, false, false, 0⟩ : Wh), .int .u8 16]) (by simp [results, Tryz.results152, go_sem, Wh.zero]) rfl ⟨rfl, BB.out⟩
  rw [if_neg Bool.false_ne_true]
  cases h149 : (x.op == 149)
  rotate_left 1
  · rw [if_pos rfl]
    have BB := Lib.hid (IDuo.new x (⟨12, 0, false, false, false, 0⟩ : Wh) w).1
    go_enter Tryz.func152, Tryz.ntmps152
    go_wp2_with fail
    exact bodyPost_ret (v := .tuple #[whV (⟨12, 0, false, false, false, 0⟩ : Wh), .int .u8 0]) (by simp [results, Tryz.results152, go_sem, Wh.zero]) rfl ⟨rfl, BB.out⟩
  rw [if_neg Bool.false_ne_true]
  have BB := Lib.hid (IDuo.new x Wh.zero w).1
  go_enter Tryz.func152, Tryz.ntmps152
  go_wp2_with fail
  exact bodyPost_ret (v := .tuple #[whV Wh.zero, .int .u8 0]) (by simp [results, Tryz.results152, go_sem, Wh.zero]) rfl ⟨rfl, BB.out⟩
set_option maxRecDepth 100000 in
set_option maxHeartbeats 4000000 in
theorem c7_double (x : Ins) (hx : x.ok) (w : World) : Calls Tryz.prog 145 #[iV x] w (Gives (.tuple #[whV (tDouble x).1, .int .u8 (tDouble x).2]) w) := by
  have hs : 0 ≤ x.imm ∨ x.imm < 0 := by omega
  have C := Lib.hid (c7_wide x)
  unfold tDouble
  have P := Lib.hid (IDuo.new x Wh.zero w)
  cases h0 : (x.op == 24)
  · rw [h0] at C
    rw [if_neg Bool.false_ne_true]
    go_enter Tryz.func145, Tryz.ntmps145
    go_wp2_with fail
    refine (C.out _).mono ?_
    rintro e w5 ⟨rfl, b5⟩
    have Q := Lib.hid (P.out.after b5)
    clear b5
    obtain ⟨p0, p1, p2, p3, p4⟩ := Q.out.2.1.cells
    obtain ⟨f0, f1, f2, f3, f4, f5⟩ := Q.out.2.2.free
    obtain ⟨z0, z1, z2, z3, z4, z5⟩ := Q.out.2.2.cells
    have k1 := Q.out.2.1.lt
    have k2 := Q.out.2.2.lt
    have BB := Lib.hid (Q.out.set Wh.zero).1
    go_wp2_with fail
    exact bodyPost_ret (v := .tuple #[whV Wh.zero, .int .u8 0]) (by simp [results, Tryz.results145, go_sem, z0, z1, z2, z3, z4, z5, k2, Wh.zero]) rfl ⟨rfl, BB.out⟩
  rw [h0] at C
  rw [if_pos rfl]
  cases h1 : (x.src == 0)
  rotate_left 1
  · rw [if_pos rfl]
    go_enter Tryz.func145, Tryz.ntmps145
    go_wp2_with fail
    refine (C.out _).mono ?_
    rintro e w5 ⟨rfl, b5⟩
    have Q := Lib.hid (P.out.after b5)
    clear b5
    obtain ⟨p0, p1, p2, p3, p4⟩ := Q.out.2.1.cells
    obtain ⟨f0, f1, f2, f3, f4, f5⟩ := Q.out.2.2.free
    obtain ⟨z0, z1, z2, z3, z4, z5⟩ := Q.out.2.2.cells
    have k1 := Q.out.2.1.lt
    have k2 := Q.out.2.2.lt
    have BB := Lib.hid (Q.out.set (⟨3, 0, true, false, false, 0⟩ : Wh)).1
    go_wp2_with fail
    exact bodyPost_ret (v := .tuple #[whV (⟨3, 0, true, false, false, 0⟩ : Wh), .int .u8 17]) (by simp [results, Tryz.results145, go_sem, z0, z1, z2, z3, z4, z5, k2, Wh.zero]) rfl ⟨rfl, BB.out⟩
  rw [if_neg Bool.false_ne_true]
  cases h2 : (x.src == 1)
  · rw [Bool.false_and, if_neg Bool.false_ne_true]
    go_enter Tryz.func145, Tryz.ntmps145
    go_wp2_with fail
    refine (C.out _).mono ?_
    rintro e w5 ⟨rfl, b5⟩
    have Q := Lib.hid (P.out.after b5)
    clear b5
    obtain ⟨p0, p1, p2, p3, p4⟩ := Q.out.2.1.cells
    obtain ⟨f0, f1, f2, f3, f4, f5⟩ := Q.out.2.2.free
    obtain ⟨z0, z1, z2, z3, z4, z5⟩ := Q.out.2.2.cells
    have k1 := Q.out.2.1.lt
    have k2 := Q.out.2.2.lt
    have BB := Lib.hid (Q.out.set Wh.zero).1
    go_wp2_with fail
    exact bodyPost_ret (v := .tuple #[whV Wh.zero, .int .u8 0]) (by simp [results, Tryz.results145, go_sem, z0, z1, z2, z3, z4, z5, k2, Wh.zero]) rfl ⟨rfl, BB.out⟩
  rcases hs with hs | hs
  · rw [decide_eq_true hs, Bool.and_self, if_pos rfl]
    go_enter Tryz.func145, Tryz.ntmps145
    go_wp2_with fail
    refine (C.out _).mono ?_
    rintro e w5 ⟨rfl, b5⟩
    have Q := Lib.hid (P.out.after b5)
    clear b5
    obtain ⟨p0, p1, p2, p3, p4⟩ := Q.out.2.1.cells
    obtain ⟨f0, f1, f2, f3, f4, f5⟩ := Q.out.2.2.free
    obtain ⟨z0, z1, z2, z3, z4, z5⟩ := Q.out.2.2.cells
    have k1 := Q.out.2.1.lt
    have k2 := Q.out.2.2.lt
    have BB := Lib.hid (Q.out.set (⟨4, 0, true, false, false, 0⟩ : Wh)).1
    go_wp2_with fail
    exact bodyPost_ret (v := .tuple #[whV (⟨4, 0, true, false, false, 0⟩ : Wh), .int .u8 21]) (by simp [results, Tryz.results145, go_sem, z0, z1, z2, z3, z4, z5, k2, Wh.zero]) rfl ⟨rfl, BB.out⟩
  · rw [decide_eq_false (by omega), Bool.and_false, if_neg Bool.false_ne_true]
    go_enter Tryz.func145, Tryz.ntmps145
    go_wp2_with fail
    refine (C.out _).mono ?_
    rintro e w5 ⟨rfl, b5⟩
    have Q := Lib.hid (P.out.after b5)
    clear b5
    obtain ⟨p0, p1, p2, p3, p4⟩ := Q.out.2.1.cells
    obtain ⟨f0, f1, f2, f3, f4, f5⟩ := Q.out.2.2.free
    obtain ⟨z0, z1, z2, z3, z4, z5⟩ := Q.out.2.2.cells
    have k1 := Q.out.2.1.lt
    have k2 := Q.out.2.2.lt
    have BB := Lib.hid (Q.out.set Wh.zero).1
    go_wp2_with fail
    exact bodyPost_ret (v := .tuple #[whV Wh.zero, .int .u8 0]) (by simp [results, Tryz.results145, go_sem, z0, z1, z2, z3, z4, z5, k2, Wh.zero]) rfl ⟨rfl, BB.out⟩
set_option maxRecDepth 100000 in
set_option maxHeartbeats 4000000 in
theorem c7_store (x : Ins) (hx : x.ok) (w : World) : Calls Tryz.prog 147 #[iV x] w (Gives (.tuple #[whV (tStore x).1, .int .u8 (tStore x).2]) w) := by
  have C := Lib.hid (c7_mode x hx)
  have D := Lib.hid (c7_sizeOf x hx)
  unfold tStore
  have P := Lib.hid (IDuo.new x Wh.zero w)
  generalize x.op / 32 * 32 = m at *
  generalize szT x.op = s at *
  cases h0 : (m == 96)
  · rw [if_neg Bool.false_ne_true]
    have n0 := bne_of' h0
    go_enter Tryz.func147, Tryz.ntmps147
    go_wp2_with fail
    refine (C.out _).mono ?_
    rintro e w5 ⟨rfl, b5⟩
    have Q := Lib.hid (P.out.after b5)
    clear b5
    obtain ⟨p0, p1, p2, p3, p4⟩ := Q.out.2.1.cells
    obtain ⟨f0, f1, f2, f3, f4, f5⟩ := Q.out.2.2.free
    obtain ⟨z0, z1, z2, z3, z4, z5⟩ := Q.out.2.2.cells
    have k1 := Q.out.2.1.lt
    have k2 := Q.out.2.2.lt
    have BB := Lib.hid (Q.out.set Wh.zero).1
    go_wp2_with fail
    exact bodyPost_ret (v := .tuple #[whV Wh.zero, .int .u8 0]) (by simp [results, Tryz.results147, go_sem, z0, z1, z2, z3, z4, z5, k2, Wh.zero]) rfl ⟨rfl, BB.out⟩
  · rw [if_pos rfl]
    have n0 := bne_of' h0
    go_enter Tryz.func147, Tryz.ntmps147
    go_wp2_with fail
    refine (C.out _).mono ?_
    rintro e w5 ⟨rfl, b5⟩
    have Q := Lib.hid (P.out.after b5)
    clear b5
    obtain ⟨p0, p1, p2, p3, p4⟩ := Q.out.2.1.cells
    obtain ⟨f0, f1, f2, f3, f4, f5⟩ := Q.out.2.2.free
    obtain ⟨z0, z1, z2, z3, z4, z5⟩ := Q.out.2.2.cells
    have k1 := Q.out.2.1.lt
    have k2 := Q.out.2.2.lt
    go_wp2_with fail
    clear p0 p1 p2 p3 p4 f0 f1 f2 f3 f4 f5 z0 z1 z2 z3 z4 z5 k1 k2
    clear P
    have P := Q
    clear Q
    refine (D.out _).mono ?_
    rintro e w6 ⟨rfl, b5⟩
    have Q := Lib.hid (P.out.after b5)
    clear b5
    obtain ⟨p0, p1, p2, p3, p4⟩ := Q.out.2.1.cells
    obtain ⟨f0, f1, f2, f3, f4, f5⟩ := Q.out.2.2.free
    obtain ⟨z0, z1, z2, z3, z4, z5⟩ := Q.out.2.2.cells
    have k1 := Q.out.2.1.lt
    have k2 := Q.out.2.2.lt
    have BB := Lib.hid (Q.out.set (⟨6, 0, false, false, false, s⟩ : Wh)).1
    go_wp2_with fail
    exact bodyPost_ret (v := .tuple #[whV (⟨6, 0, false, false, false, s⟩ : Wh), .int .u8 26]) (by simp [results, Tryz.results147, go_sem, z0, z1, z2, z3, z4, z5, k2, Wh.zero]) rfl ⟨rfl, BB.out⟩
set_option maxRecDepth 100000 in
set_option maxHeartbeats 4000000 in
theorem c7_swaps (x : Ins) (hx : x.ok) (w : World) : Calls Tryz.prog 150 #[iV x] w (Gives (.tuple #[whV (tSwaps x).1, .int .u8 (tSwaps x).2]) w) := by
  have C := Lib.hid (c7_isSwap x.op)
  unfold tSwaps
  have P := Lib.hid (IDuo.new x Wh.zero w)
  generalize swapB x.op = m at *
  cases m
  · rw [Bool.not_false, Bool.true_or, if_pos rfl]
    go_enter Tryz.func150, Tryz.ntmps150
    go_wp2_with fail
    refine (C.out _).mono ?_
    rintro e w5 ⟨rfl, b5⟩
    have Q := Lib.hid (P.out.after b5)
    clear b5
    obtain ⟨p0, p1, p2, p3, p4⟩ := Q.out.2.1.cells
    obtain ⟨f0, f1, f2, f3, f4, f5⟩ := Q.out.2.2.free
    obtain ⟨z0, z1, z2, z3, z4, z5⟩ := Q.out.2.2.cells
    have k1 := Q.out.2.1.lt
    have k2 := Q.out.2.2.lt
    have BB := Lib.hid (Q.out.set Wh.zero).1
    go_wp2_with fail
    exact bodyPost_ret (v := .tuple #[whV Wh.zero, .int .u8 0]) (by simp [results, Tryz.results150, go_sem, z0, z1, z2, z3, z4, z5, k2, Wh.zero]) rfl ⟨rfl, BB.out⟩
  rw [Bool.not_true, Bool.false_or]
  by_cases h16 : x.imm = 16
  · obtain ⟨op, dst, src, off, imm⟩ := x
    simp only at h16
    subst h16
    simp only at *
    rw [if_neg (by decide)]
    have hw : (op != 212) = true ∨ (op != 212) = false := by cases (op != 212) <;> simp
    rcases hw with hw | hw
    · rw [hw]
      go_enter Tryz.func150, Tryz.ntmps150
      go_wp2_with fail
      refine (C.out _).mono ?_
      rintro e w5 ⟨rfl, b5⟩
      have Q := Lib.hid (P.out.after b5)
      clear b5
      obtain ⟨p0, p1, p2, p3, p4⟩ := Q.out.2.1.cells
      obtain ⟨f0, f1, f2, f3, f4, f5⟩ := Q.out.2.2.free
      obtain ⟨z0, z1, z2, z3, z4, z5⟩ := Q.out.2.2.cells
      have k1 := Q.out.2.1.lt
      have k2 := Q.out.2.2.lt
      have BB := Lib.hid (Q.out.set (⟨2, 0, true, false, false, 2⟩ : Wh)).1
      go_wp2_with fail
      exact bodyPost_ret (v := .tuple #[whV (⟨2, 0, true, false, false, 2⟩ : Wh), .int .u8 17]) (by simp [results, Tryz.results150, go_sem, z0, z1, z2, z3, z4, z5, k2, Wh.zero]) rfl ⟨rfl, BB.out⟩
    · rw [hw]
      go_enter Tryz.func150, Tryz.ntmps150
      go_wp2_with fail
      refine (C.out _).mono ?_
      rintro e w5 ⟨rfl, b5⟩
      have Q := Lib.hid (P.out.after b5)
      clear b5
      obtain ⟨p0, p1, p2, p3, p4⟩ := Q.out.2.1.cells
      obtain ⟨f0, f1, f2, f3, f4, f5⟩ := Q.out.2.2.free
      obtain ⟨z0, z1, z2, z3, z4, z5⟩ := Q.out.2.2.cells
      have k1 := Q.out.2.1.lt
      have k2 := Q.out.2.2.lt
      have BB := Lib.hid (Q.out.set (⟨2, 0, false, false, false, 2⟩ : Wh)).1
      go_wp2_with fail
      exact bodyPost_ret (v := .tuple #[whV (⟨2, 0, false, false, false, 2⟩ : Wh), .int .u8 17]) (by simp [results, Tryz.results150, go_sem, z0, z1, z2, z3, z4, z5, k2, Wh.zero]) rfl ⟨rfl, BB.out⟩
  by_cases h32 : x.imm = 32
  · obtain ⟨op, dst, src, off, imm⟩ := x
    simp only at h32
    subst h32
    simp only at *
    rw [if_neg (by decide)]
    have hw : (op != 212) = true ∨ (op != 212) = false := by cases (op != 212) <;> simp
    rcases hw with hw | hw
    · rw [hw]
      go_enter Tryz.func150, Tryz.ntmps150
      go_wp2_with fail
      refine (C.out _).mono ?_
      rintro e w5 ⟨rfl, b5⟩
      have Q := Lib.hid (P.out.after b5)
      clear b5
      obtain ⟨p0, p1, p2, p3, p4⟩ := Q.out.2.1.cells
      obtain ⟨f0, f1, f2, f3, f4, f5⟩ := Q.out.2.2.free
      obtain ⟨z0, z1, z2, z3, z4, z5⟩ := Q.out.2.2.cells
      have k1 := Q.out.2.1.lt
      have k2 := Q.out.2.2.lt
      have BB := Lib.hid (Q.out.set (⟨2, 0, true, false, false, 4⟩ : Wh)).1
      go_wp2_with fail
      exact bodyPost_ret (v := .tuple #[whV (⟨2, 0, true, false, false, 4⟩ : Wh), .int .u8 17]) (by simp [results, Tryz.results150, go_sem, z0, z1, z2, z3, z4, z5, k2, Wh.zero]) rfl ⟨rfl, BB.out⟩
    · rw [hw]
      go_enter Tryz.func150, Tryz.ntmps150
      go_wp2_with fail
      refine (C.out _).mono ?_
      rintro e w5 ⟨rfl, b5⟩
      have Q := Lib.hid (P.out.after b5)
      clear b5
      obtain ⟨p0, p1, p2, p3, p4⟩ := Q.out.2.1.cells
      obtain ⟨f0, f1, f2, f3, f4, f5⟩ := Q.out.2.2.free
      obtain ⟨z0, z1, z2, z3, z4, z5⟩ := Q.out.2.2.cells
      have k1 := Q.out.2.1.lt
      have k2 := Q.out.2.2.lt
      have BB := Lib.hid (Q.out.set (⟨2, 0, false, false, false, 4⟩ : Wh)).1
      go_wp2_with fail
      exact bodyPost_ret (v := .tuple #[whV (⟨2, 0, false, false, false, 4⟩ : Wh), .int .u8 17]) (by simp [results, Tryz.results150, go_sem, z0, z1, z2, z3, z4, z5, k2, Wh.zero]) rfl ⟨rfl, BB.out⟩
  by_cases h64 : x.imm = 64
  · obtain ⟨op, dst, src, off, imm⟩ := x
    simp only at h64
    subst h64
    simp only at *
    rw [if_neg (by decide)]
    have hw : (op != 212) = true ∨ (op != 212) = false := by cases (op != 212) <;> simp
    rcases hw with hw | hw
    · rw [hw]
      go_enter Tryz.func150, Tryz.ntmps150
      go_wp2_with fail
      refine (C.out _).mono ?_
      rintro e w5 ⟨rfl, b5⟩
      have Q := Lib.hid (P.out.after b5)
      clear b5
      obtain ⟨p0, p1, p2, p3, p4⟩ := Q.out.2.1.cells
      obtain ⟨f0, f1, f2, f3, f4, f5⟩ := Q.out.2.2.free
      obtain ⟨z0, z1, z2, z3, z4, z5⟩ := Q.out.2.2.cells
      have k1 := Q.out.2.1.lt
      have k2 := Q.out.2.2.lt
      have BB := Lib.hid (Q.out.set (⟨2, 0, true, false, false, 8⟩ : Wh)).1
      go_wp2_with fail
      exact bodyPost_ret (v := .tuple #[whV (⟨2, 0, true, false, false, 8⟩ : Wh), .int .u8 17]) (by simp [results, Tryz.results150, go_sem, z0, z1, z2, z3, z4, z5, k2, Wh.zero]) rfl ⟨rfl, BB.out⟩
    · rw [hw]
      go_enter Tryz.func150, Tryz.ntmps150
      go_wp2_with fail
      refine (C.out _).mono ?_
      rintro e w5 ⟨rfl, b5⟩
      have Q := Lib.hid (P.out.after b5)
      clear b5
      obtain ⟨p0, p1, p2, p3, p4⟩ := Q.out.2.1.cells
      obtain ⟨f0, f1, f2, f3, f4, f5⟩ := Q.out.2.2.free
      obtain ⟨z0, z1, z2, z3, z4, z5⟩ := Q.out.2.2.cells
      have k1 := Q.out.2.1.lt
      have k2 := Q.out.2.2.lt
      have BB := Lib.hid (Q.out.set (⟨2, 0, false, false, false, 8⟩ : Wh)).1
      go_wp2_with fail
      exact bodyPost_ret (v := .tuple #[whV (⟨2, 0, false, false, false, 8⟩ : Wh), .int .u8 17]) (by simp [results, Tryz.results150, go_sem, z0, z1, z2, z3, z4, z5, k2, Wh.zero]) rfl ⟨rfl, BB.out⟩
  rw [if_pos (by simp [h16, h32, h64])]
  have g16 : (x.imm != 16) = true := bne_of' (beq_false_of_ne h16)
  clear h16
  have g32 : (x.imm != 32) = true := bne_of' (beq_false_of_ne h32)
  clear h32
  have g64 : (x.imm != 64) = true := bne_of' (beq_false_of_ne h64)
  clear h64
  go_enter Tryz.func150, Tryz.ntmps150
  go_wp2_with fail
  refine (C.out _).mono ?_
  rintro e w5 ⟨rfl, b5⟩
  have Q := Lib.hid (P.out.after b5)
  clear b5
  obtain ⟨p0, p1, p2, p3, p4⟩ := Q.out.2.1.cells
  obtain ⟨f0, f1, f2, f3, f4, f5⟩ := Q.out.2.2.free
  obtain ⟨z0, z1, z2, z3, z4, z5⟩ := Q.out.2.2.cells
  have k1 := Q.out.2.1.lt
  have k2 := Q.out.2.2.lt
  have BB := Lib.hid (Q.out.set Wh.zero).1
  go_wp2_with fail
  exact bodyPost_ret (v := .tuple #[whV Wh.zero, .int .u8 0]) (by simp [results, Tryz.results150, go_sem, z0, z1, z2, z3, z4, z5, k2, Wh.zero]) rfl ⟨rfl, BB.out⟩
end Go.Proofs.YtlbhffdpklbhfaaGreat
