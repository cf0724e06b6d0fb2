/-
  The program's own answers of layer 7: places, where the next instruction begins, where one jumps to.
  Conditions: the numbers fit their kinds.
-/
import Derived.Test.YtplndcjmbgkcjaaCode4
import Derived.Test.YtplndcjmbgkcjaaRef07h
namespace Go.Proofs.Ytplndcjmbgkcjaa
open Go.RowKit
set_option linter.unusedVariables false
set_option linter.unusedSimpArgs false

set_option maxRecDepth 100000 in
set_option maxHeartbeats 1000000 in
theorem c7_fits (n : Int) (w : World) : Calls Try.prog 33 #[.int .i64 n] w (Gives (.bool (decide (0 < n) && decide (n ≤ 512))) w) := by
  by_cases h0 : 0 < n
  · rw [decide_eq_true h0, Bool.true_and]
    by_cases h1 : n ≤ 512
    · rw [decide_eq_true h1]
      go_enter Try.func33, Try.ntmps33
      go_wp2_with fail
      go_ret
      exact ⟨rfl, Below.refl _ _⟩
    · rw [decide_eq_false h1]
      have d1 : decide (n ≤ 512) = false := decide_eq_false h1
      clear h1
      go_enter Try.func33, Try.ntmps33
      go_wp2_with fail
      go_ret
      exact ⟨rfl, Below.refl _ _⟩
  · rw [decide_eq_false h0, Bool.false_and]
    have h2 : n ≤ 0 := by omega
    clear h0
    go_enter Try.func33, Try.ntmps33
    go_wp2_with fail
    go_ret
    exact ⟨rfl, Below.refl _ _⟩

set_option maxRecDepth 100000 in
set_option maxHeartbeats 1000000 in
theorem c7_isPlace (l : List Ins) (A : Option Addr) (c : Nat) (i : Int) (w : World) (hl : l.length ≤ 100000) : Calls Try.prog 44 #[.slice A l.length c, .int .i64 i] w (Gives (.bool (inL l i)) w) := by
  unfold inL
  by_cases h0 : 0 ≤ i
  · rw [decide_eq_true h0, Bool.true_and]
    by_cases h1 : i < (l.length : Int)
    · rw [decide_eq_true h1]
      go_enter Try.func44, Try.ntmps44
      go_wp2_with fail
      go_ret
      exact ⟨rfl, Below.refl _ _⟩
    · rw [decide_eq_false h1]
      have d1 : decide (i < (l.length : Int)) = false := decide_eq_false h1
      clear h1
      go_enter Try.func44, Try.ntmps44
      go_wp2_with fail
      go_ret
      exact ⟨rfl, Below.refl _ _⟩
  · rw [decide_eq_false h0, Bool.false_and]
    have h2 : i < 0 := by omega
    clear h0
    go_enter Try.func44, Try.ntmps44
    go_wp2_with fail
    go_ret
    exact ⟨rfl, Below.refl _ _⟩

set_option maxRecDepth 100000 in
set_option maxHeartbeats 1000000 in
theorem c7_far (x : Ins) (hx : x.ok) (w : World) : Calls Try.prog 46 #[iV x] w (Gives (.int .i64 (farOf x)) w) := by
  have B := Lib.hid (i_box x w)
  obtain ⟨_, _, _, ⟨b1, b2⟩, b3, b4⟩ := hx
  unfold farOf
  cases h6 : (x.op == 6)
  · rw [if_neg Bool.false_ne_true]
    go_enter Try.func46, Try.ntmps46
    go_wp2_with fail
    go_ret
    exact ⟨rfl, B.out⟩
  · rw [if_pos rfl]
    go_enter Try.func46, Try.ntmps46
    go_wp2_with fail
    go_ret
    exact ⟨rfl, B.out⟩

set_option maxRecDepth 100000 in
set_option maxHeartbeats 1000000 in
theorem c7_jumps (x : Ins) (hx : x.ok) (w : World) : Calls Try.prog 45 #[iV x] w (Gives (.bool (jumpy x)) w) := by
  have B := Lib.hid (i_box x w)
  have C := Lib.hid (c7_What x hx)
  unfold jumpy
  generalize wOf x = v at *
  generalize wOk x = ok at *
  clear hx
  rcases or_ways (v.kind == 9) (v.kind == 10) with h1 | ⟨h1, h2⟩ | ⟨h1, h2⟩
  · rw [h1, Bool.true_or]
    go_enter Try.func45, Try.ntmps45
    go_wp2_with fail
    refine (C.out _).mono ?_
    rintro e w5 ⟨rfl, b5⟩
    have V := Lib.hid (below_alloc (below_next' B.out b5) (.cells (whCells v) 26))
    clear b5
    go_wp2_with fail
    go_ret
    exact ⟨rfl, V.out⟩
  · rw [h1, h2, Bool.false_or]
    go_enter Try.func45, Try.ntmps45
    go_wp2_with fail
    refine (C.out _).mono ?_
    rintro e w5 ⟨rfl, b5⟩
    have V := Lib.hid (below_alloc (below_next' B.out b5) (.cells (whCells v) 26))
    clear b5
    go_wp2_with fail
    go_ret
    exact ⟨rfl, V.out⟩
  · rw [h1, h2, Bool.false_or]
    go_enter Try.func45, Try.ntmps45
    go_wp2_with fail
    refine (C.out _).mono ?_
    rintro e w5 ⟨rfl, b5⟩
    have V := Lib.hid (below_alloc (below_next' B.out b5) (.cells (whCells v) 26))
    clear b5
    go_wp2_with fail
    go_ret
    exact ⟨rfl, V.out⟩

set_option maxRecDepth 100000 in
set_option maxHeartbeats 1000000 in
theorem c7_ends (x : Ins) (hx : x.ok) (w : World) : Calls Try.prog 37 #[iV x] w (Gives (.bool (ends x)) w) := by
  have B := Lib.hid (i_box x w)
  have C := Lib.hid (c7_What x hx)
  unfold ends
  generalize wOf x = v at *
  generalize wOk x = ok at *
  clear hx
  rcases or_ways (v.kind == 12) (v.kind == 9) with h1 | ⟨h1, h2⟩ | ⟨h1, h2⟩
  · rw [h1, Bool.true_or]
    go_enter Try.func37, Try.ntmps37
    go_wp2_with fail
    refine (C.out _).mono ?_
    rintro e w5 ⟨rfl, b5⟩
    have V := Lib.hid (below_alloc (below_next' B.out b5) (.cells (whCells v) 26))
    clear b5
    go_wp2_with fail
    go_ret
    exact ⟨rfl, V.out⟩
  · rw [h1, h2, Bool.false_or]
    go_enter Try.func37, Try.ntmps37
    go_wp2_with fail
    refine (C.out _).mono ?_
    rintro e w5 ⟨rfl, b5⟩
    have V := Lib.hid (below_alloc (below_next' B.out b5) (.cells (whCells v) 26))
    clear b5
    go_wp2_with fail
    go_ret
    exact ⟨rfl, V.out⟩
  · rw [h1, h2, Bool.false_or]
    go_enter Try.func37, Try.ntmps37
    go_wp2_with fail
    refine (C.out _).mono ?_
    rintro e w5 ⟨rfl, b5⟩
    have V := Lib.hid (below_alloc (below_next' B.out b5) (.cells (whCells v) 26))
    clear b5
    go_wp2_with fail
    go_ret
    exact ⟨rfl, V.out⟩

set_option maxRecDepth 100000 in
set_option maxHeartbeats 1000000 in
theorem c7_isHalf (k : Int) (x : Ins) (w : World) : Calls Try.prog 63 #[.int .u8 k, iV x] w (Gives (.bool (zeroB x (k == 3))) w) := by
  cases h3 : (k == 3)
  rotate_left 1
  · skip
    by_cases z0 : x.op = 0
    rotate_left 1
    · rw [show zeroB x true = false by unfold zeroB; simp [z0]]
      go_enter Try.func63, Try.ntmps63
      go_wp2_with fail
      go_ret
      exact ⟨rfl, below_alloc (Below.refl _ _) _⟩
    by_cases z1 : x.dst = 0
    rotate_left 1
    · rw [show zeroB x true = false by unfold zeroB; simp [z0, z1]]
      go_enter Try.func63, Try.ntmps63
      go_wp2_with fail
      go_ret
      exact ⟨rfl, below_alloc (Below.refl _ _) _⟩
    by_cases z2 : x.src = 0
    rotate_left 1
    · rw [show zeroB x true = false by unfold zeroB; simp [z0, z1, z2]]
      go_enter Try.func63, Try.ntmps63
      go_wp2_with fail
      go_ret
      exact ⟨rfl, below_alloc (Below.refl _ _) _⟩
    by_cases z3 : x.off = 0
    rotate_left 1
    · rw [show zeroB x true = false by unfold zeroB; simp [z0, z1, z2, z3]]
      go_enter Try.func63, Try.ntmps63
      go_wp2_with fail
      go_ret
      exact ⟨rfl, below_alloc (Below.refl _ _) _⟩
    rw [show zeroB x true = true by unfold zeroB; simp [z0, z1, z2, z3]]
    go_enter Try.func63, Try.ntmps63
    go_wp2_with fail
    go_ret
    exact ⟨rfl, below_alloc (Below.refl _ _) _⟩
  · skip
    by_cases z0 : x.op = 0
    rotate_left 1
    · rw [show zeroB x false = false by unfold zeroB; simp [z0]]
      go_enter Try.func63, Try.ntmps63
      go_wp2_with fail
      go_ret
      exact ⟨rfl, below_alloc (Below.refl _ _) _⟩
    by_cases z1 : x.dst = 0
    rotate_left 1
    · rw [show zeroB x false = false by unfold zeroB; simp [z0, z1]]
      go_enter Try.func63, Try.ntmps63
      go_wp2_with fail
      go_ret
      exact ⟨rfl, below_alloc (Below.refl _ _) _⟩
    by_cases z2 : x.src = 0
    rotate_left 1
    · rw [show zeroB x false = false by unfold zeroB; simp [z0, z1, z2]]
      go_enter Try.func63, Try.ntmps63
      go_wp2_with fail
      go_ret
      exact ⟨rfl, below_alloc (Below.refl _ _) _⟩
    by_cases z3 : x.off = 0
    rotate_left 1
    · rw [show zeroB x false = false by unfold zeroB; simp [z0, z1, z2, z3]]
      go_enter Try.func63, Try.ntmps63
      go_wp2_with fail
      go_ret
      exact ⟨rfl, below_alloc (Below.refl _ _) _⟩
    by_cases z4 : x.imm = 0
    rotate_left 1
    · rw [show zeroB x false = false by unfold zeroB; simp [z0, z1, z2, z3, z4]]
      go_enter Try.func63, Try.ntmps63
      go_wp2_with fail
      go_ret
      exact ⟨rfl, below_alloc (Below.refl _ _) _⟩
    rw [show zeroB x false = true by unfold zeroB; simp [z0, z1, z2, z3, z4]]
    go_enter Try.func63, Try.ntmps63
    go_wp2_with fail
    go_ret
    exact ⟨rfl, below_alloc (Below.refl _ _) _⟩

end Go.Proofs.Ytplndcjmbgkcjaa
