/-
  P3.3: of less, more and the same just one holds, signed or not.
  Conditions: none beyond the row's own.
-/
import Derived.Test.YtpgjheiobjgcdaaCondShown
import Derived.Test.YtpgjheiobjgcdaaCondMath
import Derived.Handy
namespace Go.Proofs.Ytpgjheiobjgcdaa
open Go.RowKit
set_option linter.unusedVariables false

set_option maxHeartbeats 1000000 in
theorem one_go (wide : Bool) (a b : Int) (w : World) (ha : 0 ≤ a ∧ a ≤ 18446744073709551615) (hb : 0 ≤ b ∧ b ≤ 18446744073709551615) (l m e sl sm : Bool)
    (h1 : condV 160 wide a b = l) (h2 : condV 32 wide a b = m) (h3 : condV 16 wide a b = e) (h4 : condV 192 wide a b = sl) (h5 : condV 96 wide a b = sm)
    (h : (l = true ∧ m = false ∧ e = false) ∨ (l = false ∧ m = true ∧ e = false) ∨ (l = false ∧ m = false ∧ e = true))
    (h' : (sl = true ∧ sm = false ∧ e = false) ∨ (sl = false ∧ sm = true ∧ e = false) ∨ (sl = false ∧ sm = false ∧ e = true)) :
    Calls Try.prog 5 #[.bool wide, .int .u64 a, .int .u64 b] w (Fine w) := by
  have c1 := Lib.hid fun w => is_to (k := 0) w ha hb h1 rfl
  have c2 := Lib.hid fun w => is_to (k := 0) w ha hb h2 rfl
  have c3 := Lib.hid fun w => is_to (k := 0) w ha hb h3 rfl
  have c4 := Lib.hid fun w => is_to (k := 0) w ha hb h4 rfl
  have c5 := Lib.hid fun w => is_to (k := 0) w ha hb h5 rfl
  clear h1 h2 h3 h4 h5
  have i0 : ∀ (x y z : Int) (w : World), (Instr.index 30 (.agg #[.int .u8 x, .int .u8 y, .int .u8 z]) (.int .i64 0)).run Try.prog w = .ok (.int .u8 x) w := fun _ _ _ _ => rfl
  have i1 : ∀ (x y z : Int) (w : World), (Instr.index 30 (.agg #[.int .u8 x, .int .u8 y, .int .u8 z]) (.int .i64 1)).run Try.prog w = .ok (.int .u8 y) w := fun _ _ _ _ => rfl
  have i2 : ∀ (x y z : Int) (w : World), (Instr.index 30 (.agg #[.int .u8 x, .int .u8 y, .int .u8 z]) (.int .i64 2)).run Try.prog w = .ok (.int .u8 z) w := fun _ _ _ _ => rfl
  have hh : (e = true ∧ l = false ∧ m = false ∧ sl = false ∧ sm = false) ∨ (e = false ∧ l = true ∧ m = false ∧ sl = true ∧ sm = false) ∨ (e = false ∧ l = true ∧ m = false ∧ sl = false ∧ sm = true) ∨
      (e = false ∧ l = false ∧ m = true ∧ sl = true ∧ sm = false) ∨ (e = false ∧ l = false ∧ m = true ∧ sl = false ∧ sm = true) := by
    cases e <;> cases l <;> cases m <;> cases sl <;> cases sm <;> simp_all
  clear h h'
  rcases hh with ⟨rfl, rfl, rfl, rfl, rfl⟩ | ⟨rfl, rfl, rfl, rfl, rfl⟩ | ⟨rfl, rfl, rfl, rfl, rfl⟩ | ⟨rfl, rfl, rfl, rfl, rfl⟩ | ⟨rfl, rfl, rfl, rfl, rfl⟩
  all_goals
    go_enter Try.func5, Try.ntmps5
    go_wp2_with fail
    refine (cond_shown _).mono ?_; rintro e w0 ⟨rfl, b0⟩
    go_wp2_with fail
    refine wp_loop_rounds 3 ?_
    rw [rounds_succ]
    go_wp2_with fail
    refine wp_loop_rounds 4 ?_
    rw [rounds_succ]
    go_wp2_with fail
    refine (c1.out _).mono ?_; rintro e w1 ⟨rfl, b1⟩
    go_wp2_with fail
    rw [rounds_succ]
    go_wp2_with fail
    refine (c2.out _).mono ?_; rintro e w2 ⟨rfl, b2⟩
    go_wp2_with fail
    rw [rounds_succ]
    go_wp2_with fail
    refine (c3.out _).mono ?_; rintro e w3 ⟨rfl, b3⟩
    have b13 := below_next' (below_next' b1 b2) b3
    have bl := below_next (B := w0.heap.size + 1) ((Below.refl _ _).alloc (by simp) _) (by simp) b13
    have t1 := below_next' ((b0.alloc b0.size _).alloc (by have := b0.size; simp; omega) _) b13
    have d3 := cell_lit bl 3
    have d4 := cell_lit bl 4
    have d5 := cell_lit bl 5
    clear b1 b2 b3 b13 bl
    go_wp2_with fail
    rw [rounds_succ]
    go_wp2_with fail
    rw [rounds_succ]
    go_wp2_with fail
    refine wp_loop_rounds 4 ?_
    rw [rounds_succ]
    go_wp2_with fail
    refine (c4.out _).mono ?_; rintro e w4 ⟨rfl, b4⟩
    go_wp2_with fail
    rw [rounds_succ]
    go_wp2_with fail
    refine (c5.out _).mono ?_; rintro e w5 ⟨rfl, b5⟩
    go_wp2_with fail
    rw [rounds_succ]
    go_wp2_with fail
    refine (c3.out _).mono ?_; rintro e w6 ⟨rfl, b6⟩
    go_wp2_with fail
    rw [rounds_succ]
    go_wp2_with fail
    rw [rounds_succ]
    go_wp2_with fail
    go_ret
    exact ⟨rfl, below_next' (t1.alloc t1.size _) (below_next' (below_next' b4 b5) b6)⟩

theorem one_walk (wide : Bool) (a b : Int) (w : World) (ha : 0 ≤ a ∧ a ≤ 18446744073709551615) (hb : 0 ≤ b ∧ b ≤ 18446744073709551615) :
    Calls Try.prog 5 #[.bool wide, .int .u64 a, .int .u64 b] w (Fine w) :=
  one_go wide a b w ha hb _ _ _ _ _ rfl rfl rfl rfl rfl (just_one wide a b) (just_one_signed wide a b)

end Go.Proofs.Ytpgjheiobjgcdaa
