/-
  The program's own answers of layer 7: parts of Op, fields, registers.
  Conditions: the numbers fit their kinds.
-/
import Derived.Test.YtplndcjmbgkcjaaWhBox
import Derived.Test.YtplndcjmbgkcjaaRef07a
import Derived.Test.YtplndcjmbgkcjaaCodeTold
import Derived.Laws.BitsAllLaws
namespace Go.Proofs.Ytplndcjmbgkcjaa
open Go.RowKit
set_option linter.unusedVariables false

theorem nat_and_all (k : Nat) (f : Nat → Nat) (h : (List.range 256).all (fun n => (n &&& k) == f n) = true) (a : Int) (h1 : 0 ≤ a) (h2 : a ≤ 255) : a.toNat &&& k = f a.toNat := by
  have := List.all_eq_true.mp h a.toNat (List.mem_range.mpr (by omega))
  exact beq_iff_eq.mp this
theorem and240 (a : Int) (h1 : 0 ≤ a) (h2 : a ≤ 255) : bits .and .u8 a 240 = a / 16 * 16 := by
  rw [u8_and a 240 h1 (by omega) (by decide) (by decide), show (240 : Int).toNat = 240 from rfl, nat_and_all 240 (fun n => n / 16 * 16) (by decide +kernel) a h1 h2]
  omega
theorem and224 (a : Int) (h1 : 0 ≤ a) (h2 : a ≤ 255) : bits .and .u8 a 224 = a / 32 * 32 := by
  rw [u8_and a 224 h1 (by omega) (by decide) (by decide), show (224 : Int).toNat = 224 from rfl, nat_and_all 224 (fun n => n / 32 * 32) (by decide +kernel) a h1 h2]
  omega
theorem and1 (a : Int) (h1 : 0 ≤ a) (h2 : a ≤ 255) : bits .and .u8 a 1 = a % 2 := by
  rw [u8_and a 1 h1 (by omega) (by decide) (by decide), show (1 : Int).toNat = 1 from rfl, nat_and_all 1 (fun n => n % 2) (by decide +kernel) a h1 h2]
  omega
theorem and3 (a : Int) (h1 : 0 ≤ a) (h2 : a ≤ 255) : bits .and .u8 a 3 = a % 4 := by
  rw [u8_and a 3 h1 (by omega) (by decide) (by decide), show (3 : Int).toNat = 3 from rfl, nat_and_all 3 (fun n => n % 4) (by decide +kernel) a h1 h2]
  omega
theorem and4 (a : Int) (h1 : 0 ≤ a) (h2 : a ≤ 255) : bits .and .u8 a 4 = a / 4 % 2 * 4 := by
  rw [u8_and a 4 h1 (by omega) (by decide) (by decide), show (4 : Int).toNat = 4 from rfl, nat_and_all 4 (fun n => n / 4 % 2 * 4) (by decide +kernel) a h1 h2]
  omega
theorem and8 (a : Int) (h1 : 0 ≤ a) (h2 : a ≤ 255) : bits .and .u8 a 8 = a / 8 % 2 * 8 := by
  rw [u8_and a 8 h1 (by omega) (by decide) (by decide), show (8 : Int).toNat = 8 from rfl, nat_and_all 8 (fun n => n / 8 % 2 * 8) (by decide +kernel) a h1 h2]
  omega
theorem and16 (a : Int) (h1 : 0 ≤ a) (h2 : a ≤ 255) : bits .and .u8 a 16 = a / 16 % 2 * 16 := by
  rw [u8_and a 16 h1 (by omega) (by decide) (by decide), show (16 : Int).toNat = 16 from rfl, nat_and_all 16 (fun n => n / 16 % 2 * 16) (by decide +kernel) a h1 h2]
  omega

theorem i_box (x : Ins) (w : World) : Below w.heap.size w (w.alloc (.cells (insCells x) 24)) := below_alloc (Below.refl _ _) _

set_option maxHeartbeats 1000000 in
theorem c7_class (x : Ins) (hx : x.ok) (w : World) : Calls Try.prog 48 #[iV x] w (Gives (.int .u8 (x.op % 8)) w) := by
  obtain ⟨⟨o1, o2⟩, _⟩ := hx
  have B := Lib.hid (i_box x w)
  go_enter Try.func48, Try.ntmps48
  go_wp2_with fail
  go_ret
  exact ⟨rfl, B.out⟩
set_option maxHeartbeats 1000000 in
theorem c7_wide (x : Ins) (w : World) : Calls Try.prog 47 #[iV x] w (Gives (.bool (x.op == 24)) w) := by
  have B := Lib.hid (i_box x w)
  go_enter Try.func47, Try.ntmps47
  go_wp2_with fail
  go_ret
  exact ⟨rfl, B.out⟩
set_option maxHeartbeats 1000000 in
theorem c7_high (x : Ins) (hx : x.ok) (w : World) : Calls Try.prog 53 #[iV x] w (Gives (.int .u8 (x.op / 16 * 16)) w) := by
  obtain ⟨⟨o1, o2⟩, _⟩ := hx
  have B := Lib.hid (i_box x w)
  have E := and240 x.op o1 o2
  generalize x.op / 16 * 16 = k at *
  go_enter Try.func53, Try.ntmps53
  go_wp2_with fail
  go_ret
  exact ⟨rfl, B.out⟩
set_option maxHeartbeats 1000000 in
theorem c7_mode (x : Ins) (hx : x.ok) (w : World) : Calls Try.prog 65 #[iV x] w (Gives (.int .u8 (x.op / 32 * 32)) w) := by
  obtain ⟨⟨o1, o2⟩, _⟩ := hx
  have B := Lib.hid (i_box x w)
  have E := and224 x.op o1 o2
  generalize x.op / 32 * 32 = k at *
  go_enter Try.func65, Try.ntmps65
  go_wp2_with fail
  go_ret
  exact ⟨rfl, B.out⟩
set_option maxHeartbeats 1000000 in
theorem c7_reg (x : Ins) (hx : x.ok) (w : World) : Calls Try.prog 68 #[iV x] w (Gives (.bool (x.op / 8 % 2 == 1)) w) := by
  obtain ⟨⟨o1, o2⟩, _⟩ := hx
  have B := Lib.hid (i_box x w)
  have E := and8 x.op o1 o2
  have h : x.op / 8 % 2 = 0 ∨ x.op / 8 % 2 = 1 := by omega
  rcases h with h | h
  all_goals
    rw [h] at E ⊢
    clear h
    go_enter Try.func68, Try.ntmps68
    go_wp2_with fail
    go_ret
    exact ⟨rfl, B.out⟩
set_option maxHeartbeats 1000000 in
theorem c7_second (x : Ins) (hx : x.ok) (w : World) : Calls Try.prog 70 #[iV x] w (Gives (.int .u8 (secF x)) w) := by
  have C := Lib.hid (c7_reg x hx)
  have B := Lib.hid (i_box x w)
  unfold secF
  generalize (x.op / 8 % 2 == 1) = b at *
  cases b
  · rw [if_neg Bool.false_ne_true]
    go_enter Try.func70, Try.ntmps70
    go_wp2_with fail
    refine (C.out _).mono ?_
    rintro e w5 ⟨rfl, b5⟩
    have BB := Lib.hid (below_next' B.out b5)
    clear b5
    go_wp2_with fail
    go_ret
    exact ⟨rfl, BB.out⟩
  · rw [if_pos rfl]
    go_enter Try.func70, Try.ntmps70
    go_wp2_with fail
    refine (C.out _).mono ?_
    rintro e w5 ⟨rfl, b5⟩
    have BB := Lib.hid (below_next' B.out b5)
    clear b5
    go_wp2_with fail
    go_ret
    exact ⟨rfl, BB.out⟩
set_option maxHeartbeats 2000000 in
theorem c7_sizeOf (x : Ins) (hx : x.ok) (w : World) : Calls Try.prog 64 #[iV x] w (Gives (.int .i64 (szT x.op)) w) := by
  obtain ⟨⟨o1, o2⟩, _⟩ := hx
  have B := Lib.hid (i_box x w)
  have E := and3 (x.op / 8) (by omega) (by omega)
  unfold szT
  have h : x.op / 8 % 4 = 0 ∨ x.op / 8 % 4 = 1 ∨ x.op / 8 % 4 = 2 ∨ x.op / 8 % 4 = 3 := by omega
  have I0 : ∀ w, (Instr.index 78 (.agg #[.int .i64 4, .int .i64 2, .int .i64 1, .int .i64 8]) (.int .u8 0)).run Try.prog w = .ok (.int .i64 4) w := fun _ => rfl
  have I1 : ∀ w, (Instr.index 78 (.agg #[.int .i64 4, .int .i64 2, .int .i64 1, .int .i64 8]) (.int .u8 1)).run Try.prog w = .ok (.int .i64 2) w := fun _ => rfl
  have I2 : ∀ w, (Instr.index 78 (.agg #[.int .i64 4, .int .i64 2, .int .i64 1, .int .i64 8]) (.int .u8 2)).run Try.prog w = .ok (.int .i64 1) w := fun _ => rfl
  have I3 : ∀ w, (Instr.index 78 (.agg #[.int .i64 4, .int .i64 2, .int .i64 1, .int .i64 8]) (.int .u8 3)).run Try.prog w = .ok (.int .i64 8) w := fun _ => rfl
  rcases h with h | h | h | h
  all_goals
    rw [h] at E ⊢
    clear h
    go_enter Try.func64, Try.ntmps64
    go_wp2_with fail
    go_ret
    exact ⟨rfl, B.out⟩
set_option maxHeartbeats 1000000 in
theorem c7_isAtom (n : Int) (w : World) : Calls Try.prog 66 #[.int .i32 n] w (Gives (.bool (atomB n)) w) := by
  unfold atomB
  cases h0 : (n == 0)
  rotate_left 1
  · go_enter Try.func66, Try.ntmps66
    go_wp2_with fail
    go_ret
    exact ⟨rfl, Below.refl _ _⟩
  cases h1 : (n == 64)
  rotate_left 1
  · go_enter Try.func66, Try.ntmps66
    go_wp2_with fail
    go_ret
    exact ⟨rfl, Below.refl _ _⟩
  cases h2 : (n == 80)
  rotate_left 1
  · go_enter Try.func66, Try.ntmps66
    go_wp2_with fail
    go_ret
    exact ⟨rfl, Below.refl _ _⟩
  cases h3 : (n == 160)
  all_goals
    go_enter Try.func66, Try.ntmps66
    go_wp2_with fail
    go_ret
    exact ⟨rfl, Below.refl _ _⟩
set_option maxHeartbeats 1000000 in
theorem c7_isSwap (n : Int) (w : World) : Calls Try.prog 67 #[.int .u8 n] w (Gives (.bool (swapB n)) w) := by
  unfold swapB
  cases h0 : (n == 212)
  rotate_left 1
  · go_enter Try.func67, Try.ntmps67
    go_wp2_with fail
    go_ret
    exact ⟨rfl, Below.refl _ _⟩
  cases h1 : (n == 215)
  rotate_left 1
  · go_enter Try.func67, Try.ntmps67
    go_wp2_with fail
    go_ret
    exact ⟨rfl, Below.refl _ _⟩
  cases h2 : (n == 220)
  all_goals
    go_enter Try.func67, Try.ntmps67
    go_wp2_with fail
    go_ret
    exact ⟨rfl, Below.refl _ _⟩

end Go.Proofs.Ytplndcjmbgkcjaa
