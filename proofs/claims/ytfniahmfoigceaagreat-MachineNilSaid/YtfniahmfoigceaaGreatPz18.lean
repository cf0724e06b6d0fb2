/-
  Texts, one behind the other: Code1.
  Conditions: those that each theorem states.
-/
import Derived.Laws.BitsAllLaws
import Derived.Test.YtfniahmfoigceaaGreatPz17

namespace Go.Proofs.YtfniahmfoigceaaGreat
open Go.RowKit
set_option maxRecDepth 100000
set_option linter.unusedVariables false

theorem nat_and_all (k : Nat) (f : Nat → Nat) (h : (List.range 256).all (fun n => (n &&& k) == f n) = true) (a : Int) (h1 : 0 ≤ a) (h2 : a ≤ 255) : a.toNat &&& k = f a.toNat := by
  have := List.all_eq_true.mp h a.toNat (List.mem_range.mpr (by omega))
  exact beq_iff_eq.mp this
theorem and240 (a : Int) (h1 : 0 ≤ a) (h2 : a ≤ 255) : bits .and .u8 a 240 = a / 16 * 16 := by
  rw [u8_and a 240 h1 (by omega) (by decide) (by decide), show (240 : Int).toNat = 240 from rfl, nat_and_all 240 (fun n => n / 16 * 16) (by decide +kernel) a h1 h2]
  omega
theorem and224 (a : Int) (h1 : 0 ≤ a) (h2 : a ≤ 255) : bits .and .u8 a 224 = a / 32 * 32 := by
  rw [u8_and a 224 h1 (by omega) (by decide) (by decide), show (224 : Int).toNat = 224 from rfl, nat_and_all 224 (fun n => n / 32 * 32) (by decide +kernel) a h1 h2]
  omega
theorem and1 (a : Int) (h1 : 0 ≤ a) (h2 : a ≤ 255) : bits .and .u8 a 1 = a % 2 := by
  rw [u8_and a 1 h1 (by omega) (by decide) (by decide), show (1 : Int).toNat = 1 from rfl, nat_and_all 1 (fun n => n % 2) (by decide +kernel) a h1 h2]
  omega
theorem and3 (a : Int) (h1 : 0 ≤ a) (h2 : a ≤ 255) : bits .and .u8 a 3 = a % 4 := by
  rw [u8_and a 3 h1 (by omega) (by decide) (by decide), show (3 : Int).toNat = 3 from rfl, nat_and_all 3 (fun n => n % 4) (by decide +kernel) a h1 h2]
  omega
theorem and4 (a : Int) (h1 : 0 ≤ a) (h2 : a ≤ 255) : bits .and .u8 a 4 = a / 4 % 2 * 4 := by
  rw [u8_and a 4 h1 (by omega) (by decide) (by decide), show (4 : Int).toNat = 4 from rfl, nat_and_all 4 (fun n => n / 4 % 2 * 4) (by decide +kernel) a h1 h2]
  omega
theorem and8 (a : Int) (h1 : 0 ≤ a) (h2 : a ≤ 255) : bits .and .u8 a 8 = a / 8 % 2 * 8 := by
  rw [u8_and a 8 h1 (by omega) (by decide) (by decide), show (8 : Int).toNat = 8 from rfl, nat_and_all 8 (fun n => n / 8 % 2 * 8) (by decide +kernel) a h1 h2]
  omega
theorem and16 (a : Int) (h1 : 0 ≤ a) (h2 : a ≤ 255) : bits .and .u8 a 16 = a / 16 % 2 * 16 := by
  rw [u8_and a 16 h1 (by omega) (by decide) (by decide), show (16 : Int).toNat = 16 from rfl, nat_and_all 16 (fun n => n / 16 % 2 * 16) (by decide +kernel) a h1 h2]
  omega

theorem i_box (x : Ins) (w : World) : Below w.heap.size w (w.alloc (.cells (insCells x) 64)) := below_alloc (Below.refl _ _) _

set_option maxHeartbeats 1000000 in
theorem c7_class (x : Ins) (hx : x.ok) (w : World) : Calls Tryz.prog 145 #[iV x] w (Gives (.int .u8 (x.op % 8)) w) := by
  obtain ⟨⟨o1, o2⟩, _⟩ := hx
  have B := Lib.hid (i_box x w)
  go_enter Tryz.func145, Tryz.ntmps145
  go_wp2_with fail
  go_ret
  exact ⟨rfl, B.out⟩
set_option maxHeartbeats 1000000 in
theorem c7_wide (x : Ins) (w : World) : Calls Tryz.prog 88 #[iV x] w (Gives (.bool (x.op == 24)) w) := by
  have B := Lib.hid (i_box x w)
  go_enter Tryz.func88, Tryz.ntmps88
  go_wp2_with fail
  go_ret
  exact ⟨rfl, B.out⟩
set_option maxHeartbeats 1000000 in
theorem c7_high (x : Ins) (hx : x.ok) (w : World) : Calls Tryz.prog 150 #[iV x] w (Gives (.int .u8 (x.op / 16 * 16)) w) := by
  obtain ⟨⟨o1, o2⟩, _⟩ := hx
  have B := Lib.hid (i_box x w)
  have E := and240 x.op o1 o2
  generalize x.op / 16 * 16 = k at *
  go_enter Tryz.func150, Tryz.ntmps150
  go_wp2_with fail
  go_ret
  exact ⟨rfl, B.out⟩
set_option maxHeartbeats 1000000 in
theorem c7_mode (x : Ins) (hx : x.ok) (w : World) : Calls Tryz.prog 179 #[iV x] w (Gives (.int .u8 (x.op / 32 * 32)) w) := by
  obtain ⟨⟨o1, o2⟩, _⟩ := hx
  have B := Lib.hid (i_box x w)
  have E := and224 x.op o1 o2
  generalize x.op / 32 * 32 = k at *
  go_enter Tryz.func179, Tryz.ntmps179
  go_wp2_with fail
  go_ret
  exact ⟨rfl, B.out⟩
set_option maxHeartbeats 1000000 in
theorem c7_reg (x : Ins) (hx : x.ok) (w : World) : Calls Tryz.prog 182 #[iV x] w (Gives (.bool (x.op / 8 % 2 == 1)) w) := by
  obtain ⟨⟨o1, o2⟩, _⟩ := hx
  have B := Lib.hid (i_box x w)
  have E := and8 x.op o1 o2
  have h : x.op / 8 % 2 = 0 ∨ x.op / 8 % 2 = 1 := by omega
  rcases h with h | h
  all_goals
    rw [h] at E ⊢
    clear h
    go_enter Tryz.func182, Tryz.ntmps182
    go_wp2_with fail
    go_ret
    exact ⟨rfl, B.out⟩
set_option maxHeartbeats 1000000 in
theorem c7_second (x : Ins) (hx : x.ok) (w : World) : Calls Tryz.prog 184 #[iV x] w (Gives (.int .u8 (secF x)) w) := by
  have C := Lib.hid (c7_reg x hx)
  have B := Lib.hid (i_box x w)
  unfold secF
  generalize (x.op / 8 % 2 == 1) = b at *
  cases b
  · rw [if_neg Bool.false_ne_true]
    go_enter Tryz.func184, Tryz.ntmps184
    go_wp2_with fail
    refine (C.out _).mono ?_
    rintro e w5 ⟨rfl, b5⟩
    have BB := Lib.hid (below_next' B.out b5)
    clear b5
    go_wp2_with fail
    go_ret
    exact ⟨rfl, BB.out⟩
  · rw [if_pos rfl]
    go_enter Tryz.func184, Tryz.ntmps184
    go_wp2_with fail
    refine (C.out _).mono ?_
    rintro e w5 ⟨rfl, b5⟩
    have BB := Lib.hid (below_next' B.out b5)
    clear b5
    go_wp2_with fail
    go_ret
    exact ⟨rfl, BB.out⟩
set_option maxHeartbeats 2000000 in
theorem c7_sizeOf (x : Ins) (hx : x.ok) (w : World) : Calls Tryz.prog 178 #[iV x] w (Gives (.int .i64 (szT x.op)) w) := by
  obtain ⟨⟨o1, o2⟩, _⟩ := hx
  have B := Lib.hid (i_box x w)
  have E := and3 (x.op / 8) (by omega) (by omega)
  unfold szT
  have h : x.op / 8 % 4 = 0 ∨ x.op / 8 % 4 = 1 ∨ x.op / 8 % 4 = 2 ∨ x.op / 8 % 4 = 3 := by omega
  have I0 : ∀ w, (Instr.index 242 (.agg #[.int .i64 4, .int .i64 2, .int .i64 1, .int .i64 8]) (.int .u8 0)).run Tryz.prog w = .ok (.int .i64 4) w := fun _ => rfl
  have I1 : ∀ w, (Instr.index 242 (.agg #[.int .i64 4, .int .i64 2, .int .i64 1, .int .i64 8]) (.int .u8 1)).run Tryz.prog w = .ok (.int .i64 2) w := fun _ => rfl
  have I2 : ∀ w, (Instr.index 242 (.agg #[.int .i64 4, .int .i64 2, .int .i64 1, .int .i64 8]) (.int .u8 2)).run Tryz.prog w = .ok (.int .i64 1) w := fun _ => rfl
  have I3 : ∀ w, (Instr.index 242 (.agg #[.int .i64 4, .int .i64 2, .int .i64 1, .int .i64 8]) (.int .u8 3)).run Tryz.prog w = .ok (.int .i64 8) w := fun _ => rfl
  rcases h with h | h | h | h
  all_goals
    rw [h] at E ⊢
    clear h
    go_enter Tryz.func178, Tryz.ntmps178
    go_wp2_with fail
    go_ret
    exact ⟨rfl, B.out⟩
set_option maxHeartbeats 1000000 in
theorem c7_isAtom (n : Int) (w : World) : Calls Tryz.prog 180 #[.int .i32 n] w (Gives (.bool (atomB n)) w) := by
  unfold atomB
  cases h0 : (n == 0)
  rotate_left 1
  · go_enter Tryz.func180, Tryz.ntmps180
    go_wp2_with fail
    go_ret
    exact ⟨rfl, Below.refl _ _⟩
  cases h1 : (n == 64)
  rotate_left 1
  · go_enter Tryz.func180, Tryz.ntmps180
    go_wp2_with fail
    go_ret
    exact ⟨rfl, Below.refl _ _⟩
  cases h2 : (n == 80)
  rotate_left 1
  · go_enter Tryz.func180, Tryz.ntmps180
    go_wp2_with fail
    go_ret
    exact ⟨rfl, Below.refl _ _⟩
  cases h3 : (n == 160)
  all_goals
    go_enter Tryz.func180, Tryz.ntmps180
    go_wp2_with fail
    go_ret
    exact ⟨rfl, Below.refl _ _⟩
set_option maxHeartbeats 1000000 in
theorem c7_isSwap (n : Int) (w : World) : Calls Tryz.prog 181 #[.int .u8 n] w (Gives (.bool (swapB n)) w) := by
  unfold swapB
  cases h0 : (n == 212)
  rotate_left 1
  · go_enter Tryz.func181, Tryz.ntmps181
    go_wp2_with fail
    go_ret
    exact ⟨rfl, Below.refl _ _⟩
  cases h1 : (n == 215)
  rotate_left 1
  · go_enter Tryz.func181, Tryz.ntmps181
    go_wp2_with fail
    go_ret
    exact ⟨rfl, Below.refl _ _⟩
  cases h2 : (n == 220)
  all_goals
    go_enter Tryz.func181, Tryz.ntmps181
    go_wp2_with fail
    go_ret
    exact ⟨rfl, Below.refl _ _⟩

end Go.Proofs.YtfniahmfoigceaaGreat
