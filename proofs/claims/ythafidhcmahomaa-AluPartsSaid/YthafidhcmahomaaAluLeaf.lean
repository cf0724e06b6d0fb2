/-
  What package alu does, as contracts over its translated bodies.
  Conditions: the numbers fit their kinds.
-/
import Derived.Test.YthafidhcmahomaaAluPlain
import Derived.Test.YthafidhcmahomaaRows
import Derived.WalkKit
import Derived.WalkSpells
import Derived.WalkLawsBesides
import Derived.Deep.QuietTactic
import Derived.BigQuiet
import Derived.Outline
import Derived.Lib.Hide
namespace Go.Proofs.Ythafidhcmahomaa
open Go.RowKit
set_option linter.unusedVariables false

theorem ret_int {k : IntKind} {a b : Int} (h : a = b) : Ending.returned (.int k a) = .returned (.int k b) := by rw [h]
theorem ret_two {k l : IntKind} {a b c d : Int} (h : a = b) (h' : c = d) : Ending.returned (.tuple #[.int k a, .int l c]) = .returned (.tuple #[.int k b, .int l d]) := by rw [h, h']

theorem cut_any (n k : Int) (w : World) (h : 0 ≤ n) (h1 : 1 ≤ k) (h2 : k ≤ 64) :
    Calls Try.prog 19 #[.int .u64 n, .int .i64 k] w fun e w' => e = .returned (.int .u64 (n % 2 ^ k.toNat)) ∧ w = w' := by
  go_enter Try.func19, Try.ntmps19
  go_wp2
  go_ret
  exact ⟨ret_int (by rw [IntKind.wrap_u64, up_down n k (by omega) h2]), rfl⟩
theorem cut_16 (n : Int) (w : World) (h : 0 ≤ n) :
    Calls Try.prog 19 #[.int .u64 n, .int .i64 16] w fun e w' => e = .returned (.int .u64 (n % 65536)) ∧ w = w' := cut_any n 16 w h (by decide) (by decide)
theorem cut_32 (n : Int) (w : World) (h : 0 ≤ n) :
    Calls Try.prog 19 #[.int .u64 n, .int .i64 32] w fun e w' => e = .returned (.int .u64 (n % 4294967296)) ∧ w = w' := cut_any n 32 w h (by decide) (by decide)
theorem cut_64 (n : Int) (w : World) (h : 0 ≤ n) :
    Calls Try.prog 19 #[.int .u64 n, .int .i64 64] w fun e w' => e = .returned (.int .u64 (n % 18446744073709551616)) ∧ w = w' := cut_any n 64 w h (by decide) (by decide)

theorem sign_any (n k : Int) (w : World) (h : 0 ≤ n) (h' : n ≤ 18446744073709551615) :
    Calls Try.prog 15 #[.int .u64 n, .int .i64 k] w fun e w' => e = .returned (.int .u64 (signW n k)) ∧ w = w' := by
  by_cases h1 : 1 ≤ k
  · by_cases h2 : k ≤ 64
    · go_enter Try.func15, Try.ntmps15
      go_wp2
      go_ret
      exact ⟨ret_int (by unfold signW; rw [if_pos ⟨h1, h2⟩, IntKind.wrap_u64, IntKind.wrap_u64, up_down_signed n k h1 h2]), rfl⟩
    · go_enter Try.func15, Try.ntmps15
      go_wp2
      go_ret
      exact ⟨ret_int (by unfold signW; rw [if_neg (by omega)]), rfl⟩
  · go_enter Try.func15, Try.ntmps15
    go_wp2
    go_ret
    exact ⟨ret_int (by unfold signW; rw [if_neg (by omega)]), rfl⟩

/-! Division of four kinds of numbers. -/
def Parted (q r : Int) (w : World) (e : Ending) (w' : World) : Prop := e = .returned (.tuple #[.int .u64 q, .int .u64 r]) ∧ ∃ n, w' = w.drewN n

theorem div_u64 (a b : Int) (w : World) (h : 0 ≤ a) (h' : a ≤ 18446744073709551615) (h1 : 0 ≤ b) (h1' : b ≤ 18446744073709551615) :
    Calls Try.prog 27 #[.int .u64 a, .int .u64 b] w (Parted (a / b % 18446744073709551616) (a % b % 18446744073709551616) w) := by
  by_cases hb : b = 0
  · subst hb
    go_enter Try.func27, Try.ntmps27
    go_wp2
    go_ret2
    exact ⟨ret_two (by simp) (by simp; omega), 0, rfl⟩
  · have h2 : 1 ≤ b := by omega
    have hq := Int.ediv_le_self b h
    have hq0 := Int.ediv_nonneg h h1
    have hr := Int.emod_nonneg a hb
    have hr' := Int.emod_lt_of_pos a (b := b) (by omega)
    have e1 := Lib.hid (Int.emod_eq_of_lt hq0 (b := 18446744073709551616) (by omega)).symm
    have e2 := Lib.hid (Int.emod_eq_of_lt hr (b := 18446744073709551616) (by omega)).symm
    clear hq hq0 hr hr' hb
    go_enter Try.func27, Try.ntmps27
    go_wp2
    go_quiet (fail)
    go_wp2
    go_ret2
    exact ⟨ret_two e1.out e2.out, _, rfl⟩

theorem div_u32 (a b : Int) (w : World) (h : 0 ≤ a) (h' : a ≤ 4294967295) (h1 : 0 ≤ b) (h1' : b ≤ 4294967295) :
    Calls Try.prog 29 #[.int .u64 a, .int .u64 b] w (Parted (a / b % 18446744073709551616) (a % b % 18446744073709551616) w) := by
  have ha : a % 4294967296 = a := by omega
  have hbb : b % 4294967296 = b := by omega
  by_cases hb : b = 0
  · subst hb
    go_enter Try.func29, Try.ntmps29
    go_wp2
    go_ret2
    exact ⟨ret_two (by simp) (by simp; omega), 0, rfl⟩
  · have h2 : 1 ≤ b := by omega
    have hq := Int.ediv_le_self b h
    have hq0 := Int.ediv_nonneg h h1
    have hr := Int.emod_nonneg a hb
    have hr' := Int.emod_lt_of_pos a (b := b) (by omega)
    have e1 := Lib.hid (Int.emod_eq_of_lt hq0 (b := 18446744073709551616) (by omega)).symm
    have e2 := Lib.hid (Int.emod_eq_of_lt hr (b := 18446744073709551616) (by omega)).symm
    clear hq hq0 hr hr' hb
    go_enter Try.func29, Try.ntmps29
    go_wp2
    go_quiet (fail)
    go_wp2
    go_ret2
    exact ⟨ret_two (by rw [IntKind.wrap_u64]) (by rw [IntKind.wrap_u64]), _, rfl⟩

theorem div_i64 (a b : Int) (w : World) :
    Calls Try.prog 26 #[.int .u64 a, .int .u64 b] w (Parted ((wrap64 a).tdiv (wrap64 b) % 18446744073709551616) ((wrap64 a).tmod (wrap64 b) % 18446744073709551616) w) := by
  generalize e1 : wrap64 a = x
  generalize e2 : wrap64 b = y
  by_cases hy : y = 0
  · subst hy
    go_enter Try.func26, Try.ntmps26
    go_wp2
    go_ret2
    exact ⟨ret_two (by simp) (by rw [Int.tmod_zero, IntKind.wrap_u64]), 0, rfl⟩
  · have h4 : (y == 0) = false := by simpa using hy
    go_enter Try.func26, Try.ntmps26
    go_wp2
    go_quiet (fail)
    go_wp2
    go_ret2
    exact ⟨ret_two (by rw [IntKind.wrap_u64]; unfold wrap64; omega) (by rw [IntKind.wrap_u64]), _, rfl⟩

theorem div_i32 (a b : Int) (w : World) :
    Calls Try.prog 28 #[.int .u64 a, .int .u64 b] w
      (Parted (wrap32 ((wrap32 a).tdiv (wrap32 b)) % 18446744073709551616) ((wrap32 a).tmod (wrap32 b) % 18446744073709551616) w) := by
  have e1' : IntKind.i32.wrap a = wrap32 a := by simp [IntKind.wrap, IntKind.bits, IntKind.signed, wrap32]; split <;> omega
  have e2' : IntKind.i32.wrap b = wrap32 b := by simp [IntKind.wrap, IntKind.bits, IntKind.signed, wrap32]; split <;> omega
  generalize e1 : wrap32 a = x
  generalize e2 : wrap32 b = y
  rw [e1] at e1'
  rw [e2] at e2'
  clear e1 e2
  by_cases hy : y = 0
  · subst hy
    go_enter Try.func28, Try.ntmps28
    go_wp2
    go_ret2
    exact ⟨ret_two (by simp [wrap32]) (by rw [Int.tmod_zero, IntKind.wrap_u64]), 0, rfl⟩
  · have h4 : (y == 0) = false := by simpa using hy
    go_enter Try.func28, Try.ntmps28
    go_wp2
    go_quiet (fail)
    go_wp2
    go_ret2
    exact ⟨ret_two (by rw [IntKind.wrap_u64]) (by rw [IntKind.wrap_u64]), _, rfl⟩

theorem divided_0_64 (x y : Int) (hx : 0 ≤ x) (hy : 0 ≤ y) (hx' : x ≤ 18446744073709551615) (hy' : y ≤ 18446744073709551615) (w : World) :
    Calls Try.prog 24 #[.int .i64 64, .bool false, .int .u64 x, .int .u64 y] w (Parted (aluZ true 48 0 x y % 18446744073709551616) (aluZ true 144 0 x y % 18446744073709551616) w) := by
  go_enter Try.func24, Try.ntmps24
  go_wp2_with (go_at_call 27; refine (div_u64 _ _ _ (by omega) (by omega) (by omega) (by omega)).mono ?_; rintro e w' ⟨rfl, n, rfl⟩)
  go_ret2
  exact ⟨rfl, n, rfl⟩
theorem divided_1_64 (x y : Int) (hx : 0 ≤ x) (hy : 0 ≤ y) (hx' : x ≤ 18446744073709551615) (hy' : y ≤ 18446744073709551615) (w : World) :
    Calls Try.prog 24 #[.int .i64 64, .bool true, .int .u64 x, .int .u64 y] w (Parted (aluZ true 48 1 x y % 18446744073709551616) (aluZ true 144 1 x y % 18446744073709551616) w) := by
  go_enter Try.func24, Try.ntmps24
  go_wp2_with (go_at_call 26; refine (div_i64 _ _ _).mono ?_; rintro e w' ⟨rfl, n, rfl⟩)
  go_ret2
  exact ⟨ret_two (by show _ = wrap64 ((wrap64 x).tdiv (wrap64 y)) % 18446744073709551616; generalize (wrap64 x).tdiv (wrap64 y) = q; unfold wrap64; omega) rfl, n, rfl⟩
theorem divided_0_32 (x y : Int) (hx : 0 ≤ x) (hy : 0 ≤ y) (hx' : x ≤ 4294967295) (hy' : y ≤ 4294967295) (w : World) :
    Calls Try.prog 24 #[.int .i64 32, .bool false, .int .u64 x, .int .u64 y] w (Parted (aluZ false 48 0 x y % 18446744073709551616) (aluZ false 144 0 x y % 18446744073709551616) w) := by
  go_enter Try.func24, Try.ntmps24
  go_wp2_with (go_at_call 29; refine (div_u32 _ _ _ (by omega) (by omega) (by omega) (by omega)).mono ?_; rintro e w' ⟨rfl, n, rfl⟩)
  go_ret2
  exact ⟨rfl, n, rfl⟩
theorem divided_1_32 (x y : Int) (hx : 0 ≤ x) (hy : 0 ≤ y) (hx' : x ≤ 4294967295) (hy' : y ≤ 4294967295) (w : World) :
    Calls Try.prog 24 #[.int .i64 32, .bool true, .int .u64 x, .int .u64 y] w (Parted (aluZ false 48 1 x y % 18446744073709551616) (aluZ false 144 1 x y % 18446744073709551616) w) := by
  go_enter Try.func24, Try.ntmps24
  go_wp2_with (go_at_call 28; refine (div_i32 _ _ _).mono ?_; rintro e w' ⟨rfl, n, rfl⟩)
  go_ret2
  exact ⟨rfl, n, rfl⟩

end Go.Proofs.Ythafidhcmahomaa
