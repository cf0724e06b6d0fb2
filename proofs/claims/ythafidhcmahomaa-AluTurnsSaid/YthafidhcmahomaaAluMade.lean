/-
  What 'made' of package alu makes, op by op, at both widths.
  Conditions: the numbers are cut to the width.
-/
import Derived.Test.YthafidhcmahomaaAluLeaf
namespace Go.Proofs.Ythafidhcmahomaa
open Go.RowKit
set_option linter.unusedVariables false

set_option maxHeartbeats 1000000 in
theorem made_add_64 (x y : Int) (w : World) (hx : 0 ≤ x) (hx' : x ≤ 18446744073709551615) (hy : 0 ≤ y) (hy' : y ≤ 18446744073709551615) :
    Calls Try.prog 18 #[.int .u8 0, .int .i64 64, .int .i64 0, .int .u64 x, .int .u64 y] w fun e w' => e = .returned (.int .u64 (aluZ true 0 0 x y % 18446744073709551616)) ∧ w = w' := by
  go_enter Try.func18, Try.ntmps18
  go_wp2
  go_ret
  exact ⟨ret_int (by show _ = (x + y) % 18446744073709551616; first | (rw [IntKind.wrap_u64]) | omega), rfl⟩

set_option maxHeartbeats 1000000 in
theorem made_sub_64 (x y : Int) (w : World) (hx : 0 ≤ x) (hx' : x ≤ 18446744073709551615) (hy : 0 ≤ y) (hy' : y ≤ 18446744073709551615) :
    Calls Try.prog 18 #[.int .u8 16, .int .i64 64, .int .i64 0, .int .u64 x, .int .u64 y] w fun e w' => e = .returned (.int .u64 (aluZ true 16 0 x y % 18446744073709551616)) ∧ w = w' := by
  go_enter Try.func18, Try.ntmps18
  go_wp2
  go_ret
  exact ⟨ret_int (by show _ = (x - y) % 18446744073709551616; first | (rw [IntKind.wrap_u64]) | omega), rfl⟩

set_option maxHeartbeats 1000000 in
theorem made_mul_64 (x y : Int) (w : World) (hx : 0 ≤ x) (hx' : x ≤ 18446744073709551615) (hy : 0 ≤ y) (hy' : y ≤ 18446744073709551615) :
    Calls Try.prog 18 #[.int .u8 32, .int .i64 64, .int .i64 0, .int .u64 x, .int .u64 y] w fun e w' => e = .returned (.int .u64 (aluZ true 32 0 x y % 18446744073709551616)) ∧ w = w' := by
  go_enter Try.func18, Try.ntmps18
  go_wp2
  go_ret
  exact ⟨ret_int (by show _ = (x * y) % 18446744073709551616; rw [IntKind.wrap_u64]), rfl⟩

set_option maxHeartbeats 1000000 in
theorem made_or_64 (x y : Int) (w : World) (hx : 0 ≤ x) (hx' : x ≤ 18446744073709551615) (hy : 0 ≤ y) (hy' : y ≤ 18446744073709551615) :
    Calls Try.prog 18 #[.int .u8 64, .int .i64 64, .int .i64 0, .int .u64 x, .int .u64 y] w fun e w' => e = .returned (.int .u64 (aluZ true 64 0 x y % 18446744073709551616)) ∧ w = w' := by
  go_enter Try.func18, Try.ntmps18
  go_wp2
  go_ret
  exact ⟨ret_int (by show _ = ((x.toNat ||| y.toNat : Nat) : Int) % 18446744073709551616; rw [u64_or x y hx (by omega) hy (by omega)]; exact or_small x y (by omega) (by omega)), rfl⟩

set_option maxHeartbeats 1000000 in
theorem made_and_64 (x y : Int) (w : World) (hx : 0 ≤ x) (hx' : x ≤ 18446744073709551615) (hy : 0 ≤ y) (hy' : y ≤ 18446744073709551615) :
    Calls Try.prog 18 #[.int .u8 80, .int .i64 64, .int .i64 0, .int .u64 x, .int .u64 y] w fun e w' => e = .returned (.int .u64 (aluZ true 80 0 x y % 18446744073709551616)) ∧ w = w' := by
  go_enter Try.func18, Try.ntmps18
  go_wp2
  go_ret
  exact ⟨ret_int (by show _ = ((x.toNat &&& y.toNat : Nat) : Int) % 18446744073709551616; rw [u64_and x y hx (by omega) hy (by omega)]; exact and_small x y (by omega) (by omega)), rfl⟩

set_option maxHeartbeats 1000000 in
theorem made_xor_64 (x y : Int) (w : World) (hx : 0 ≤ x) (hx' : x ≤ 18446744073709551615) (hy : 0 ≤ y) (hy' : y ≤ 18446744073709551615) :
    Calls Try.prog 18 #[.int .u8 160, .int .i64 64, .int .i64 0, .int .u64 x, .int .u64 y] w fun e w' => e = .returned (.int .u64 (aluZ true 160 0 x y % 18446744073709551616)) ∧ w = w' := by
  go_enter Try.func18, Try.ntmps18
  go_wp2
  go_ret
  exact ⟨ret_int (by show _ = ((x.toNat ^^^ y.toNat : Nat) : Int) % 18446744073709551616; rw [u64_xor x y hx (by omega) hy (by omega)]; exact xor_small x y (by omega) (by omega)), rfl⟩

set_option maxHeartbeats 1000000 in
theorem made_lsh_64 (x y : Int) (w : World) (hx : 0 ≤ x) (hx' : x ≤ 18446744073709551615) (hy : 0 ≤ y) (hy' : y ≤ 18446744073709551615) :
    Calls Try.prog 18 #[.int .u8 96, .int .i64 64, .int .i64 0, .int .u64 x, .int .u64 y] w fun e w' => e = .returned (.int .u64 (aluZ true 96 0 x y % 18446744073709551616)) ∧ w = w' := by
  go_enter Try.func18, Try.ntmps18
  go_wp2
  go_ret
  exact ⟨ret_int (by show _ = (x * 2 ^ (y % 64).toNat) % 18446744073709551616; rw [IntKind.wrap_u64]), rfl⟩

set_option maxHeartbeats 1000000 in
theorem made_rsh_64 (x y : Int) (w : World) (hx : 0 ≤ x) (hx' : x ≤ 18446744073709551615) (hy : 0 ≤ y) (hy' : y ≤ 18446744073709551615) :
    Calls Try.prog 18 #[.int .u8 112, .int .i64 64, .int .i64 0, .int .u64 x, .int .u64 y] w fun e w' => e = .returned (.int .u64 (aluZ true 112 0 x y % 18446744073709551616)) ∧ w = w' := by
  go_enter Try.func18, Try.ntmps18
  go_wp2
  go_ret
  exact ⟨ret_int (by show _ = (x / 2 ^ (y % 64).toNat) % 18446744073709551616; exact shr_small x _ hx (by omega)), rfl⟩

set_option maxHeartbeats 1000000 in
theorem made_arsh_64 (x y : Int) (w : World) (hx : 0 ≤ x) (hx' : x ≤ 18446744073709551615) (hy : 0 ≤ y) (hy' : y ≤ 18446744073709551615) :
    Calls Try.prog 18 #[.int .u8 192, .int .i64 64, .int .i64 0, .int .u64 x, .int .u64 y] w fun e w' => e = .returned (.int .u64 (aluZ true 192 0 x y % 18446744073709551616)) ∧ w = w' := by
  go_enter Try.func18, Try.ntmps18
  go_wp2_with (go_at_call 15; refine (sign_any _ _ _ (by omega) (by omega)).mono ?_; rintro e w' ⟨rfl, rfl⟩)
  go_ret
  exact ⟨ret_int (by show _ = (sg true x / 2 ^ (y % 64).toNat) % 18446744073709551616; rw [IntKind.wrap_u64, signW_64, wrap64_low]; rfl), rfl⟩

set_option maxHeartbeats 1000000 in
theorem made_neg_64 (x y : Int) (w : World) (hx : 0 ≤ x) (hx' : x ≤ 18446744073709551615) (hy : 0 ≤ y) (hy' : y ≤ 18446744073709551615) :
    Calls Try.prog 18 #[.int .u8 128, .int .i64 64, .int .i64 0, .int .u64 x, .int .u64 y] w fun e w' => e = .returned (.int .u64 (aluZ true 128 0 x y % 18446744073709551616)) ∧ w = w' := by
  go_enter Try.func18, Try.ntmps18
  go_wp2
  go_ret
  exact ⟨ret_int (by show _ = (-x) % 18446744073709551616; rw [IntKind.wrap_u64]), rfl⟩

set_option maxHeartbeats 1000000 in
theorem made_mov_64 (x y : Int) (off : Int) (w : World) (hx : 0 ≤ x) (hx' : x ≤ 18446744073709551615) (hy : 0 ≤ y) (hy' : y ≤ 18446744073709551615) :
    Calls Try.prog 18 #[.int .u8 176, .int .i64 64, .int .i64 off, .int .u64 x, .int .u64 y] w fun e w' => e = .returned (.int .u64 (aluZ true 176 off x y % 18446744073709551616)) ∧ w = w' := by
  go_enter Try.func18, Try.ntmps18
  go_wp2_with (go_at_call 15; refine (sign_any _ _ _ (by omega) (by omega)).mono ?_; rintro e w' ⟨rfl, rfl⟩)
  go_ret
  exact ⟨ret_int (by show _ = signW y off % 18446744073709551616; have := signW_range y off hy (by omega); omega), rfl⟩

set_option maxHeartbeats 1000000 in
theorem made_div0_64 (x y : Int) (w : World) (hx : 0 ≤ x) (hx' : x ≤ 18446744073709551615) (hy : 0 ≤ y) (hy' : y ≤ 18446744073709551615) :
    Calls Try.prog 18 #[.int .u8 48, .int .i64 64, .int .i64 0, .int .u64 x, .int .u64 y] w fun e w' => e = .returned (.int .u64 (aluZ true 48 0 x y % 18446744073709551616)) ∧ ∃ n, w' = w.drewN n := by
  go_enter Try.func18, Try.ntmps18
  have hd := Lib.hid (divided_0_64 x y hx hy hx' hy')
  go_wp2_with (go_at_call 24; refine (hd.out _).mono ?_; rintro e w' ⟨rfl, n, rfl⟩)
  go_ret
  exact ⟨ret_int rfl, n, rfl⟩

set_option maxHeartbeats 1000000 in
theorem made_mod0_64 (x y : Int) (w : World) (hx : 0 ≤ x) (hx' : x ≤ 18446744073709551615) (hy : 0 ≤ y) (hy' : y ≤ 18446744073709551615) :
    Calls Try.prog 18 #[.int .u8 144, .int .i64 64, .int .i64 0, .int .u64 x, .int .u64 y] w fun e w' => e = .returned (.int .u64 (aluZ true 144 0 x y % 18446744073709551616)) ∧ ∃ n, w' = w.drewN n := by
  go_enter Try.func18, Try.ntmps18
  have hd := Lib.hid (divided_0_64 x y hx hy hx' hy')
  go_wp2_with (go_at_call 24; refine (hd.out _).mono ?_; rintro e w' ⟨rfl, n, rfl⟩)
  go_ret
  exact ⟨ret_int rfl, n, rfl⟩

set_option maxHeartbeats 1000000 in
theorem made_div1_64 (x y : Int) (w : World) (hx : 0 ≤ x) (hx' : x ≤ 18446744073709551615) (hy : 0 ≤ y) (hy' : y ≤ 18446744073709551615) :
    Calls Try.prog 18 #[.int .u8 48, .int .i64 64, .int .i64 1, .int .u64 x, .int .u64 y] w fun e w' => e = .returned (.int .u64 (aluZ true 48 1 x y % 18446744073709551616)) ∧ ∃ n, w' = w.drewN n := by
  go_enter Try.func18, Try.ntmps18
  have hd := Lib.hid (divided_1_64 x y hx hy hx' hy')
  go_wp2_with (go_at_call 24; refine (hd.out _).mono ?_; rintro e w' ⟨rfl, n, rfl⟩)
  go_ret
  exact ⟨ret_int rfl, n, rfl⟩

set_option maxHeartbeats 1000000 in
theorem made_mod1_64 (x y : Int) (w : World) (hx : 0 ≤ x) (hx' : x ≤ 18446744073709551615) (hy : 0 ≤ y) (hy' : y ≤ 18446744073709551615) :
    Calls Try.prog 18 #[.int .u8 144, .int .i64 64, .int .i64 1, .int .u64 x, .int .u64 y] w fun e w' => e = .returned (.int .u64 (aluZ true 144 1 x y % 18446744073709551616)) ∧ ∃ n, w' = w.drewN n := by
  go_enter Try.func18, Try.ntmps18
  have hd := Lib.hid (divided_1_64 x y hx hy hx' hy')
  go_wp2_with (go_at_call 24; refine (hd.out _).mono ?_; rintro e w' ⟨rfl, n, rfl⟩)
  go_ret
  exact ⟨ret_int rfl, n, rfl⟩

set_option maxHeartbeats 1000000 in
theorem made_add_32 (x y : Int) (w : World) (hx : 0 ≤ x) (hx' : x ≤ 4294967295) (hy : 0 ≤ y) (hy' : y ≤ 4294967295) :
    Calls Try.prog 18 #[.int .u8 0, .int .i64 32, .int .i64 0, .int .u64 x, .int .u64 y] w fun e w' => e = .returned (.int .u64 (aluZ false 0 0 x y % 18446744073709551616)) ∧ w = w' := by
  go_enter Try.func18, Try.ntmps18
  go_wp2
  go_ret
  exact ⟨ret_int (by show _ = (x + y) % 18446744073709551616; first | (rw [IntKind.wrap_u64]) | omega), rfl⟩

set_option maxHeartbeats 1000000 in
theorem made_sub_32 (x y : Int) (w : World) (hx : 0 ≤ x) (hx' : x ≤ 4294967295) (hy : 0 ≤ y) (hy' : y ≤ 4294967295) :
    Calls Try.prog 18 #[.int .u8 16, .int .i64 32, .int .i64 0, .int .u64 x, .int .u64 y] w fun e w' => e = .returned (.int .u64 (aluZ false 16 0 x y % 18446744073709551616)) ∧ w = w' := by
  go_enter Try.func18, Try.ntmps18
  go_wp2
  go_ret
  exact ⟨ret_int (by show _ = (x - y) % 18446744073709551616; first | (rw [IntKind.wrap_u64]) | omega), rfl⟩

set_option maxHeartbeats 1000000 in
theorem made_mul_32 (x y : Int) (w : World) (hx : 0 ≤ x) (hx' : x ≤ 4294967295) (hy : 0 ≤ y) (hy' : y ≤ 4294967295) :
    Calls Try.prog 18 #[.int .u8 32, .int .i64 32, .int .i64 0, .int .u64 x, .int .u64 y] w fun e w' => e = .returned (.int .u64 (aluZ false 32 0 x y % 18446744073709551616)) ∧ w = w' := by
  go_enter Try.func18, Try.ntmps18
  go_wp2
  go_ret
  exact ⟨ret_int (by show _ = (x * y) % 18446744073709551616; rw [IntKind.wrap_u64]), rfl⟩

set_option maxHeartbeats 1000000 in
theorem made_or_32 (x y : Int) (w : World) (hx : 0 ≤ x) (hx' : x ≤ 4294967295) (hy : 0 ≤ y) (hy' : y ≤ 4294967295) :
    Calls Try.prog 18 #[.int .u8 64, .int .i64 32, .int .i64 0, .int .u64 x, .int .u64 y] w fun e w' => e = .returned (.int .u64 (aluZ false 64 0 x y % 18446744073709551616)) ∧ w = w' := by
  go_enter Try.func18, Try.ntmps18
  go_wp2
  go_ret
  exact ⟨ret_int (by show _ = ((x.toNat ||| y.toNat : Nat) : Int) % 18446744073709551616; rw [u64_or x y hx (by omega) hy (by omega)]; exact or_small x y (by omega) (by omega)), rfl⟩

set_option maxHeartbeats 1000000 in
theorem made_and_32 (x y : Int) (w : World) (hx : 0 ≤ x) (hx' : x ≤ 4294967295) (hy : 0 ≤ y) (hy' : y ≤ 4294967295) :
    Calls Try.prog 18 #[.int .u8 80, .int .i64 32, .int .i64 0, .int .u64 x, .int .u64 y] w fun e w' => e = .returned (.int .u64 (aluZ false 80 0 x y % 18446744073709551616)) ∧ w = w' := by
  go_enter Try.func18, Try.ntmps18
  go_wp2
  go_ret
  exact ⟨ret_int (by show _ = ((x.toNat &&& y.toNat : Nat) : Int) % 18446744073709551616; rw [u64_and x y hx (by omega) hy (by omega)]; exact and_small x y (by omega) (by omega)), rfl⟩

set_option maxHeartbeats 1000000 in
theorem made_xor_32 (x y : Int) (w : World) (hx : 0 ≤ x) (hx' : x ≤ 4294967295) (hy : 0 ≤ y) (hy' : y ≤ 4294967295) :
    Calls Try.prog 18 #[.int .u8 160, .int .i64 32, .int .i64 0, .int .u64 x, .int .u64 y] w fun e w' => e = .returned (.int .u64 (aluZ false 160 0 x y % 18446744073709551616)) ∧ w = w' := by
  go_enter Try.func18, Try.ntmps18
  go_wp2
  go_ret
  exact ⟨ret_int (by show _ = ((x.toNat ^^^ y.toNat : Nat) : Int) % 18446744073709551616; rw [u64_xor x y hx (by omega) hy (by omega)]; exact xor_small x y (by omega) (by omega)), rfl⟩

set_option maxHeartbeats 1000000 in
theorem made_lsh_32 (x y : Int) (w : World) (hx : 0 ≤ x) (hx' : x ≤ 4294967295) (hy : 0 ≤ y) (hy' : y ≤ 4294967295) :
    Calls Try.prog 18 #[.int .u8 96, .int .i64 32, .int .i64 0, .int .u64 x, .int .u64 y] w fun e w' => e = .returned (.int .u64 (aluZ false 96 0 x y % 18446744073709551616)) ∧ w = w' := by
  go_enter Try.func18, Try.ntmps18
  go_wp2
  go_ret
  exact ⟨ret_int (by show _ = (x * 2 ^ (y % 32).toNat) % 18446744073709551616; rw [IntKind.wrap_u64]), rfl⟩

set_option maxHeartbeats 1000000 in
theorem made_rsh_32 (x y : Int) (w : World) (hx : 0 ≤ x) (hx' : x ≤ 4294967295) (hy : 0 ≤ y) (hy' : y ≤ 4294967295) :
    Calls Try.prog 18 #[.int .u8 112, .int .i64 32, .int .i64 0, .int .u64 x, .int .u64 y] w fun e w' => e = .returned (.int .u64 (aluZ false 112 0 x y % 18446744073709551616)) ∧ w = w' := by
  go_enter Try.func18, Try.ntmps18
  go_wp2
  go_ret
  exact ⟨ret_int (by show _ = (x / 2 ^ (y % 32).toNat) % 18446744073709551616; exact shr_small x _ hx (by omega)), rfl⟩

set_option maxHeartbeats 1000000 in
theorem made_arsh_32 (x y : Int) (w : World) (hx : 0 ≤ x) (hx' : x ≤ 4294967295) (hy : 0 ≤ y) (hy' : y ≤ 4294967295) :
    Calls Try.prog 18 #[.int .u8 192, .int .i64 32, .int .i64 0, .int .u64 x, .int .u64 y] w fun e w' => e = .returned (.int .u64 (aluZ false 192 0 x y % 18446744073709551616)) ∧ w = w' := by
  go_enter Try.func18, Try.ntmps18
  go_wp2_with (go_at_call 15; refine (sign_any _ _ _ (by omega) (by omega)).mono ?_; rintro e w' ⟨rfl, rfl⟩)
  go_ret
  exact ⟨ret_int (by show _ = (sg false x / 2 ^ (y % 32).toNat) % 18446744073709551616; rw [IntKind.wrap_u64, signW_32, wrap64_wrap32]; rfl), rfl⟩

set_option maxHeartbeats 1000000 in
theorem made_neg_32 (x y : Int) (w : World) (hx : 0 ≤ x) (hx' : x ≤ 4294967295) (hy : 0 ≤ y) (hy' : y ≤ 4294967295) :
    Calls Try.prog 18 #[.int .u8 128, .int .i64 32, .int .i64 0, .int .u64 x, .int .u64 y] w fun e w' => e = .returned (.int .u64 (aluZ false 128 0 x y % 18446744073709551616)) ∧ w = w' := by
  go_enter Try.func18, Try.ntmps18
  go_wp2
  go_ret
  exact ⟨ret_int (by show _ = (-x) % 18446744073709551616; rw [IntKind.wrap_u64]), rfl⟩

set_option maxHeartbeats 1000000 in
theorem made_mov_32 (x y : Int) (off : Int) (w : World) (hx : 0 ≤ x) (hx' : x ≤ 4294967295) (hy : 0 ≤ y) (hy' : y ≤ 4294967295) :
    Calls Try.prog 18 #[.int .u8 176, .int .i64 32, .int .i64 off, .int .u64 x, .int .u64 y] w fun e w' => e = .returned (.int .u64 (aluZ false 176 off x y % 18446744073709551616)) ∧ w = w' := by
  go_enter Try.func18, Try.ntmps18
  go_wp2_with (go_at_call 15; refine (sign_any _ _ _ (by omega) (by omega)).mono ?_; rintro e w' ⟨rfl, rfl⟩)
  go_ret
  exact ⟨ret_int (by show _ = signW y off % 18446744073709551616; have := signW_range y off hy (by omega); omega), rfl⟩

set_option maxHeartbeats 1000000 in
theorem made_div0_32 (x y : Int) (w : World) (hx : 0 ≤ x) (hx' : x ≤ 4294967295) (hy : 0 ≤ y) (hy' : y ≤ 4294967295) :
    Calls Try.prog 18 #[.int .u8 48, .int .i64 32, .int .i64 0, .int .u64 x, .int .u64 y] w fun e w' => e = .returned (.int .u64 (aluZ false 48 0 x y % 18446744073709551616)) ∧ ∃ n, w' = w.drewN n := by
  go_enter Try.func18, Try.ntmps18
  have hd := Lib.hid (divided_0_32 x y hx hy hx' hy')
  go_wp2_with (go_at_call 24; refine (hd.out _).mono ?_; rintro e w' ⟨rfl, n, rfl⟩)
  go_ret
  exact ⟨ret_int rfl, n, rfl⟩

set_option maxHeartbeats 1000000 in
theorem made_mod0_32 (x y : Int) (w : World) (hx : 0 ≤ x) (hx' : x ≤ 4294967295) (hy : 0 ≤ y) (hy' : y ≤ 4294967295) :
    Calls Try.prog 18 #[.int .u8 144, .int .i64 32, .int .i64 0, .int .u64 x, .int .u64 y] w fun e w' => e = .returned (.int .u64 (aluZ false 144 0 x y % 18446744073709551616)) ∧ ∃ n, w' = w.drewN n := by
  go_enter Try.func18, Try.ntmps18
  have hd := Lib.hid (divided_0_32 x y hx hy hx' hy')
  go_wp2_with (go_at_call 24; refine (hd.out _).mono ?_; rintro e w' ⟨rfl, n, rfl⟩)
  go_ret
  exact ⟨ret_int rfl, n, rfl⟩

set_option maxHeartbeats 1000000 in
theorem made_div1_32 (x y : Int) (w : World) (hx : 0 ≤ x) (hx' : x ≤ 4294967295) (hy : 0 ≤ y) (hy' : y ≤ 4294967295) :
    Calls Try.prog 18 #[.int .u8 48, .int .i64 32, .int .i64 1, .int .u64 x, .int .u64 y] w fun e w' => e = .returned (.int .u64 (aluZ false 48 1 x y % 18446744073709551616)) ∧ ∃ n, w' = w.drewN n := by
  go_enter Try.func18, Try.ntmps18
  have hd := Lib.hid (divided_1_32 x y hx hy hx' hy')
  go_wp2_with (go_at_call 24; refine (hd.out _).mono ?_; rintro e w' ⟨rfl, n, rfl⟩)
  go_ret
  exact ⟨ret_int rfl, n, rfl⟩

set_option maxHeartbeats 1000000 in
theorem made_mod1_32 (x y : Int) (w : World) (hx : 0 ≤ x) (hx' : x ≤ 4294967295) (hy : 0 ≤ y) (hy' : y ≤ 4294967295) :
    Calls Try.prog 18 #[.int .u8 144, .int .i64 32, .int .i64 1, .int .u64 x, .int .u64 y] w fun e w' => e = .returned (.int .u64 (aluZ false 144 1 x y % 18446744073709551616)) ∧ ∃ n, w' = w.drewN n := by
  go_enter Try.func18, Try.ntmps18
  have hd := Lib.hid (divided_1_32 x y hx hy hx' hy')
  go_wp2_with (go_at_call 24; refine (hd.out _).mono ?_; rintro e w' ⟨rfl, n, rfl⟩)
  go_ret
  exact ⟨ret_int rfl, n, rfl⟩

end Go.Proofs.Ythafidhcmahomaa
