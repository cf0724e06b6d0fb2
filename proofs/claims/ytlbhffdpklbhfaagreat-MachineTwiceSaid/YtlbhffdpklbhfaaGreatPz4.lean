/-
  Texts, one behind the other: AluMade, AluFits, AluDo.
  Conditions: those that each theorem states.
-/
import Derived.Test.YtlbhffdpklbhfaaGreatPz3
namespace Go.Proofs.YtlbhffdpklbhfaaGreat
open Go.RowKit
set_option linter.unusedVariables false
set_option maxHeartbeats 1000000 in
theorem made_add_64 (x y : Int) (w : World) (hx : 0 ≤ x) (hx' : x ≤ 18446744073709551615) (hy : 0 ≤ y) (hy' : y ≤ 18446744073709551615) :
    Calls Tryz.prog 164 #[.int .u8 0, .int .i64 64, .int .i64 0, .int .u64 x, .int .u64 y] w fun e w' => e = .returned (.int .u64 (aluZ true 0 0 x y % 18446744073709551616)) ∧ w = w' := by
  go_enter Tryz.func164, Tryz.ntmps164
  go_wp2
  go_ret
  exact ⟨ret_int (by show _ = (x + y) % 18446744073709551616; first | (rw [IntKind.wrap_u64]) | omega), rfl⟩
set_option maxHeartbeats 1000000 in
theorem made_sub_64 (x y : Int) (w : World) (hx : 0 ≤ x) (hx' : x ≤ 18446744073709551615) (hy : 0 ≤ y) (hy' : y ≤ 18446744073709551615) :
    Calls Tryz.prog 164 #[.int .u8 16, .int .i64 64, .int .i64 0, .int .u64 x, .int .u64 y] w fun e w' => e = .returned (.int .u64 (aluZ true 16 0 x y % 18446744073709551616)) ∧ w = w' := by
  go_enter Tryz.func164, Tryz.ntmps164
  go_wp2
  go_ret
  exact ⟨ret_int (by show _ = (x - y) % 18446744073709551616; first | (rw [IntKind.wrap_u64]) | omega), rfl⟩
set_option maxHeartbeats 1000000 in
theorem made_mul_64 (x y : Int) (w : World) (hx : 0 ≤ x) (hx' : x ≤ 18446744073709551615) (hy : 0 ≤ y) (hy' : y ≤ 18446744073709551615) :
    Calls Tryz.prog 164 #[.int .u8 32, .int .i64 64, .int .i64 0, .int .u64 x, .int .u64 y] w fun e w' => e = .returned (.int .u64 (aluZ true 32 0 x y % 18446744073709551616)) ∧ w = w' := by
  go_enter Tryz.func164, Tryz.ntmps164
  go_wp2
  go_ret
  exact ⟨ret_int (by show _ = (x * y) % 18446744073709551616; rw [IntKind.wrap_u64]), rfl⟩
set_option maxHeartbeats 1000000 in
theorem made_or_64 (x y : Int) (w : World) (hx : 0 ≤ x) (hx' : x ≤ 18446744073709551615) (hy : 0 ≤ y) (hy' : y ≤ 18446744073709551615) :
    Calls Tryz.prog 164 #[.int .u8 64, .int .i64 64, .int .i64 0, .int .u64 x, .int .u64 y] w fun e w' => e = .returned (.int .u64 (aluZ true 64 0 x y % 18446744073709551616)) ∧ w = w' := by
  go_enter Tryz.func164, Tryz.ntmps164
  go_wp2
  go_ret
  exact ⟨ret_int (by show _ = ((x.toNat ||| y.toNat : Nat) : Int) % 18446744073709551616; rw [u64_or x y hx (by omega) hy (by omega)]; exact or_small x y (by omega) (by omega)), rfl⟩
set_option maxHeartbeats 1000000 in
theorem made_and_64 (x y : Int) (w : World) (hx : 0 ≤ x) (hx' : x ≤ 18446744073709551615) (hy : 0 ≤ y) (hy' : y ≤ 18446744073709551615) :
    Calls Tryz.prog 164 #[.int .u8 80, .int .i64 64, .int .i64 0, .int .u64 x, .int .u64 y] w fun e w' => e = .returned (.int .u64 (aluZ true 80 0 x y % 18446744073709551616)) ∧ w = w' := by
  go_enter Tryz.func164, Tryz.ntmps164
  go_wp2
  go_ret
  exact ⟨ret_int (by show _ = ((x.toNat &&& y.toNat : Nat) : Int) % 18446744073709551616; rw [u64_and x y hx (by omega) hy (by omega)]; exact and_small x y (by omega) (by omega)), rfl⟩
set_option maxHeartbeats 1000000 in
theorem made_xor_64 (x y : Int) (w : World) (hx : 0 ≤ x) (hx' : x ≤ 18446744073709551615) (hy : 0 ≤ y) (hy' : y ≤ 18446744073709551615) :
    Calls Tryz.prog 164 #[.int .u8 160, .int .i64 64, .int .i64 0, .int .u64 x, .int .u64 y] w fun e w' => e = .returned (.int .u64 (aluZ true 160 0 x y % 18446744073709551616)) ∧ w = w' := by
  go_enter Tryz.func164, Tryz.ntmps164
  go_wp2
  go_ret
  exact ⟨ret_int (by show _ = ((x.toNat ^^^ y.toNat : Nat) : Int) % 18446744073709551616; rw [u64_xor x y hx (by omega) hy (by omega)]; exact xor_small x y (by omega) (by omega)), rfl⟩
set_option maxHeartbeats 1000000 in
theorem made_lsh_64 (x y : Int) (w : World) (hx : 0 ≤ x) (hx' : x ≤ 18446744073709551615) (hy : 0 ≤ y) (hy' : y ≤ 18446744073709551615) :
    Calls Tryz.prog 164 #[.int .u8 96, .int .i64 64, .int .i64 0, .int .u64 x, .int .u64 y] w fun e w' => e = .returned (.int .u64 (aluZ true 96 0 x y % 18446744073709551616)) ∧ w = w' := by
  go_enter Tryz.func164, Tryz.ntmps164
  go_wp2
  go_ret
  exact ⟨ret_int (by show _ = (x * 2 ^ (y % 64).toNat) % 18446744073709551616; rw [IntKind.wrap_u64]), rfl⟩
set_option maxHeartbeats 1000000 in
theorem made_rsh_64 (x y : Int) (w : World) (hx : 0 ≤ x) (hx' : x ≤ 18446744073709551615) (hy : 0 ≤ y) (hy' : y ≤ 18446744073709551615) :
    Calls Tryz.prog 164 #[.int .u8 112, .int .i64 64, .int .i64 0, .int .u64 x, .int .u64 y] w fun e w' => e = .returned (.int .u64 (aluZ true 112 0 x y % 18446744073709551616)) ∧ w = w' := by
  go_enter Tryz.func164, Tryz.ntmps164
  go_wp2
  go_ret
  exact ⟨ret_int (by show _ = (x / 2 ^ (y % 64).toNat) % 18446744073709551616; exact shr_small x _ hx (by omega)), rfl⟩
set_option maxHeartbeats 1000000 in
theorem made_arsh_64 (x y : Int) (w : World) (hx : 0 ≤ x) (hx' : x ≤ 18446744073709551615) (hy : 0 ≤ y) (hy' : y ≤ 18446744073709551615) :
    Calls Tryz.prog 164 #[.int .u8 192, .int .i64 64, .int .i64 0, .int .u64 x, .int .u64 y] w fun e w' => e = .returned (.int .u64 (aluZ true 192 0 x y % 18446744073709551616)) ∧ w = w' := by
  go_enter Tryz.func164, Tryz.ntmps164
  go_wp2_with (go_at_call 154; refine (sign_any _ _ _ (by omega) (by omega)).mono ?_; rintro e w' ⟨rfl, rfl⟩)
  go_ret
  exact ⟨ret_int (by show _ = (sg true x / 2 ^ (y % 64).toNat) % 18446744073709551616; rw [IntKind.wrap_u64, signW_64, wrap64_low]; rfl), rfl⟩
set_option maxHeartbeats 1000000 in
theorem made_neg_64 (x y : Int) (w : World) (hx : 0 ≤ x) (hx' : x ≤ 18446744073709551615) (hy : 0 ≤ y) (hy' : y ≤ 18446744073709551615) :
    Calls Tryz.prog 164 #[.int .u8 128, .int .i64 64, .int .i64 0, .int .u64 x, .int .u64 y] w fun e w' => e = .returned (.int .u64 (aluZ true 128 0 x y % 18446744073709551616)) ∧ w = w' := by
  go_enter Tryz.func164, Tryz.ntmps164
  go_wp2
  go_ret
  exact ⟨ret_int (by show _ = (-x) % 18446744073709551616; rw [IntKind.wrap_u64]), rfl⟩
set_option maxHeartbeats 1000000 in
theorem made_mov_64 (x y : Int) (off : Int) (w : World) (hx : 0 ≤ x) (hx' : x ≤ 18446744073709551615) (hy : 0 ≤ y) (hy' : y ≤ 18446744073709551615) :
    Calls Tryz.prog 164 #[.int .u8 176, .int .i64 64, .int .i64 off, .int .u64 x, .int .u64 y] w fun e w' => e = .returned (.int .u64 (aluZ true 176 off x y % 18446744073709551616)) ∧ w = w' := by
  go_enter Tryz.func164, Tryz.ntmps164
  go_wp2_with (go_at_call 154; refine (sign_any _ _ _ (by omega) (by omega)).mono ?_; rintro e w' ⟨rfl, rfl⟩)
  go_ret
  exact ⟨ret_int (by show _ = signW y off % 18446744073709551616; have := signW_range y off hy (by omega); omega), rfl⟩
set_option maxHeartbeats 1000000 in
theorem made_div0_64 (x y : Int) (w : World) (hx : 0 ≤ x) (hx' : x ≤ 18446744073709551615) (hy : 0 ≤ y) (hy' : y ≤ 18446744073709551615) :
    Calls Tryz.prog 164 #[.int .u8 48, .int .i64 64, .int .i64 0, .int .u64 x, .int .u64 y] w fun e w' => e = .returned (.int .u64 (aluZ true 48 0 x y % 18446744073709551616)) ∧ ∃ n, w' = w.drewN n := by
  go_enter Tryz.func164, Tryz.ntmps164
  have hd := Lib.hid (divided_0_64 x y hx hy hx' hy')
  go_wp2_with (go_at_call 186; refine (hd.out _).mono ?_; rintro e w' ⟨rfl, n, rfl⟩)
  go_ret
  exact ⟨ret_int rfl, n, rfl⟩
set_option maxHeartbeats 1000000 in
theorem made_mod0_64 (x y : Int) (w : World) (hx : 0 ≤ x) (hx' : x ≤ 18446744073709551615) (hy : 0 ≤ y) (hy' : y ≤ 18446744073709551615) :
    Calls Tryz.prog 164 #[.int .u8 144, .int .i64 64, .int .i64 0, .int .u64 x, .int .u64 y] w fun e w' => e = .returned (.int .u64 (aluZ true 144 0 x y % 18446744073709551616)) ∧ ∃ n, w' = w.drewN n := by
  go_enter Tryz.func164, Tryz.ntmps164
  have hd := Lib.hid (divided_0_64 x y hx hy hx' hy')
  go_wp2_with (go_at_call 186; refine (hd.out _).mono ?_; rintro e w' ⟨rfl, n, rfl⟩)
  go_ret
  exact ⟨ret_int rfl, n, rfl⟩
set_option maxHeartbeats 1000000 in
theorem made_div1_64 (x y : Int) (w : World) (hx : 0 ≤ x) (hx' : x ≤ 18446744073709551615) (hy : 0 ≤ y) (hy' : y ≤ 18446744073709551615) :
    Calls Tryz.prog 164 #[.int .u8 48, .int .i64 64, .int .i64 1, .int .u64 x, .int .u64 y] w fun e w' => e = .returned (.int .u64 (aluZ true 48 1 x y % 18446744073709551616)) ∧ ∃ n, w' = w.drewN n := by
  go_enter Tryz.func164, Tryz.ntmps164
  have hd := Lib.hid (divided_1_64 x y hx hy hx' hy')
  go_wp2_with (go_at_call 186; refine (hd.out _).mono ?_; rintro e w' ⟨rfl, n, rfl⟩)
  go_ret
  exact ⟨ret_int rfl, n, rfl⟩
set_option maxHeartbeats 1000000 in
theorem made_mod1_64 (x y : Int) (w : World) (hx : 0 ≤ x) (hx' : x ≤ 18446744073709551615) (hy : 0 ≤ y) (hy' : y ≤ 18446744073709551615) :
    Calls Tryz.prog 164 #[.int .u8 144, .int .i64 64, .int .i64 1, .int .u64 x, .int .u64 y] w fun e w' => e = .returned (.int .u64 (aluZ true 144 1 x y % 18446744073709551616)) ∧ ∃ n, w' = w.drewN n := by
  go_enter Tryz.func164, Tryz.ntmps164
  have hd := Lib.hid (divided_1_64 x y hx hy hx' hy')
  go_wp2_with (go_at_call 186; refine (hd.out _).mono ?_; rintro e w' ⟨rfl, n, rfl⟩)
  go_ret
  exact ⟨ret_int rfl, n, rfl⟩
set_option maxHeartbeats 1000000 in
theorem made_add_32 (x y : Int) (w : World) (hx : 0 ≤ x) (hx' : x ≤ 4294967295) (hy : 0 ≤ y) (hy' : y ≤ 4294967295) :
    Calls Tryz.prog 164 #[.int .u8 0, .int .i64 32, .int .i64 0, .int .u64 x, .int .u64 y] w fun e w' => e = .returned (.int .u64 (aluZ false 0 0 x y % 18446744073709551616)) ∧ w = w' := by
  go_enter Tryz.func164, Tryz.ntmps164
  go_wp2
  go_ret
  exact ⟨ret_int (by show _ = (x + y) % 18446744073709551616; first | (rw [IntKind.wrap_u64]) | omega), rfl⟩
set_option maxHeartbeats 1000000 in
theorem made_sub_32 (x y : Int) (w : World) (hx : 0 ≤ x) (hx' : x ≤ 4294967295) (hy : 0 ≤ y) (hy' : y ≤ 4294967295) :
    Calls Tryz.prog 164 #[.int .u8 16, .int .i64 32, .int .i64 0, .int .u64 x, .int .u64 y] w fun e w' => e = .returned (.int .u64 (aluZ false 16 0 x y % 18446744073709551616)) ∧ w = w' := by
  go_enter Tryz.func164, Tryz.ntmps164
  go_wp2
  go_ret
  exact ⟨ret_int (by show _ = (x - y) % 18446744073709551616; first | (rw [IntKind.wrap_u64]) | omega), rfl⟩
set_option maxHeartbeats 1000000 in
theorem made_mul_32 (x y : Int) (w : World) (hx : 0 ≤ x) (hx' : x ≤ 4294967295) (hy : 0 ≤ y) (hy' : y ≤ 4294967295) :
    Calls Tryz.prog 164 #[.int .u8 32, .int .i64 32, .int .i64 0, .int .u64 x, .int .u64 y] w fun e w' => e = .returned (.int .u64 (aluZ false 32 0 x y % 18446744073709551616)) ∧ w = w' := by
  go_enter Tryz.func164, Tryz.ntmps164
  go_wp2
  go_ret
  exact ⟨ret_int (by show _ = (x * y) % 18446744073709551616; rw [IntKind.wrap_u64]), rfl⟩
set_option maxHeartbeats 1000000 in
theorem made_or_32 (x y : Int) (w : World) (hx : 0 ≤ x) (hx' : x ≤ 4294967295) (hy : 0 ≤ y) (hy' : y ≤ 4294967295) :
    Calls Tryz.prog 164 #[.int .u8 64, .int .i64 32, .int .i64 0, .int .u64 x, .int .u64 y] w fun e w' => e = .returned (.int .u64 (aluZ false 64 0 x y % 18446744073709551616)) ∧ w = w' := by
  go_enter Tryz.func164, Tryz.ntmps164
  go_wp2
  go_ret
  exact ⟨ret_int (by show _ = ((x.toNat ||| y.toNat : Nat) : Int) % 18446744073709551616; rw [u64_or x y hx (by omega) hy (by omega)]; exact or_small x y (by omega) (by omega)), rfl⟩
set_option maxHeartbeats 1000000 in
theorem made_and_32 (x y : Int) (w : World) (hx : 0 ≤ x) (hx' : x ≤ 4294967295) (hy : 0 ≤ y) (hy' : y ≤ 4294967295) :
    Calls Tryz.prog 164 #[.int .u8 80, .int .i64 32, .int .i64 0, .int .u64 x, .int .u64 y] w fun e w' => e = .returned (.int .u64 (aluZ false 80 0 x y % 18446744073709551616)) ∧ w = w' := by
  go_enter Tryz.func164, Tryz.ntmps164
  go_wp2
  go_ret
  exact ⟨ret_int (by show _ = ((x.toNat &&& y.toNat : Nat) : Int) % 18446744073709551616; rw [u64_and x y hx (by omega) hy (by omega)]; exact and_small x y (by omega) (by omega)), rfl⟩
set_option maxHeartbeats 1000000 in
theorem made_xor_32 (x y : Int) (w : World) (hx : 0 ≤ x) (hx' : x ≤ 4294967295) (hy : 0 ≤ y) (hy' : y ≤ 4294967295) :
    Calls Tryz.prog 164 #[.int .u8 160, .int .i64 32, .int .i64 0, .int .u64 x, .int .u64 y] w fun e w' => e = .returned (.int .u64 (aluZ false 160 0 x y % 18446744073709551616)) ∧ w = w' := by
  go_enter Tryz.func164, Tryz.ntmps164
  go_wp2
  go_ret
  exact ⟨ret_int (by show _ = ((x.toNat ^^^ y.toNat : Nat) : Int) % 18446744073709551616; rw [u64_xor x y hx (by omega) hy (by omega)]; exact xor_small x y (by omega) (by omega)), rfl⟩
set_option maxHeartbeats 1000000 in
theorem made_lsh_32 (x y : Int) (w : World) (hx : 0 ≤ x) (hx' : x ≤ 4294967295) (hy : 0 ≤ y) (hy' : y ≤ 4294967295) :
    Calls Tryz.prog 164 #[.int .u8 96, .int .i64 32, .int .i64 0, .int .u64 x, .int .u64 y] w fun e w' => e = .returned (.int .u64 (aluZ false 96 0 x y % 18446744073709551616)) ∧ w = w' := by
  go_enter Tryz.func164, Tryz.ntmps164
  go_wp2
  go_ret
  exact ⟨ret_int (by show _ = (x * 2 ^ (y % 32).toNat) % 18446744073709551616; rw [IntKind.wrap_u64]), rfl⟩
set_option maxHeartbeats 1000000 in
theorem made_rsh_32 (x y : Int) (w : World) (hx : 0 ≤ x) (hx' : x ≤ 4294967295) (hy : 0 ≤ y) (hy' : y ≤ 4294967295) :
    Calls Tryz.prog 164 #[.int .u8 112, .int .i64 32, .int .i64 0, .int .u64 x, .int .u64 y] w fun e w' => e = .returned (.int .u64 (aluZ false 112 0 x y % 18446744073709551616)) ∧ w = w' := by
  go_enter Tryz.func164, Tryz.ntmps164
  go_wp2
  go_ret
  exact ⟨ret_int (by show _ = (x / 2 ^ (y % 32).toNat) % 18446744073709551616; exact shr_small x _ hx (by omega)), rfl⟩
set_option maxHeartbeats 1000000 in
theorem made_arsh_32 (x y : Int) (w : World) (hx : 0 ≤ x) (hx' : x ≤ 4294967295) (hy : 0 ≤ y) (hy' : y ≤ 4294967295) :
    Calls Tryz.prog 164 #[.int .u8 192, .int .i64 32, .int .i64 0, .int .u64 x, .int .u64 y] w fun e w' => e = .returned (.int .u64 (aluZ false 192 0 x y % 18446744073709551616)) ∧ w = w' := by
  go_enter Tryz.func164, Tryz.ntmps164
  go_wp2_with (go_at_call 154; refine (sign_any _ _ _ (by omega) (by omega)).mono ?_; rintro e w' ⟨rfl, rfl⟩)
  go_ret
  exact ⟨ret_int (by show _ = (sg false x / 2 ^ (y % 32).toNat) % 18446744073709551616; rw [IntKind.wrap_u64, signW_32, wrap64_wrap32]; rfl), rfl⟩
set_option maxHeartbeats 1000000 in
theorem made_neg_32 (x y : Int) (w : World) (hx : 0 ≤ x) (hx' : x ≤ 4294967295) (hy : 0 ≤ y) (hy' : y ≤ 4294967295) :
    Calls Tryz.prog 164 #[.int .u8 128, .int .i64 32, .int .i64 0, .int .u64 x, .int .u64 y] w fun e w' => e = .returned (.int .u64 (aluZ false 128 0 x y % 18446744073709551616)) ∧ w = w' := by
  go_enter Tryz.func164, Tryz.ntmps164
  go_wp2
  go_ret
  exact ⟨ret_int (by show _ = (-x) % 18446744073709551616; rw [IntKind.wrap_u64]), rfl⟩
set_option maxHeartbeats 1000000 in
theorem made_mov_32 (x y : Int) (off : Int) (w : World) (hx : 0 ≤ x) (hx' : x ≤ 4294967295) (hy : 0 ≤ y) (hy' : y ≤ 4294967295) :
    Calls Tryz.prog 164 #[.int .u8 176, .int .i64 32, .int .i64 off, .int .u64 x, .int .u64 y] w fun e w' => e = .returned (.int .u64 (aluZ false 176 off x y % 18446744073709551616)) ∧ w = w' := by
  go_enter Tryz.func164, Tryz.ntmps164
  go_wp2_with (go_at_call 154; refine (sign_any _ _ _ (by omega) (by omega)).mono ?_; rintro e w' ⟨rfl, rfl⟩)
  go_ret
  exact ⟨ret_int (by show _ = signW y off % 18446744073709551616; have := signW_range y off hy (by omega); omega), rfl⟩
set_option maxHeartbeats 1000000 in
theorem made_div0_32 (x y : Int) (w : World) (hx : 0 ≤ x) (hx' : x ≤ 4294967295) (hy : 0 ≤ y) (hy' : y ≤ 4294967295) :
    Calls Tryz.prog 164 #[.int .u8 48, .int .i64 32, .int .i64 0, .int .u64 x, .int .u64 y] w fun e w' => e = .returned (.int .u64 (aluZ false 48 0 x y % 18446744073709551616)) ∧ ∃ n, w' = w.drewN n := by
  go_enter Tryz.func164, Tryz.ntmps164
  have hd := Lib.hid (divided_0_32 x y hx hy hx' hy')
  go_wp2_with (go_at_call 186; refine (hd.out _).mono ?_; rintro e w' ⟨rfl, n, rfl⟩)
  go_ret
  exact ⟨ret_int rfl, n, rfl⟩
set_option maxHeartbeats 1000000 in
theorem made_mod0_32 (x y : Int) (w : World) (hx : 0 ≤ x) (hx' : x ≤ 4294967295) (hy : 0 ≤ y) (hy' : y ≤ 4294967295) :
    Calls Tryz.prog 164 #[.int .u8 144, .int .i64 32, .int .i64 0, .int .u64 x, .int .u64 y] w fun e w' => e = .returned (.int .u64 (aluZ false 144 0 x y % 18446744073709551616)) ∧ ∃ n, w' = w.drewN n := by
  go_enter Tryz.func164, Tryz.ntmps164
  have hd := Lib.hid (divided_0_32 x y hx hy hx' hy')
  go_wp2_with (go_at_call 186; refine (hd.out _).mono ?_; rintro e w' ⟨rfl, n, rfl⟩)
  go_ret
  exact ⟨ret_int rfl, n, rfl⟩
set_option maxHeartbeats 1000000 in
theorem made_div1_32 (x y : Int) (w : World) (hx : 0 ≤ x) (hx' : x ≤ 4294967295) (hy : 0 ≤ y) (hy' : y ≤ 4294967295) :
    Calls Tryz.prog 164 #[.int .u8 48, .int .i64 32, .int .i64 1, .int .u64 x, .int .u64 y] w fun e w' => e = .returned (.int .u64 (aluZ false 48 1 x y % 18446744073709551616)) ∧ ∃ n, w' = w.drewN n := by
  go_enter Tryz.func164, Tryz.ntmps164
  have hd := Lib.hid (divided_1_32 x y hx hy hx' hy')
  go_wp2_with (go_at_call 186; refine (hd.out _).mono ?_; rintro e w' ⟨rfl, n, rfl⟩)
  go_ret
  exact ⟨ret_int rfl, n, rfl⟩
set_option maxHeartbeats 1000000 in
theorem made_mod1_32 (x y : Int) (w : World) (hx : 0 ≤ x) (hx' : x ≤ 4294967295) (hy : 0 ≤ y) (hy' : y ≤ 4294967295) :
    Calls Tryz.prog 164 #[.int .u8 144, .int .i64 32, .int .i64 1, .int .u64 x, .int .u64 y] w fun e w' => e = .returned (.int .u64 (aluZ false 144 1 x y % 18446744073709551616)) ∧ ∃ n, w' = w.drewN n := by
  go_enter Tryz.func164, Tryz.ntmps164
  have hd := Lib.hid (divided_1_32 x y hx hy hx' hy')
  go_wp2_with (go_at_call 186; refine (hd.out _).mono ?_; rintro e w' ⟨rfl, n, rfl⟩)
  go_ret
  exact ⟨ret_int rfl, n, rfl⟩
set_option maxHeartbeats 1000000 in
theorem fits_divs (op off : Int) (wide : Bool) (w : World) (h : op = 48 ∨ op = 144) :
    Calls Tryz.prog 163 #[.int .u8 op, .bool wide, .int .i16 off] w fun e w' => e = .returned (.bool (aluFits op wide off)) ∧ w = w' := by
  have e1 : aluFits op wide off = (off == 0 || off == 1) := by unfold aluFits; rw [if_pos h]
  rw [e1]
  by_cases h0 : off = 0
  · subst h0
    clear e1
    rcases h with rfl | rfl
    all_goals
      go_enter Tryz.func163, Tryz.ntmps163
      go_wp2
      go_ret
      exact ⟨rfl, rfl⟩
  · by_cases h1 : off = 1
    · subst h1
      clear e1
      rcases h with rfl | rfl
      all_goals
        go_enter Tryz.func163, Tryz.ntmps163
        go_wp2
        go_ret
        exact ⟨rfl, rfl⟩
    · have e2 : (off == 0) = false := by simpa using h0
      have e3 : (off == 1) = false := by simpa using h1
      have e4 : (off == 0 || off == 1) = false := by rw [e2, e3]; rfl
      rw [e4]
      clear e1 e4
      rcases h with rfl | rfl
      all_goals
        go_enter Tryz.func163, Tryz.ntmps163
        go_wp2
        go_ret
        exact ⟨rfl, rfl⟩
set_option maxHeartbeats 1000000 in
theorem fits_mov (off : Int) (wide : Bool) (w : World) :
    Calls Tryz.prog 163 #[.int .u8 176, .bool wide, .int .i16 off] w fun e w' => e = .returned (.bool (aluFits 176 wide off)) ∧ w = w' := by
  have e1 : aluFits 176 wide off = (off == 0 || off == 8 || off == 16 || (off == 32 && wide)) := rfl
  rw [e1]
  clear e1
  by_cases h0 : off = 0
  · subst h0
    go_enter Tryz.func163, Tryz.ntmps163
    go_wp2
    go_ret
    exact ⟨rfl, rfl⟩
  · by_cases h1 : off = 8
    · subst h1
      go_enter Tryz.func163, Tryz.ntmps163
      go_wp2
      go_ret
      exact ⟨rfl, rfl⟩
    · by_cases h2 : off = 16
      · subst h2
        go_enter Tryz.func163, Tryz.ntmps163
        go_wp2
        go_ret
        exact ⟨rfl, rfl⟩
      · by_cases h3 : off = 32
        · subst h3
          cases wide
          all_goals
            go_enter Tryz.func163, Tryz.ntmps163
            go_wp2
            go_ret
            exact ⟨rfl, rfl⟩
        · have e2 : (off == 0) = false := by simpa using h0
          have e3 : (off == 8) = false := by simpa using h1
          have e4 : (off == 16) = false := by simpa using h2
          have e5 : (off == 32) = false := by simpa using h3
          have e6 : (off == 0 || off == 8 || off == 16 || (off == 32 && wide)) = false := by rw [e2, e3, e4, e5]; rfl
          rw [e6]
          clear e6
          go_enter Tryz.func163, Tryz.ntmps163
          go_wp2
          go_ret
          exact ⟨rfl, rfl⟩
set_option maxHeartbeats 2000000 in
theorem fits_plain (op off : Int) (wide : Bool) (w : World) (h : op = 0 ∨ op = 16 ∨ op = 32 ∨ op = 64 ∨ op = 80 ∨ op = 160 ∨ op = 96 ∨ op = 112 ∨ op = 192 ∨ op = 128) :
    Calls Tryz.prog 163 #[.int .u8 op, .bool wide, .int .i16 off] w fun e w' => e = .returned (.bool (aluFits op wide off)) ∧ w = w' := by
  have e1 : aluFits op wide off = (off == 0) := by
    unfold aluFits; rw [if_neg (by omega), if_neg (by omega), if_pos h]
  rw [e1]
  clear e1
  rcases h with rfl | rfl | rfl | rfl | rfl | rfl | rfl | rfl | rfl | rfl
  all_goals
    go_enter Tryz.func163, Tryz.ntmps163
    go_wp2
    go_ret
    exact ⟨rfl, rfl⟩
set_option maxHeartbeats 1000000 in
theorem fits_none (op off : Int) (wide : Bool) (w : World) (h : NoOp op) :
    Calls Tryz.prog 163 #[.int .u8 op, .bool wide, .int .i16 off] w fun e w' => e = .returned (.bool (aluFits op wide off)) ∧ w = w' := by
  rw [noOp_fits h]
  obtain ⟨⟨a1, a2, a3, a4, a5, a6, a7⟩, a8, a9, a10, a11, a12, a13⟩ := h
  replace a1 := beq_eq_false_iff_ne.mpr a1
  replace a2 := beq_eq_false_iff_ne.mpr a2
  replace a3 := beq_eq_false_iff_ne.mpr a3
  replace a4 := beq_eq_false_iff_ne.mpr a4
  replace a5 := beq_eq_false_iff_ne.mpr a5
  replace a6 := beq_eq_false_iff_ne.mpr a6
  replace a7 := beq_eq_false_iff_ne.mpr a7
  replace a8 := beq_eq_false_iff_ne.mpr a8
  replace a9 := beq_eq_false_iff_ne.mpr a9
  replace a10 := beq_eq_false_iff_ne.mpr a10
  replace a11 := beq_eq_false_iff_ne.mpr a11
  replace a12 := beq_eq_false_iff_ne.mpr a12
  replace a13 := beq_eq_false_iff_ne.mpr a13
  go_enter Tryz.func163, Tryz.ntmps163
  go_wp2
  go_ret
  exact ⟨rfl, rfl⟩
theorem fits_any (op off : Int) (wide : Bool) (w : World) :
    Calls Tryz.prog 163 #[.int .u8 op, .bool wide, .int .i16 off] w fun e w' => e = .returned (.bool (aluFits op wide off)) ∧ w = w' := by
  rcases op_cases op with h | h | h | h
  · exact fits_divs op off wide w h
  · subst h; exact fits_mov off wide w
  · exact fits_plain op off wide w h
  · exact fits_none op off wide w h
def Made (v : Int) (w : World) (e : Ending) (w' : World) : Prop := e = .returned (.int .u64 v) ∧ ∃ n, w' = w.drewN n
theorem made_of {P : Program} {f : FuncId} {args : Array Value} {w : World} {v : Int} (h : Calls P f args w fun e w' => e = .returned (.int .u64 v) ∧ w = w') : Calls P f args w (Made v w) :=
  h.mono fun _ _ ⟨he, hw⟩ => ⟨he, 0, hw.symm⟩
theorem made_64 (op off x y : Int) (w : World) (hf : aluFits op true off = true) (hx : 0 ≤ x) (hx' : x ≤ 18446744073709551615) (hy : 0 ≤ y) (hy' : y ≤ 18446744073709551615) :
    Calls Tryz.prog 164 #[.int .u8 op, .int .i64 64, .int .i64 off, .int .u64 x, .int .u64 y] w (Made (aluZ true op off x y % 18446744073709551616) w) := by
  rcases fits_ops hf with ⟨rfl, rfl⟩ | ⟨rfl, rfl⟩ | ⟨rfl, rfl⟩ | ⟨rfl, rfl⟩ | ⟨rfl, rfl⟩ | ⟨rfl, rfl⟩ | ⟨rfl, rfl⟩ | ⟨rfl, rfl⟩ | ⟨rfl, rfl⟩ | ⟨rfl, rfl⟩ | ⟨rfl, _⟩ | ⟨rfl, rfl | rfl⟩ | ⟨rfl, rfl | rfl⟩
  · exact made_of (made_add_64 x y w hx hx' hy hy')
  · exact made_of (made_sub_64 x y w hx hx' hy hy')
  · exact made_of (made_mul_64 x y w hx hx' hy hy')
  · exact made_of (made_or_64 x y w hx hx' hy hy')
  · exact made_of (made_and_64 x y w hx hx' hy hy')
  · exact made_of (made_xor_64 x y w hx hx' hy hy')
  · exact made_of (made_lsh_64 x y w hx hx' hy hy')
  · exact made_of (made_rsh_64 x y w hx hx' hy hy')
  · exact made_of (made_arsh_64 x y w hx hx' hy hy')
  · exact made_of (made_neg_64 x y w hx hx' hy hy')
  · exact made_of (made_mov_64 x y off w hx hx' hy hy')
  · exact made_div0_64 x y w hx hx' hy hy'
  · exact made_div1_64 x y w hx hx' hy hy'
  · exact made_mod0_64 x y w hx hx' hy hy'
  · exact made_mod1_64 x y w hx hx' hy hy'
theorem made_32 (op off x y : Int) (w : World) (hf : aluFits op false off = true) (hx : 0 ≤ x) (hx' : x ≤ 4294967295) (hy : 0 ≤ y) (hy' : y ≤ 4294967295) :
    Calls Tryz.prog 164 #[.int .u8 op, .int .i64 32, .int .i64 off, .int .u64 x, .int .u64 y] w (Made (aluZ false op off x y % 18446744073709551616) w) := by
  rcases fits_ops hf with ⟨rfl, rfl⟩ | ⟨rfl, rfl⟩ | ⟨rfl, rfl⟩ | ⟨rfl, rfl⟩ | ⟨rfl, rfl⟩ | ⟨rfl, rfl⟩ | ⟨rfl, rfl⟩ | ⟨rfl, rfl⟩ | ⟨rfl, rfl⟩ | ⟨rfl, rfl⟩ | ⟨rfl, _⟩ | ⟨rfl, rfl | rfl⟩ | ⟨rfl, rfl | rfl⟩
  · exact made_of (made_add_32 x y w hx hx' hy hy')
  · exact made_of (made_sub_32 x y w hx hx' hy hy')
  · exact made_of (made_mul_32 x y w hx hx' hy hy')
  · exact made_of (made_or_32 x y w hx hx' hy hy')
  · exact made_of (made_and_32 x y w hx hx' hy hy')
  · exact made_of (made_xor_32 x y w hx hx' hy hy')
  · exact made_of (made_lsh_32 x y w hx hx' hy hy')
  · exact made_of (made_rsh_32 x y w hx hx' hy hy')
  · exact made_of (made_arsh_32 x y w hx hx' hy hy')
  · exact made_of (made_neg_32 x y w hx hx' hy hy')
  · exact made_of (made_mov_32 x y off w hx hx' hy hy')
  · exact made_div0_32 x y w hx hx' hy hy'
  · exact made_div1_32 x y w hx hx' hy hy'
  · exact made_mod0_32 x y w hx hx' hy hy'
  · exact made_mod1_32 x y w hx hx' hy hy'
theorem did_none (op off a b : Int) (wide : Bool) (w : World) (hf : aluFits op wide off = false) :
    Calls Tryz.prog 111 #[.int .u8 op, .bool wide, .int .i16 off, .int .u64 a, .int .u64 b] w (Did (aluV wide op off a b) (aluE wide op off) w) := by
  have hc : ∀ w, Calls Tryz.prog 163 #[.int .u8 op, .bool wide, .int .i16 off] w fun e w' => e = .returned (.bool false) ∧ w = w' := fun w => by have h := fits_any op off wide w; rw [hf] at h; exact h
  have e1 : aluV wide op off a b = 0 := by unfold aluV; rw [hf]; rfl
  have e2 : aluE wide op off = 1 := by unfold aluE; rw [hf]; rfl
  rw [e1, e2]
  have HC := Lib.hid hc
  clear hc e1 e2 hf
  go_enter Tryz.func111, Tryz.ntmps111
  go_wp2_with (go_at_call 163; refine (HC.out _).mono ?_; rintro e w' ⟨rfl, rfl⟩)
  go_ret2
  exact ⟨rfl, 0, rfl⟩
set_option maxHeartbeats 1000000 in
theorem did_64 (op off a b : Int) (w : World) (ha : 0 ≤ a) (hb : 0 ≤ b) (hf : aluFits op true off = true) :
    Calls Tryz.prog 111 #[.int .u8 op, .bool true, .int .i16 off, .int .u64 a, .int .u64 b] w (Did (aluV true op off a b) (aluE true op off) w) := by
  have hc : ∀ w, Calls Tryz.prog 163 #[.int .u8 op, .bool true, .int .i16 off] w fun e w' => e = .returned (.bool true) ∧ w = w' := fun w => by have h := fits_any op off true w; rw [hf] at h; exact h
  have hm : ∀ w, Calls Tryz.prog 164 #[.int .u8 op, .int .i64 64, .int .i64 off, .int .u64 (a % 18446744073709551616), .int .u64 (b % 18446744073709551616)] w
      (Made (aluZ true op off (a % 18446744073709551616) (b % 18446744073709551616) % 18446744073709551616) w) := fun w => made_64 _ _ _ _ w hf (by omega) (by omega) (by omega) (by omega)
  have e1 : aluV true op off a b = aluZ true op off (a % 18446744073709551616) (b % 18446744073709551616) % 18446744073709551616 := by
    unfold aluV; rw [hf, if_pos rfl]; rfl
  have e2 : aluE true op off = 0 := by unfold aluE; rw [hf]; rfl
  rw [e1, e2]
  obtain ⟨ho, ho'⟩ := fits_off hf
  clear e1 e2 hf
  generalize aluZ _ op off _ _ = z at *
  have HC := Lib.hid hc
  have HM := Lib.hid hm
  clear hc hm
  go_enter Tryz.func111, Tryz.ntmps111
  go_wp2_with (first | (go_at_call 163; refine (HC.out _).mono ?_; rintro e w' ⟨rfl, rfl⟩) | (go_at_call 165; refine (cut_64 _ _ (by omega)).mono ?_; rintro e w' ⟨rfl, rfl⟩) | (go_at_call 164; refine (HM.out _).mono ?_; rintro e w' ⟨rfl, n, rfl⟩))
  go_ret2
  exact ⟨rfl, _, rfl⟩
set_option maxHeartbeats 1000000 in
theorem did_32 (op off a b : Int) (w : World) (ha : 0 ≤ a) (hb : 0 ≤ b) (hf : aluFits op false off = true) :
    Calls Tryz.prog 111 #[.int .u8 op, .bool false, .int .i16 off, .int .u64 a, .int .u64 b] w (Did (aluV false op off a b) (aluE false op off) w) := by
  have hc : ∀ w, Calls Tryz.prog 163 #[.int .u8 op, .bool false, .int .i16 off] w fun e w' => e = .returned (.bool true) ∧ w = w' := fun w => by have h := fits_any op off false w; rw [hf] at h; exact h
  have hm : ∀ w, Calls Tryz.prog 164 #[.int .u8 op, .int .i64 32, .int .i64 off, .int .u64 (a % 4294967296), .int .u64 (b % 4294967296)] w
      (Made (aluZ false op off (a % 4294967296) (b % 4294967296) % 18446744073709551616) w) := fun w => made_32 _ _ _ _ w hf (by omega) (by omega) (by omega) (by omega)
  have e1 : aluV false op off a b = aluZ false op off (a % 4294967296) (b % 4294967296) % 4294967296 := by
    unfold aluV; rw [hf, if_pos rfl]; rfl
  have e2 : aluE false op off = 0 := by unfold aluE; rw [hf]; rfl
  rw [e1, e2]
  obtain ⟨ho, ho'⟩ := fits_off hf
  clear e1 e2 hf
  generalize aluZ _ op off _ _ = z at *
  have HC := Lib.hid hc
  have HM := Lib.hid hm
  clear hc hm
  go_enter Tryz.func111, Tryz.ntmps111
  go_wp2_with (first | (go_at_call 163; refine (HC.out _).mono ?_; rintro e w' ⟨rfl, rfl⟩) | (go_at_call 165; refine (cut_32 _ _ (by omega)).mono ?_; rintro e w' ⟨rfl, rfl⟩) | (go_at_call 164; refine (HM.out _).mono ?_; rintro e w' ⟨rfl, n, rfl⟩))
  go_ret2
  exact ⟨rfl, _, rfl⟩
theorem did_any (op off a b : Int) (wide : Bool) (w : World) (ha : 0 ≤ a) (hb : 0 ≤ b) :
    Calls Tryz.prog 111 #[.int .u8 op, .bool wide, .int .i16 off, .int .u64 a, .int .u64 b] w (Did (aluV wide op off a b) (aluE wide op off) w) := by
  cases hf : aluFits op wide off
  · exact did_none op off a b wide w hf
  · cases wide
    · exact did_32 op off a b w ha hb hf
    · exact did_64 op off a b w ha hb hf
end Go.Proofs.YtlbhffdpklbhfaaGreat
