/-
  The document's own Do, op by op, at 32 bits.
  Conditions: the numbers fit their kinds.
-/
import Derived.Test.YthafidhcmahomaaRef02Parts
import Derived.Test.YthafidhcmahomaaRef02Math
namespace Go.Proofs.Ythafidhcmahomaa
open Go.RowKit
set_option linter.unusedVariables false

abbrev refCut32 (n v : Int) : Prop := ∀ w : World, Calls Try.prog 20 #[.int .u64 n, .int .i64 32] w fun e w' => e = .returned (.int .u64 v) ∧ w = w'

set_option maxRecDepth 100000 in
set_option maxHeartbeats 2000000 in
theorem refd_add_32 (a b x y : Int) (w : World) (ca : refCut32 a x) (cb : refCut32 b y) (hx : 0 ≤ x) (hx' : x ≤ 4294967295) (hy : 0 ≤ y) (hy' : y ≤ 4294967295) :
    Calls Try.prog 11 #[.int .u8 0, .bool false, .int .i16 0, .int .u64 a, .int .u64 b] w (Did (aluZ false 0 0 x y % 4294967296) 0 w) := by
  have hz : aluZ false 0 0 x y = x + y := rfl
  rw [hz]
  clear hz
  have CA := Lib.hid ca
  have CB := Lib.hid cb
  clear ca cb
  go_enter Try.func11, Try.ntmps11
  go_wp2_with fail
  refine (CA.out _).mono ?_; rintro e w' ⟨rfl, rfl⟩
  go_wp2_with fail
  refine (CB.out _).mono ?_; rintro e w' ⟨rfl, rfl⟩
  go_wp2_with fail
  refine (ref_cut_32 _ _ (by first | omega | exact (u64_rng _).1)).mono ?_; rintro e w' ⟨rfl, rfl⟩
  go_wp2_with fail
  go_ret2
  exact ⟨ret_two (by first | rfl | (rw [IntKind.wrap_u64, Int.emod_emod_of_dvd _ (by decide)]) | (rw [IntKind.wrap_u64]; omega)) rfl, 0, rfl⟩

set_option maxRecDepth 100000 in
set_option maxHeartbeats 2000000 in
theorem refd_no_add_32 (a b x y : Int) (off : Int) (w : World) (ca : refCut32 a x) (cb : refCut32 b y) (hx : 0 ≤ x) (hx' : x ≤ 4294967295) (hy : 0 ≤ y) (hy' : y ≤ 4294967295) (ho : (off != 0) = true) :
    Calls Try.prog 11 #[.int .u8 0, .bool false, .int .i16 off, .int .u64 a, .int .u64 b] w (Did 0 1 w) := by
  have CA := Lib.hid ca
  have CB := Lib.hid cb
  clear ca cb
  go_enter Try.func11, Try.ntmps11
  go_wp2_with fail
  refine (CA.out _).mono ?_; rintro e w' ⟨rfl, rfl⟩
  go_wp2_with fail
  refine (CB.out _).mono ?_; rintro e w' ⟨rfl, rfl⟩
  go_wp2_with fail
  go_ret2
  exact ⟨rfl, 0, rfl⟩

set_option maxRecDepth 100000 in
set_option maxHeartbeats 2000000 in
theorem refd_sub_32 (a b x y : Int) (w : World) (ca : refCut32 a x) (cb : refCut32 b y) (hx : 0 ≤ x) (hx' : x ≤ 4294967295) (hy : 0 ≤ y) (hy' : y ≤ 4294967295) :
    Calls Try.prog 11 #[.int .u8 16, .bool false, .int .i16 0, .int .u64 a, .int .u64 b] w (Did (aluZ false 16 0 x y % 4294967296) 0 w) := by
  have hz : aluZ false 16 0 x y = x - y := rfl
  rw [hz]
  clear hz
  have CA := Lib.hid ca
  have CB := Lib.hid cb
  clear ca cb
  go_enter Try.func11, Try.ntmps11
  go_wp2_with fail
  refine (CA.out _).mono ?_; rintro e w' ⟨rfl, rfl⟩
  go_wp2_with fail
  refine (CB.out _).mono ?_; rintro e w' ⟨rfl, rfl⟩
  go_wp2_with fail
  refine (ref_cut_32 _ _ (by first | omega | exact (u64_rng _).1)).mono ?_; rintro e w' ⟨rfl, rfl⟩
  go_wp2_with fail
  go_ret2
  exact ⟨ret_two (by first | rfl | (rw [IntKind.wrap_u64, Int.emod_emod_of_dvd _ (by decide)]) | (rw [IntKind.wrap_u64]; omega)) rfl, 0, rfl⟩

set_option maxRecDepth 100000 in
set_option maxHeartbeats 2000000 in
theorem refd_no_sub_32 (a b x y : Int) (off : Int) (w : World) (ca : refCut32 a x) (cb : refCut32 b y) (hx : 0 ≤ x) (hx' : x ≤ 4294967295) (hy : 0 ≤ y) (hy' : y ≤ 4294967295) (ho : (off != 0) = true) :
    Calls Try.prog 11 #[.int .u8 16, .bool false, .int .i16 off, .int .u64 a, .int .u64 b] w (Did 0 1 w) := by
  have CA := Lib.hid ca
  have CB := Lib.hid cb
  clear ca cb
  go_enter Try.func11, Try.ntmps11
  go_wp2_with fail
  refine (CA.out _).mono ?_; rintro e w' ⟨rfl, rfl⟩
  go_wp2_with fail
  refine (CB.out _).mono ?_; rintro e w' ⟨rfl, rfl⟩
  go_wp2_with fail
  go_ret2
  exact ⟨rfl, 0, rfl⟩

set_option maxRecDepth 100000 in
set_option maxHeartbeats 2000000 in
theorem refd_mul_32 (a b x y : Int) (w : World) (ca : refCut32 a x) (cb : refCut32 b y) (hx : 0 ≤ x) (hx' : x ≤ 4294967295) (hy : 0 ≤ y) (hy' : y ≤ 4294967295) :
    Calls Try.prog 11 #[.int .u8 32, .bool false, .int .i16 0, .int .u64 a, .int .u64 b] w (Did (aluZ false 32 0 x y % 4294967296) 0 w) := by
  have hz : aluZ false 32 0 x y = x * y := rfl
  rw [hz]
  clear hz
  have CA := Lib.hid ca
  have CB := Lib.hid cb
  clear ca cb
  go_enter Try.func11, Try.ntmps11
  go_wp2_with fail
  refine (CA.out _).mono ?_; rintro e w' ⟨rfl, rfl⟩
  go_wp2_with fail
  refine (CB.out _).mono ?_; rintro e w' ⟨rfl, rfl⟩
  go_wp2_with fail
  refine (ref_cut_32 _ _ (by first | omega | exact (u64_rng _).1)).mono ?_; rintro e w' ⟨rfl, rfl⟩
  go_wp2_with fail
  go_ret2
  exact ⟨ret_two (by first | rfl | (rw [IntKind.wrap_u64, Int.emod_emod_of_dvd _ (by decide)]) | (rw [IntKind.wrap_u64]; omega)) rfl, 0, rfl⟩

set_option maxRecDepth 100000 in
set_option maxHeartbeats 2000000 in
theorem refd_no_mul_32 (a b x y : Int) (off : Int) (w : World) (ca : refCut32 a x) (cb : refCut32 b y) (hx : 0 ≤ x) (hx' : x ≤ 4294967295) (hy : 0 ≤ y) (hy' : y ≤ 4294967295) (ho : (off != 0) = true) :
    Calls Try.prog 11 #[.int .u8 32, .bool false, .int .i16 off, .int .u64 a, .int .u64 b] w (Did 0 1 w) := by
  have CA := Lib.hid ca
  have CB := Lib.hid cb
  clear ca cb
  go_enter Try.func11, Try.ntmps11
  go_wp2_with fail
  refine (CA.out _).mono ?_; rintro e w' ⟨rfl, rfl⟩
  go_wp2_with fail
  refine (CB.out _).mono ?_; rintro e w' ⟨rfl, rfl⟩
  go_wp2_with fail
  go_ret2
  exact ⟨rfl, 0, rfl⟩

set_option maxRecDepth 100000 in
set_option maxHeartbeats 2000000 in
theorem refd_or_32 (a b x y : Int) (w : World) (ca : refCut32 a x) (cb : refCut32 b y) (hx : 0 ≤ x) (hx' : x ≤ 4294967295) (hy : 0 ≤ y) (hy' : y ≤ 4294967295) :
    Calls Try.prog 11 #[.int .u8 64, .bool false, .int .i16 0, .int .u64 a, .int .u64 b] w (Did (aluZ false 64 0 x y % 4294967296) 0 w) := by
  have hz : aluZ false 64 0 x y = ((x.toNat ||| y.toNat : Nat) : Int) := rfl
  rw [hz]
  have e0 := Lib.hid (u64_or x y hx (by omega) hy (by omega))
  have e1 := Nat.or_lt_two_pow (n := 64) (x := x.toNat) (y := y.toNat) (by omega) (by omega)
  have e9 : bits .or .u64 x y = ((x.toNat ||| y.toNat : Nat) : Int) := e0.out
  generalize hg : (x.toNat ||| y.toNat) = g at *
  have E9 := Lib.hid e9
  clear e0 e9 hg hz
  have b0 : 0 ≤ bits .or .u64 x y := by rw [E9.out]; omega
  have b1 : bits .or .u64 x y ≤ 18446744073709551615 := by rw [E9.out]; omega
  have CA := Lib.hid ca
  have CB := Lib.hid cb
  clear ca cb
  go_enter Try.func11, Try.ntmps11
  go_wp2_with fail
  refine (CA.out _).mono ?_; rintro e w' ⟨rfl, rfl⟩
  go_wp2_with fail
  refine (CB.out _).mono ?_; rintro e w' ⟨rfl, rfl⟩
  go_wp2_with fail
  refine (ref_cut_32 _ _ (by first | omega | exact (u64_rng _).1)).mono ?_; rintro e w' ⟨rfl, rfl⟩
  go_wp2_with fail
  go_ret2
  exact ⟨ret_two (by rw [E9.out]) rfl, 0, rfl⟩

set_option maxRecDepth 100000 in
set_option maxHeartbeats 2000000 in
theorem refd_no_or_32 (a b x y : Int) (off : Int) (w : World) (ca : refCut32 a x) (cb : refCut32 b y) (hx : 0 ≤ x) (hx' : x ≤ 4294967295) (hy : 0 ≤ y) (hy' : y ≤ 4294967295) (ho : (off != 0) = true) :
    Calls Try.prog 11 #[.int .u8 64, .bool false, .int .i16 off, .int .u64 a, .int .u64 b] w (Did 0 1 w) := by
  have CA := Lib.hid ca
  have CB := Lib.hid cb
  clear ca cb
  go_enter Try.func11, Try.ntmps11
  go_wp2_with fail
  refine (CA.out _).mono ?_; rintro e w' ⟨rfl, rfl⟩
  go_wp2_with fail
  refine (CB.out _).mono ?_; rintro e w' ⟨rfl, rfl⟩
  go_wp2_with fail
  go_ret2
  exact ⟨rfl, 0, rfl⟩

set_option maxRecDepth 100000 in
set_option maxHeartbeats 2000000 in
theorem refd_and_32 (a b x y : Int) (w : World) (ca : refCut32 a x) (cb : refCut32 b y) (hx : 0 ≤ x) (hx' : x ≤ 4294967295) (hy : 0 ≤ y) (hy' : y ≤ 4294967295) :
    Calls Try.prog 11 #[.int .u8 80, .bool false, .int .i16 0, .int .u64 a, .int .u64 b] w (Did (aluZ false 80 0 x y % 4294967296) 0 w) := by
  have hz : aluZ false 80 0 x y = ((x.toNat &&& y.toNat : Nat) : Int) := rfl
  rw [hz]
  have e0 := Lib.hid (u64_and x y hx (by omega) hy (by omega))
  have e1 := Nat.and_lt_two_pow (n := 64) x.toNat (y := y.toNat) (by omega)
  have e9 : bits .and .u64 x y = ((x.toNat &&& y.toNat : Nat) : Int) := e0.out
  generalize hg : (x.toNat &&& y.toNat) = g at *
  have E9 := Lib.hid e9
  clear e0 e9 hg hz
  have b0 : 0 ≤ bits .and .u64 x y := by rw [E9.out]; omega
  have b1 : bits .and .u64 x y ≤ 18446744073709551615 := by rw [E9.out]; omega
  have CA := Lib.hid ca
  have CB := Lib.hid cb
  clear ca cb
  go_enter Try.func11, Try.ntmps11
  go_wp2_with fail
  refine (CA.out _).mono ?_; rintro e w' ⟨rfl, rfl⟩
  go_wp2_with fail
  refine (CB.out _).mono ?_; rintro e w' ⟨rfl, rfl⟩
  go_wp2_with fail
  refine (ref_cut_32 _ _ (by first | omega | exact (u64_rng _).1)).mono ?_; rintro e w' ⟨rfl, rfl⟩
  go_wp2_with fail
  go_ret2
  exact ⟨ret_two (by rw [E9.out]) rfl, 0, rfl⟩

set_option maxRecDepth 100000 in
set_option maxHeartbeats 2000000 in
theorem refd_no_and_32 (a b x y : Int) (off : Int) (w : World) (ca : refCut32 a x) (cb : refCut32 b y) (hx : 0 ≤ x) (hx' : x ≤ 4294967295) (hy : 0 ≤ y) (hy' : y ≤ 4294967295) (ho : (off != 0) = true) :
    Calls Try.prog 11 #[.int .u8 80, .bool false, .int .i16 off, .int .u64 a, .int .u64 b] w (Did 0 1 w) := by
  have CA := Lib.hid ca
  have CB := Lib.hid cb
  clear ca cb
  go_enter Try.func11, Try.ntmps11
  go_wp2_with fail
  refine (CA.out _).mono ?_; rintro e w' ⟨rfl, rfl⟩
  go_wp2_with fail
  refine (CB.out _).mono ?_; rintro e w' ⟨rfl, rfl⟩
  go_wp2_with fail
  go_ret2
  exact ⟨rfl, 0, rfl⟩

set_option maxRecDepth 100000 in
set_option maxHeartbeats 2000000 in
theorem refd_xor_32 (a b x y : Int) (w : World) (ca : refCut32 a x) (cb : refCut32 b y) (hx : 0 ≤ x) (hx' : x ≤ 4294967295) (hy : 0 ≤ y) (hy' : y ≤ 4294967295) :
    Calls Try.prog 11 #[.int .u8 160, .bool false, .int .i16 0, .int .u64 a, .int .u64 b] w (Did (aluZ false 160 0 x y % 4294967296) 0 w) := by
  have hz : aluZ false 160 0 x y = ((x.toNat ^^^ y.toNat : Nat) : Int) := rfl
  rw [hz]
  have e0 := Lib.hid (u64_xor x y hx (by omega) hy (by omega))
  have e1 := Nat.xor_lt_two_pow (n := 64) (x := x.toNat) (y := y.toNat) (by omega) (by omega)
  have e9 : bits .xor .u64 x y = ((x.toNat ^^^ y.toNat : Nat) : Int) := e0.out
  generalize hg : (x.toNat ^^^ y.toNat) = g at *
  have E9 := Lib.hid e9
  clear e0 e9 hg hz
  have b0 : 0 ≤ bits .xor .u64 x y := by rw [E9.out]; omega
  have b1 : bits .xor .u64 x y ≤ 18446744073709551615 := by rw [E9.out]; omega
  have CA := Lib.hid ca
  have CB := Lib.hid cb
  clear ca cb
  go_enter Try.func11, Try.ntmps11
  go_wp2_with fail
  refine (CA.out _).mono ?_; rintro e w' ⟨rfl, rfl⟩
  go_wp2_with fail
  refine (CB.out _).mono ?_; rintro e w' ⟨rfl, rfl⟩
  go_wp2_with fail
  refine (ref_cut_32 _ _ (by first | omega | exact (u64_rng _).1)).mono ?_; rintro e w' ⟨rfl, rfl⟩
  go_wp2_with fail
  go_ret2
  exact ⟨ret_two (by rw [E9.out]) rfl, 0, rfl⟩

set_option maxRecDepth 100000 in
set_option maxHeartbeats 2000000 in
theorem refd_no_xor_32 (a b x y : Int) (off : Int) (w : World) (ca : refCut32 a x) (cb : refCut32 b y) (hx : 0 ≤ x) (hx' : x ≤ 4294967295) (hy : 0 ≤ y) (hy' : y ≤ 4294967295) (ho : (off != 0) = true) :
    Calls Try.prog 11 #[.int .u8 160, .bool false, .int .i16 off, .int .u64 a, .int .u64 b] w (Did 0 1 w) := by
  have CA := Lib.hid ca
  have CB := Lib.hid cb
  clear ca cb
  go_enter Try.func11, Try.ntmps11
  go_wp2_with fail
  refine (CA.out _).mono ?_; rintro e w' ⟨rfl, rfl⟩
  go_wp2_with fail
  refine (CB.out _).mono ?_; rintro e w' ⟨rfl, rfl⟩
  go_wp2_with fail
  go_ret2
  exact ⟨rfl, 0, rfl⟩

set_option maxRecDepth 100000 in
set_option maxHeartbeats 2000000 in
theorem refd_lsh_32 (a b x y : Int) (w : World) (ca : refCut32 a x) (cb : refCut32 b y) (hx : 0 ≤ x) (hx' : x ≤ 4294967295) (hy : 0 ≤ y) (hy' : y ≤ 4294967295) :
    Calls Try.prog 11 #[.int .u8 96, .bool false, .int .i16 0, .int .u64 a, .int .u64 b] w (Did (aluZ false 96 0 x y % 4294967296) 0 w) := by
  have hz : aluZ false 96 0 x y = x * 2 ^ (y % 32).toNat := rfl
  rw [hz]
  clear hz
  have CA := Lib.hid ca
  have CB := Lib.hid cb
  clear ca cb
  go_enter Try.func11, Try.ntmps11
  go_wp2_with fail
  refine (CA.out _).mono ?_; rintro e w' ⟨rfl, rfl⟩
  go_wp2_with fail
  refine (CB.out _).mono ?_; rintro e w' ⟨rfl, rfl⟩
  go_wp2_with fail
  refine (ref_cut_32 _ _ (by first | omega | exact (u64_rng _).1)).mono ?_; rintro e w' ⟨rfl, rfl⟩
  go_wp2_with fail
  go_ret2
  exact ⟨ret_two (by first | rfl | (rw [IntKind.wrap_u64, Int.emod_emod_of_dvd _ (by decide)]) | (rw [IntKind.wrap_u64]; omega)) rfl, 0, rfl⟩

set_option maxRecDepth 100000 in
set_option maxHeartbeats 2000000 in
theorem refd_no_lsh_32 (a b x y : Int) (off : Int) (w : World) (ca : refCut32 a x) (cb : refCut32 b y) (hx : 0 ≤ x) (hx' : x ≤ 4294967295) (hy : 0 ≤ y) (hy' : y ≤ 4294967295) (ho : (off != 0) = true) :
    Calls Try.prog 11 #[.int .u8 96, .bool false, .int .i16 off, .int .u64 a, .int .u64 b] w (Did 0 1 w) := by
  have CA := Lib.hid ca
  have CB := Lib.hid cb
  clear ca cb
  go_enter Try.func11, Try.ntmps11
  go_wp2_with fail
  refine (CA.out _).mono ?_; rintro e w' ⟨rfl, rfl⟩
  go_wp2_with fail
  refine (CB.out _).mono ?_; rintro e w' ⟨rfl, rfl⟩
  go_wp2_with fail
  go_ret2
  exact ⟨rfl, 0, rfl⟩

set_option maxRecDepth 100000 in
set_option maxHeartbeats 2000000 in
theorem refd_rsh_32 (a b x y : Int) (w : World) (ca : refCut32 a x) (cb : refCut32 b y) (hx : 0 ≤ x) (hx' : x ≤ 4294967295) (hy : 0 ≤ y) (hy' : y ≤ 4294967295) :
    Calls Try.prog 11 #[.int .u8 112, .bool false, .int .i16 0, .int .u64 a, .int .u64 b] w (Did (aluZ false 112 0 x y % 4294967296) 0 w) := by
  have hz : aluZ false 112 0 x y = x / 2 ^ (y % 32).toNat := rfl
  rw [hz]
  clear hz
  have q0 := shr_range x (y % 32).toNat hx
  obtain ⟨q1, q2⟩ := q0
  have CA := Lib.hid ca
  have CB := Lib.hid cb
  clear ca cb
  go_enter Try.func11, Try.ntmps11
  go_wp2_with fail
  refine (CA.out _).mono ?_; rintro e w' ⟨rfl, rfl⟩
  go_wp2_with fail
  refine (CB.out _).mono ?_; rintro e w' ⟨rfl, rfl⟩
  go_wp2_with fail
  refine (ref_cut_32 _ _ (by first | omega | exact (u64_rng _).1)).mono ?_; rintro e w' ⟨rfl, rfl⟩
  go_wp2_with fail
  go_ret2
  exact ⟨ret_two (by first | rfl | (rw [IntKind.wrap_u64, Int.emod_emod_of_dvd _ (by decide)]) | (rw [IntKind.wrap_u64]; omega)) rfl, 0, rfl⟩

set_option maxRecDepth 100000 in
set_option maxHeartbeats 2000000 in
theorem refd_no_rsh_32 (a b x y : Int) (off : Int) (w : World) (ca : refCut32 a x) (cb : refCut32 b y) (hx : 0 ≤ x) (hx' : x ≤ 4294967295) (hy : 0 ≤ y) (hy' : y ≤ 4294967295) (ho : (off != 0) = true) :
    Calls Try.prog 11 #[.int .u8 112, .bool false, .int .i16 off, .int .u64 a, .int .u64 b] w (Did 0 1 w) := by
  have CA := Lib.hid ca
  have CB := Lib.hid cb
  clear ca cb
  go_enter Try.func11, Try.ntmps11
  go_wp2_with fail
  refine (CA.out _).mono ?_; rintro e w' ⟨rfl, rfl⟩
  go_wp2_with fail
  refine (CB.out _).mono ?_; rintro e w' ⟨rfl, rfl⟩
  go_wp2_with fail
  go_ret2
  exact ⟨rfl, 0, rfl⟩

set_option maxRecDepth 100000 in
set_option maxHeartbeats 2000000 in
theorem refd_neg_32 (a b x y : Int) (w : World) (ca : refCut32 a x) (cb : refCut32 b y) (hx : 0 ≤ x) (hx' : x ≤ 4294967295) (hy : 0 ≤ y) (hy' : y ≤ 4294967295) :
    Calls Try.prog 11 #[.int .u8 128, .bool false, .int .i16 0, .int .u64 a, .int .u64 b] w (Did (aluZ false 128 0 x y % 4294967296) 0 w) := by
  have hz : aluZ false 128 0 x y = -x := rfl
  rw [hz]
  clear hz
  have CA := Lib.hid ca
  have CB := Lib.hid cb
  clear ca cb
  go_enter Try.func11, Try.ntmps11
  go_wp2_with fail
  refine (CA.out _).mono ?_; rintro e w' ⟨rfl, rfl⟩
  go_wp2_with fail
  refine (CB.out _).mono ?_; rintro e w' ⟨rfl, rfl⟩
  go_wp2_with fail
  refine (ref_cut_32 _ _ (by first | omega | exact (u64_rng _).1)).mono ?_; rintro e w' ⟨rfl, rfl⟩
  go_wp2_with fail
  go_ret2
  exact ⟨ret_two (by first | rfl | (rw [IntKind.wrap_u64, Int.emod_emod_of_dvd _ (by decide)]) | (rw [IntKind.wrap_u64]; omega)) rfl, 0, rfl⟩

set_option maxRecDepth 100000 in
set_option maxHeartbeats 2000000 in
theorem refd_no_neg_32 (a b x y : Int) (off : Int) (w : World) (ca : refCut32 a x) (cb : refCut32 b y) (hx : 0 ≤ x) (hx' : x ≤ 4294967295) (hy : 0 ≤ y) (hy' : y ≤ 4294967295) (ho : (off != 0) = true) :
    Calls Try.prog 11 #[.int .u8 128, .bool false, .int .i16 off, .int .u64 a, .int .u64 b] w (Did 0 1 w) := by
  have CA := Lib.hid ca
  have CB := Lib.hid cb
  clear ca cb
  go_enter Try.func11, Try.ntmps11
  go_wp2_with fail
  refine (CA.out _).mono ?_; rintro e w' ⟨rfl, rfl⟩
  go_wp2_with fail
  refine (CB.out _).mono ?_; rintro e w' ⟨rfl, rfl⟩
  go_wp2_with fail
  go_ret2
  exact ⟨rfl, 0, rfl⟩

set_option maxRecDepth 100000 in
set_option maxHeartbeats 2000000 in
theorem refd_arsh_p_32 (a b x y : Int) (w : World) (ca : refCut32 a x) (cb : refCut32 b y) (hx : 0 ≤ x) (hx' : x ≤ 4294967295) (hy : 0 ≤ y) (hy' : y ≤ 4294967295) (hc : x * 2 < 4294967296) :
    Calls Try.prog 11 #[.int .u8 192, .bool false, .int .i16 0, .int .u64 a, .int .u64 b] w (Did (aluZ false 192 0 x y % 4294967296) 0 w) := by
  have hn := Lib.hid fun w => ref_neg_32 x false w (beq_eq_false_iff_ne.mpr (by omega))
  have q0 := shr_range x (y % 32).toNat hx
  obtain ⟨q1, q2⟩ := q0
  have hz : aluZ false 192 0 x y = wrap32 x / 2 ^ (y % 32).toNat := rfl
  rw [hz]
  clear hz
  have hw : wrap32 x = x := by unfold wrap32; omega
  rw [hw]
  clear hw hc
  have CA := Lib.hid ca
  have CB := Lib.hid cb
  clear ca cb
  go_enter Try.func11, Try.ntmps11
  go_wp2_with fail
  refine (CA.out _).mono ?_; rintro e w' ⟨rfl, rfl⟩
  go_wp2_with fail
  refine (CB.out _).mono ?_; rintro e w' ⟨rfl, rfl⟩
  go_wp2_with fail
  refine (hn.out _).mono ?_; rintro e w' ⟨rfl, rfl⟩
  go_wp2_with fail
  refine (ref_cut_32 _ _ (by first | omega | exact (u64_rng _).1)).mono ?_; rintro e w' ⟨rfl, rfl⟩
  go_wp2_with fail
  go_ret2
  exact ⟨rfl, 0, rfl⟩

set_option maxRecDepth 100000 in
set_option maxHeartbeats 2000000 in
theorem refd_no_arsh_p_32 (a b x y : Int) (off : Int) (w : World) (ca : refCut32 a x) (cb : refCut32 b y) (hx : 0 ≤ x) (hx' : x ≤ 4294967295) (hy : 0 ≤ y) (hy' : y ≤ 4294967295) (hc : x * 2 < 4294967296) (ho : (off != 0) = true) :
    Calls Try.prog 11 #[.int .u8 192, .bool false, .int .i16 off, .int .u64 a, .int .u64 b] w (Did 0 1 w) := by
  have hn := Lib.hid fun w => ref_neg_32 x false w (beq_eq_false_iff_ne.mpr (by omega))
  have CA := Lib.hid ca
  have CB := Lib.hid cb
  clear ca cb
  go_enter Try.func11, Try.ntmps11
  go_wp2_with fail
  refine (CA.out _).mono ?_; rintro e w' ⟨rfl, rfl⟩
  go_wp2_with fail
  refine (CB.out _).mono ?_; rintro e w' ⟨rfl, rfl⟩
  go_wp2_with fail
  refine (hn.out _).mono ?_; rintro e w' ⟨rfl, rfl⟩
  go_wp2_with fail
  go_ret2
  exact ⟨rfl, 0, rfl⟩

set_option maxRecDepth 100000 in
set_option maxHeartbeats 2000000 in
theorem refd_arsh_n_32 (a b x y : Int) (w : World) (ca : refCut32 a x) (cb : refCut32 b y) (hx : 0 ≤ x) (hx' : x ≤ 4294967295) (hy : 0 ≤ y) (hy' : y ≤ 4294967295) (hc : ¬ x * 2 < 4294967296) :
    Calls Try.prog 11 #[.int .u8 192, .bool false, .int .i16 0, .int .u64 a, .int .u64 b] w (Did (aluZ false 192 0 x y % 4294967296) 0 w) := by
  have hn := Lib.hid fun w => ref_neg_32 x true w (beq_iff_eq.mpr (by omega))
  have q0 := shr_range x (y % 32).toNat hx
  obtain ⟨q1, q2⟩ := q0
  have hz : aluZ false 192 0 x y = wrap32 x / 2 ^ (y % 32).toNat := rfl
  rw [hz]
  clear hz
  have A1 := Lib.hid (arsh_neg_32 x y hx hx' hc)
  have CA := Lib.hid ca
  have CB := Lib.hid cb
  clear ca cb
  go_enter Try.func11, Try.ntmps11
  go_wp2_with fail
  refine (CA.out _).mono ?_; rintro e w' ⟨rfl, rfl⟩
  go_wp2_with fail
  refine (CB.out _).mono ?_; rintro e w' ⟨rfl, rfl⟩
  go_wp2_with fail
  refine (hn.out _).mono ?_; rintro e w' ⟨rfl, rfl⟩
  go_wp2_with fail
  refine (ref_cut_32 _ _ (by decide)).mono ?_; rintro e w' ⟨rfl, rfl⟩
  go_wp2_with fail
  refine (ref_cut_32 _ _ (by first | omega | exact (u64_rng _).1)).mono ?_; rintro e w' ⟨rfl, rfl⟩
  go_wp2_with fail
  go_ret2
  exact ⟨ret_two A1.out rfl, 0, rfl⟩

set_option maxRecDepth 100000 in
set_option maxHeartbeats 2000000 in
theorem refd_no_arsh_n_32 (a b x y : Int) (off : Int) (w : World) (ca : refCut32 a x) (cb : refCut32 b y) (hx : 0 ≤ x) (hx' : x ≤ 4294967295) (hy : 0 ≤ y) (hy' : y ≤ 4294967295) (hc : ¬ x * 2 < 4294967296) (ho : (off != 0) = true) :
    Calls Try.prog 11 #[.int .u8 192, .bool false, .int .i16 off, .int .u64 a, .int .u64 b] w (Did 0 1 w) := by
  have hn := Lib.hid fun w => ref_neg_32 x true w (beq_iff_eq.mpr (by omega))
  have CA := Lib.hid ca
  have CB := Lib.hid cb
  clear ca cb
  go_enter Try.func11, Try.ntmps11
  go_wp2_with fail
  refine (CA.out _).mono ?_; rintro e w' ⟨rfl, rfl⟩
  go_wp2_with fail
  refine (CB.out _).mono ?_; rintro e w' ⟨rfl, rfl⟩
  go_wp2_with fail
  refine (hn.out _).mono ?_; rintro e w' ⟨rfl, rfl⟩
  go_wp2_with fail
  refine (ref_cut_32 _ _ (by decide)).mono ?_; rintro e w' ⟨rfl, rfl⟩
  go_wp2_with fail
  go_ret2
  exact ⟨rfl, 0, rfl⟩

set_option maxRecDepth 100000 in
set_option maxHeartbeats 2000000 in
theorem refd_mov0_32 (a b x y : Int) (w : World) (ca : refCut32 a x) (cb : refCut32 b y) (hx : 0 ≤ x) (hx' : x ≤ 4294967295) (hy : 0 ≤ y) (hy' : y ≤ 4294967295) :
    Calls Try.prog 11 #[.int .u8 176, .bool false, .int .i16 0, .int .u64 a, .int .u64 b] w (Did (aluZ false 176 0 x y % 4294967296) 0 w) := by
  have hz : aluZ false 176 0 x y = y := signW_0 y
  rw [hz]
  clear hz
  have CA := Lib.hid ca
  have CB := Lib.hid cb
  clear ca cb
  go_enter Try.func11, Try.ntmps11
  go_wp2_with fail
  refine (CA.out _).mono ?_; rintro e w' ⟨rfl, rfl⟩
  go_wp2_with fail
  refine (CB.out _).mono ?_; rintro e w' ⟨rfl, rfl⟩
  go_wp2_with fail
  refine (ref_cut_32 _ _ (by first | omega | exact (u64_rng _).1)).mono ?_; rintro e w' ⟨rfl, rfl⟩
  go_wp2_with fail
  go_ret2
  exact ⟨rfl, 0, rfl⟩

set_option maxRecDepth 100000 in
set_option maxHeartbeats 2000000 in
theorem refd_mov8_32 (a b x y : Int) (w : World) (ca : refCut32 a x) (cb : refCut32 b y) (hx : 0 ≤ x) (hx' : x ≤ 4294967295) (hy : 0 ≤ y) (hy' : y ≤ 4294967295) :
    Calls Try.prog 11 #[.int .u8 176, .bool false, .int .i16 8, .int .u64 a, .int .u64 b] w (Did (aluZ false 176 8 x y % 4294967296) 0 w) := by
  have hz : aluZ false 176 8 x y = signW y 8 := rfl
  rw [hz]
  clear hz
  obtain ⟨s0, s1⟩ := signW_range y 8 hy (by omega)
  have CA := Lib.hid ca
  have CB := Lib.hid cb
  clear ca cb
  go_enter Try.func11, Try.ntmps11
  go_wp2_with fail
  refine (CA.out _).mono ?_; rintro e w' ⟨rfl, rfl⟩
  go_wp2_with fail
  refine (CB.out _).mono ?_; rintro e w' ⟨rfl, rfl⟩
  go_wp2_with fail
  refine (ref_sign _ _ _ (by omega) (by omega)).mono ?_; rintro e w' ⟨rfl, rfl⟩
  go_wp2_with fail
  refine (ref_cut_32 _ _ (by omega)).mono ?_; rintro e w' ⟨rfl, rfl⟩
  go_wp2_with fail
  go_ret2
  exact ⟨rfl, 0, rfl⟩

set_option maxRecDepth 100000 in
set_option maxHeartbeats 2000000 in
theorem refd_mov16_32 (a b x y : Int) (w : World) (ca : refCut32 a x) (cb : refCut32 b y) (hx : 0 ≤ x) (hx' : x ≤ 4294967295) (hy : 0 ≤ y) (hy' : y ≤ 4294967295) :
    Calls Try.prog 11 #[.int .u8 176, .bool false, .int .i16 16, .int .u64 a, .int .u64 b] w (Did (aluZ false 176 16 x y % 4294967296) 0 w) := by
  have hz : aluZ false 176 16 x y = signW y 16 := rfl
  rw [hz]
  clear hz
  obtain ⟨s0, s1⟩ := signW_range y 16 hy (by omega)
  have CA := Lib.hid ca
  have CB := Lib.hid cb
  clear ca cb
  go_enter Try.func11, Try.ntmps11
  go_wp2_with fail
  refine (CA.out _).mono ?_; rintro e w' ⟨rfl, rfl⟩
  go_wp2_with fail
  refine (CB.out _).mono ?_; rintro e w' ⟨rfl, rfl⟩
  go_wp2_with fail
  refine (ref_sign _ _ _ (by omega) (by omega)).mono ?_; rintro e w' ⟨rfl, rfl⟩
  go_wp2_with fail
  refine (ref_cut_32 _ _ (by omega)).mono ?_; rintro e w' ⟨rfl, rfl⟩
  go_wp2_with fail
  go_ret2
  exact ⟨rfl, 0, rfl⟩

set_option maxRecDepth 100000 in
set_option maxHeartbeats 2000000 in
theorem refd_no_mov_32 (a b x y : Int) (off : Int) (w : World) (ca : refCut32 a x) (cb : refCut32 b y) (hx : 0 ≤ x) (hx' : x ≤ 4294967295) (hy : 0 ≤ y) (hy' : y ≤ 4294967295) (ho : (off != 0) = true) (h8 : (off == 8) = false) (h16 : (off == 16) = false) :
    Calls Try.prog 11 #[.int .u8 176, .bool false, .int .i16 off, .int .u64 a, .int .u64 b] w (Did 0 1 w) := by
  have CA := Lib.hid ca
  have CB := Lib.hid cb
  clear ca cb
  go_enter Try.func11, Try.ntmps11
  go_wp2_with fail
  refine (CA.out _).mono ?_; rintro e w' ⟨rfl, rfl⟩
  go_wp2_with fail
  refine (CB.out _).mono ?_; rintro e w' ⟨rfl, rfl⟩
  go_wp2_with fail
  all_goals go_ret2
  all_goals exact ⟨rfl, 0, rfl⟩

set_option maxRecDepth 100000 in
set_option maxHeartbeats 2000000 in
theorem refd_div0_32 (a b x y : Int) (w : World) (ca : refCut32 a x) (cb : refCut32 b y) (hx : 0 ≤ x) (hx' : x ≤ 4294967295) (hy : 0 ≤ y) (hy' : y ≤ 4294967295) :
    Calls Try.prog 11 #[.int .u8 48, .bool false, .int .i16 0, .int .u64 a, .int .u64 b] w (Did (aluZ false 48 0 x y % 4294967296) 0 w) := by
  have hp := Lib.hid fun w => ref_parts_u_32 x y w hx hx' hy hy'
  have CA := Lib.hid ca
  have CB := Lib.hid cb
  clear ca cb
  go_enter Try.func11, Try.ntmps11
  go_wp2_with fail
  refine (CA.out _).mono ?_; rintro e w' ⟨rfl, rfl⟩
  go_wp2_with fail
  refine (CB.out _).mono ?_; rintro e w' ⟨rfl, rfl⟩
  go_wp2_with fail
  refine (hp.out _).mono ?_; rintro e w' ⟨rfl, n, rfl⟩
  go_wp2_with fail
  go_ret2
  exact ⟨rfl, _, rfl⟩

set_option maxRecDepth 100000 in
set_option maxHeartbeats 2000000 in
theorem refd_div1_32 (a b x y : Int) (w : World) (ca : refCut32 a x) (cb : refCut32 b y) (hx : 0 ≤ x) (hx' : x ≤ 4294967295) (hy : 0 ≤ y) (hy' : y ≤ 4294967295) :
    Calls Try.prog 11 #[.int .u8 48, .bool false, .int .i16 1, .int .u64 a, .int .u64 b] w (Did (aluZ false 48 1 x y % 4294967296) 0 w) := by
  have hp := Lib.hid fun w => ref_parts_1_32 x y w hx hx' hy hy'
  have CA := Lib.hid ca
  have CB := Lib.hid cb
  clear ca cb
  go_enter Try.func11, Try.ntmps11
  go_wp2_with fail
  refine (CA.out _).mono ?_; rintro e w' ⟨rfl, rfl⟩
  go_wp2_with fail
  refine (CB.out _).mono ?_; rintro e w' ⟨rfl, rfl⟩
  go_wp2_with fail
  refine (hp.out _).mono ?_; rintro e w' ⟨rfl, n, rfl⟩
  go_wp2_with fail
  go_ret2
  exact ⟨rfl, _, rfl⟩

set_option maxRecDepth 100000 in
set_option maxHeartbeats 2000000 in
theorem refd_no_div_32 (a b x y : Int) (off : Int) (w : World) (ca : refCut32 a x) (cb : refCut32 b y) (hx : 0 ≤ x) (hx' : x ≤ 4294967295) (hy : 0 ≤ y) (hy' : y ≤ 4294967295) (ho : (off != 0) = true) (h1 : (off != 1) = true) :
    Calls Try.prog 11 #[.int .u8 48, .bool false, .int .i16 off, .int .u64 a, .int .u64 b] w (Did 0 1 w) := by
  have CA := Lib.hid ca
  have CB := Lib.hid cb
  clear ca cb
  go_enter Try.func11, Try.ntmps11
  go_wp2_with fail
  refine (CA.out _).mono ?_; rintro e w' ⟨rfl, rfl⟩
  go_wp2_with fail
  refine (CB.out _).mono ?_; rintro e w' ⟨rfl, rfl⟩
  go_wp2_with fail
  go_ret2
  exact ⟨rfl, 0, rfl⟩

set_option maxRecDepth 100000 in
set_option maxHeartbeats 2000000 in
theorem refd_mod0_32 (a b x y : Int) (w : World) (ca : refCut32 a x) (cb : refCut32 b y) (hx : 0 ≤ x) (hx' : x ≤ 4294967295) (hy : 0 ≤ y) (hy' : y ≤ 4294967295) :
    Calls Try.prog 11 #[.int .u8 144, .bool false, .int .i16 0, .int .u64 a, .int .u64 b] w (Did (aluZ false 144 0 x y % 4294967296) 0 w) := by
  have hp := Lib.hid fun w => ref_parts_u_32 x y w hx hx' hy hy'
  have CA := Lib.hid ca
  have CB := Lib.hid cb
  clear ca cb
  go_enter Try.func11, Try.ntmps11
  go_wp2_with fail
  refine (CA.out _).mono ?_; rintro e w' ⟨rfl, rfl⟩
  go_wp2_with fail
  refine (CB.out _).mono ?_; rintro e w' ⟨rfl, rfl⟩
  go_wp2_with fail
  refine (hp.out _).mono ?_; rintro e w' ⟨rfl, n, rfl⟩
  go_wp2_with fail
  go_ret2
  exact ⟨rfl, _, rfl⟩

set_option maxRecDepth 100000 in
set_option maxHeartbeats 2000000 in
theorem refd_mod1_32 (a b x y : Int) (w : World) (ca : refCut32 a x) (cb : refCut32 b y) (hx : 0 ≤ x) (hx' : x ≤ 4294967295) (hy : 0 ≤ y) (hy' : y ≤ 4294967295) :
    Calls Try.prog 11 #[.int .u8 144, .bool false, .int .i16 1, .int .u64 a, .int .u64 b] w (Did (aluZ false 144 1 x y % 4294967296) 0 w) := by
  have hp := Lib.hid fun w => ref_parts_1_32 x y w hx hx' hy hy'
  have CA := Lib.hid ca
  have CB := Lib.hid cb
  clear ca cb
  go_enter Try.func11, Try.ntmps11
  go_wp2_with fail
  refine (CA.out _).mono ?_; rintro e w' ⟨rfl, rfl⟩
  go_wp2_with fail
  refine (CB.out _).mono ?_; rintro e w' ⟨rfl, rfl⟩
  go_wp2_with fail
  refine (hp.out _).mono ?_; rintro e w' ⟨rfl, n, rfl⟩
  go_wp2_with fail
  go_ret2
  exact ⟨rfl, _, rfl⟩

set_option maxRecDepth 100000 in
set_option maxHeartbeats 2000000 in
theorem refd_no_mod_32 (a b x y : Int) (off : Int) (w : World) (ca : refCut32 a x) (cb : refCut32 b y) (hx : 0 ≤ x) (hx' : x ≤ 4294967295) (hy : 0 ≤ y) (hy' : y ≤ 4294967295) (ho : (off != 0) = true) (h1 : (off != 1) = true) :
    Calls Try.prog 11 #[.int .u8 144, .bool false, .int .i16 off, .int .u64 a, .int .u64 b] w (Did 0 1 w) := by
  have CA := Lib.hid ca
  have CB := Lib.hid cb
  clear ca cb
  go_enter Try.func11, Try.ntmps11
  go_wp2_with fail
  refine (CA.out _).mono ?_; rintro e w' ⟨rfl, rfl⟩
  go_wp2_with fail
  refine (CB.out _).mono ?_; rintro e w' ⟨rfl, rfl⟩
  go_wp2_with fail
  go_ret2
  exact ⟨rfl, 0, rfl⟩

set_option maxRecDepth 100000 in
set_option maxHeartbeats 2000000 in
theorem refd_none_32 (op off : Int) (a b x y : Int) (w : World) (ca : refCut32 a x) (cb : refCut32 b y) (hx : 0 ≤ x) (hx' : x ≤ 4294967295) (hy : 0 ≤ y) (hy' : y ≤ 4294967295) (k0 : (op == 0) = false) (k16 : (op == 16) = false) (k32 : (op == 32) = false) (k64 : (op == 64) = false) (k80 : (op == 80) = false) (k160 : (op == 160) = false) (k96 : (op == 96) = false) (k112 : (op == 112) = false) (k192 : (op == 192) = false) (k128 : (op == 128) = false) (k176 : (op == 176) = false) (k48 : (op == 48) = false) (k144 : (op == 144) = false) :
    Calls Try.prog 11 #[.int .u8 op, .bool false, .int .i16 off, .int .u64 a, .int .u64 b] w (Did 0 1 w) := by
  have CA := Lib.hid ca
  have CB := Lib.hid cb
  clear ca cb
  go_enter Try.func11, Try.ntmps11
  go_wp2_with fail
  refine (CA.out _).mono ?_; rintro e w' ⟨rfl, rfl⟩
  go_wp2_with fail
  refine (CB.out _).mono ?_; rintro e w' ⟨rfl, rfl⟩
  go_wp2_with fail
  go_ret2
  exact ⟨rfl, 0, rfl⟩

end Go.Proofs.Ythafidhcmahomaa
