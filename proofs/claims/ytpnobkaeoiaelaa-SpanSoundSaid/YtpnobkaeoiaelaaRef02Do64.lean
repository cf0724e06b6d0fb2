/-
  The document's own Do, op by op, at 64 bits.
  Conditions: the numbers fit their kinds.
-/
import Derived.Test.YtpnobkaeoiaelaaRef02Parts
import Derived.Test.YtpnobkaeoiaelaaRef02Math
namespace Go.Proofs.Ytpnobkaeoiaelaa
open Go.RowKit
set_option linter.unusedVariables false

abbrev refCut64 (n v : Int) : Prop := ∀ w : World, Calls Try.prog 30 #[.int .u64 n, .int .i64 64] w fun e w' => e = .returned (.int .u64 v) ∧ w = w'

set_option maxRecDepth 100000 in
set_option maxHeartbeats 2000000 in
theorem refd_add_64 (a b x y : Int) (w : World) (ca : refCut64 a x) (cb : refCut64 b y) (hx : 0 ≤ x) (hx' : x ≤ 18446744073709551615) (hy : 0 ≤ y) (hy' : y ≤ 18446744073709551615) :
    Calls Try.prog 22 #[.int .u8 0, .bool true, .int .i16 0, .int .u64 a, .int .u64 b] w (Did (aluZ true 0 0 x y % 18446744073709551616) 0 w) := by
  have hz : aluZ true 0 0 x y = x + y := rfl
  rw [hz]
  clear hz
  have CA := Lib.hid ca
  have CB := Lib.hid cb
  clear ca cb
  go_enter Try.func22, Try.ntmps22
  go_wp2_with fail
  refine (CA.out _).mono ?_; rintro e w' ⟨rfl, rfl⟩
  go_wp2_with fail
  refine (CB.out _).mono ?_; rintro e w' ⟨rfl, rfl⟩
  go_wp2_with fail
  refine (ref_cut_64 _ _ (by first | omega | exact (u64_rng _).1) (by first | omega | exact (u64_rng _).2)).mono ?_; rintro e w' ⟨rfl, rfl⟩
  go_wp2_with fail
  go_ret2
  exact ⟨ret_two (by first | rfl | (rw [IntKind.wrap_u64, Int.emod_emod_of_dvd _ (by decide)]) | (rw [IntKind.wrap_u64]; omega)) rfl, 0, rfl⟩

set_option maxRecDepth 100000 in
set_option maxHeartbeats 2000000 in
theorem refd_no_add_64 (a b x y : Int) (off : Int) (w : World) (ca : refCut64 a x) (cb : refCut64 b y) (hx : 0 ≤ x) (hx' : x ≤ 18446744073709551615) (hy : 0 ≤ y) (hy' : y ≤ 18446744073709551615) (ho : (off != 0) = true) :
    Calls Try.prog 22 #[.int .u8 0, .bool true, .int .i16 off, .int .u64 a, .int .u64 b] w (Did 0 1 w) := by
  have CA := Lib.hid ca
  have CB := Lib.hid cb
  clear ca cb
  go_enter Try.func22, Try.ntmps22
  go_wp2_with fail
  refine (CA.out _).mono ?_; rintro e w' ⟨rfl, rfl⟩
  go_wp2_with fail
  refine (CB.out _).mono ?_; rintro e w' ⟨rfl, rfl⟩
  go_wp2_with fail
  go_ret2
  exact ⟨rfl, 0, rfl⟩

set_option maxRecDepth 100000 in
set_option maxHeartbeats 2000000 in
theorem refd_sub_64 (a b x y : Int) (w : World) (ca : refCut64 a x) (cb : refCut64 b y) (hx : 0 ≤ x) (hx' : x ≤ 18446744073709551615) (hy : 0 ≤ y) (hy' : y ≤ 18446744073709551615) :
    Calls Try.prog 22 #[.int .u8 16, .bool true, .int .i16 0, .int .u64 a, .int .u64 b] w (Did (aluZ true 16 0 x y % 18446744073709551616) 0 w) := by
  have hz : aluZ true 16 0 x y = x - y := rfl
  rw [hz]
  clear hz
  have CA := Lib.hid ca
  have CB := Lib.hid cb
  clear ca cb
  go_enter Try.func22, Try.ntmps22
  go_wp2_with fail
  refine (CA.out _).mono ?_; rintro e w' ⟨rfl, rfl⟩
  go_wp2_with fail
  refine (CB.out _).mono ?_; rintro e w' ⟨rfl, rfl⟩
  go_wp2_with fail
  refine (ref_cut_64 _ _ (by first | omega | exact (u64_rng _).1) (by first | omega | exact (u64_rng _).2)).mono ?_; rintro e w' ⟨rfl, rfl⟩
  go_wp2_with fail
  go_ret2
  exact ⟨ret_two (by first | rfl | (rw [IntKind.wrap_u64, Int.emod_emod_of_dvd _ (by decide)]) | (rw [IntKind.wrap_u64]; omega)) rfl, 0, rfl⟩

set_option maxRecDepth 100000 in
set_option maxHeartbeats 2000000 in
theorem refd_no_sub_64 (a b x y : Int) (off : Int) (w : World) (ca : refCut64 a x) (cb : refCut64 b y) (hx : 0 ≤ x) (hx' : x ≤ 18446744073709551615) (hy : 0 ≤ y) (hy' : y ≤ 18446744073709551615) (ho : (off != 0) = true) :
    Calls Try.prog 22 #[.int .u8 16, .bool true, .int .i16 off, .int .u64 a, .int .u64 b] w (Did 0 1 w) := by
  have CA := Lib.hid ca
  have CB := Lib.hid cb
  clear ca cb
  go_enter Try.func22, Try.ntmps22
  go_wp2_with fail
  refine (CA.out _).mono ?_; rintro e w' ⟨rfl, rfl⟩
  go_wp2_with fail
  refine (CB.out _).mono ?_; rintro e w' ⟨rfl, rfl⟩
  go_wp2_with fail
  go_ret2
  exact ⟨rfl, 0, rfl⟩

set_option maxRecDepth 100000 in
set_option maxHeartbeats 2000000 in
theorem refd_mul_64 (a b x y : Int) (w : World) (ca : refCut64 a x) (cb : refCut64 b y) (hx : 0 ≤ x) (hx' : x ≤ 18446744073709551615) (hy : 0 ≤ y) (hy' : y ≤ 18446744073709551615) :
    Calls Try.prog 22 #[.int .u8 32, .bool true, .int .i16 0, .int .u64 a, .int .u64 b] w (Did (aluZ true 32 0 x y % 18446744073709551616) 0 w) := by
  have hz : aluZ true 32 0 x y = x * y := rfl
  rw [hz]
  clear hz
  have CA := Lib.hid ca
  have CB := Lib.hid cb
  clear ca cb
  go_enter Try.func22, Try.ntmps22
  go_wp2_with fail
  refine (CA.out _).mono ?_; rintro e w' ⟨rfl, rfl⟩
  go_wp2_with fail
  refine (CB.out _).mono ?_; rintro e w' ⟨rfl, rfl⟩
  go_wp2_with fail
  refine (ref_cut_64 _ _ (by first | omega | exact (u64_rng _).1) (by first | omega | exact (u64_rng _).2)).mono ?_; rintro e w' ⟨rfl, rfl⟩
  go_wp2_with fail
  go_ret2
  exact ⟨ret_two (by first | rfl | (rw [IntKind.wrap_u64, Int.emod_emod_of_dvd _ (by decide)]) | (rw [IntKind.wrap_u64]; omega)) rfl, 0, rfl⟩

set_option maxRecDepth 100000 in
set_option maxHeartbeats 2000000 in
theorem refd_no_mul_64 (a b x y : Int) (off : Int) (w : World) (ca : refCut64 a x) (cb : refCut64 b y) (hx : 0 ≤ x) (hx' : x ≤ 18446744073709551615) (hy : 0 ≤ y) (hy' : y ≤ 18446744073709551615) (ho : (off != 0) = true) :
    Calls Try.prog 22 #[.int .u8 32, .bool true, .int .i16 off, .int .u64 a, .int .u64 b] w (Did 0 1 w) := by
  have CA := Lib.hid ca
  have CB := Lib.hid cb
  clear ca cb
  go_enter Try.func22, Try.ntmps22
  go_wp2_with fail
  refine (CA.out _).mono ?_; rintro e w' ⟨rfl, rfl⟩
  go_wp2_with fail
  refine (CB.out _).mono ?_; rintro e w' ⟨rfl, rfl⟩
  go_wp2_with fail
  go_ret2
  exact ⟨rfl, 0, rfl⟩

set_option maxRecDepth 100000 in
set_option maxHeartbeats 2000000 in
theorem refd_or_64 (a b x y : Int) (w : World) (ca : refCut64 a x) (cb : refCut64 b y) (hx : 0 ≤ x) (hx' : x ≤ 18446744073709551615) (hy : 0 ≤ y) (hy' : y ≤ 18446744073709551615) :
    Calls Try.prog 22 #[.int .u8 64, .bool true, .int .i16 0, .int .u64 a, .int .u64 b] w (Did (aluZ true 64 0 x y % 18446744073709551616) 0 w) := by
  have hz : aluZ true 64 0 x y = ((x.toNat ||| y.toNat : Nat) : Int) := rfl
  rw [hz]
  have e0 := Lib.hid (u64_or x y hx (by omega) hy (by omega))
  have e1 := Nat.or_lt_two_pow (n := 64) (x := x.toNat) (y := y.toNat) (by omega) (by omega)
  have e9 : bits .or .u64 x y = ((x.toNat ||| y.toNat : Nat) : Int) := e0.out
  generalize hg : (x.toNat ||| y.toNat) = g at *
  have E9 := Lib.hid e9
  clear e0 e9 hg hz
  have b0 : 0 ≤ bits .or .u64 x y := by rw [E9.out]; omega
  have b1 : bits .or .u64 x y ≤ 18446744073709551615 := by rw [E9.out]; omega
  have CA := Lib.hid ca
  have CB := Lib.hid cb
  clear ca cb
  go_enter Try.func22, Try.ntmps22
  go_wp2_with fail
  refine (CA.out _).mono ?_; rintro e w' ⟨rfl, rfl⟩
  go_wp2_with fail
  refine (CB.out _).mono ?_; rintro e w' ⟨rfl, rfl⟩
  go_wp2_with fail
  refine (ref_cut_64 _ _ (by first | omega | exact (u64_rng _).1) (by first | omega | exact (u64_rng _).2)).mono ?_; rintro e w' ⟨rfl, rfl⟩
  go_wp2_with fail
  go_ret2
  exact ⟨ret_two (by rw [E9.out]) rfl, 0, rfl⟩

set_option maxRecDepth 100000 in
set_option maxHeartbeats 2000000 in
theorem refd_no_or_64 (a b x y : Int) (off : Int) (w : World) (ca : refCut64 a x) (cb : refCut64 b y) (hx : 0 ≤ x) (hx' : x ≤ 18446744073709551615) (hy : 0 ≤ y) (hy' : y ≤ 18446744073709551615) (ho : (off != 0) = true) :
    Calls Try.prog 22 #[.int .u8 64, .bool true, .int .i16 off, .int .u64 a, .int .u64 b] w (Did 0 1 w) := by
  have CA := Lib.hid ca
  have CB := Lib.hid cb
  clear ca cb
  go_enter Try.func22, Try.ntmps22
  go_wp2_with fail
  refine (CA.out _).mono ?_; rintro e w' ⟨rfl, rfl⟩
  go_wp2_with fail
  refine (CB.out _).mono ?_; rintro e w' ⟨rfl, rfl⟩
  go_wp2_with fail
  go_ret2
  exact ⟨rfl, 0, rfl⟩

set_option maxRecDepth 100000 in
set_option maxHeartbeats 2000000 in
theorem refd_and_64 (a b x y : Int) (w : World) (ca : refCut64 a x) (cb : refCut64 b y) (hx : 0 ≤ x) (hx' : x ≤ 18446744073709551615) (hy : 0 ≤ y) (hy' : y ≤ 18446744073709551615) :
    Calls Try.prog 22 #[.int .u8 80, .bool true, .int .i16 0, .int .u64 a, .int .u64 b] w (Did (aluZ true 80 0 x y % 18446744073709551616) 0 w) := by
  have hz : aluZ true 80 0 x y = ((x.toNat &&& y.toNat : Nat) : Int) := rfl
  rw [hz]
  have e0 := Lib.hid (u64_and x y hx (by omega) hy (by omega))
  have e1 := Nat.and_lt_two_pow (n := 64) x.toNat (y := y.toNat) (by omega)
  have e9 : bits .and .u64 x y = ((x.toNat &&& y.toNat : Nat) : Int) := e0.out
  generalize hg : (x.toNat &&& y.toNat) = g at *
  have E9 := Lib.hid e9
  clear e0 e9 hg hz
  have b0 : 0 ≤ bits .and .u64 x y := by rw [E9.out]; omega
  have b1 : bits .and .u64 x y ≤ 18446744073709551615 := by rw [E9.out]; omega
  have CA := Lib.hid ca
  have CB := Lib.hid cb
  clear ca cb
  go_enter Try.func22, Try.ntmps22
  go_wp2_with fail
  refine (CA.out _).mono ?_; rintro e w' ⟨rfl, rfl⟩
  go_wp2_with fail
  refine (CB.out _).mono ?_; rintro e w' ⟨rfl, rfl⟩
  go_wp2_with fail
  refine (ref_cut_64 _ _ (by first | omega | exact (u64_rng _).1) (by first | omega | exact (u64_rng _).2)).mono ?_; rintro e w' ⟨rfl, rfl⟩
  go_wp2_with fail
  go_ret2
  exact ⟨ret_two (by rw [E9.out]) rfl, 0, rfl⟩

set_option maxRecDepth 100000 in
set_option maxHeartbeats 2000000 in
theorem refd_no_and_64 (a b x y : Int) (off : Int) (w : World) (ca : refCut64 a x) (cb : refCut64 b y) (hx : 0 ≤ x) (hx' : x ≤ 18446744073709551615) (hy : 0 ≤ y) (hy' : y ≤ 18446744073709551615) (ho : (off != 0) = true) :
    Calls Try.prog 22 #[.int .u8 80, .bool true, .int .i16 off, .int .u64 a, .int .u64 b] w (Did 0 1 w) := by
  have CA := Lib.hid ca
  have CB := Lib.hid cb
  clear ca cb
  go_enter Try.func22, Try.ntmps22
  go_wp2_with fail
  refine (CA.out _).mono ?_; rintro e w' ⟨rfl, rfl⟩
  go_wp2_with fail
  refine (CB.out _).mono ?_; rintro e w' ⟨rfl, rfl⟩
  go_wp2_with fail
  go_ret2
  exact ⟨rfl, 0, rfl⟩

set_option maxRecDepth 100000 in
set_option maxHeartbeats 2000000 in
theorem refd_xor_64 (a b x y : Int) (w : World) (ca : refCut64 a x) (cb : refCut64 b y) (hx : 0 ≤ x) (hx' : x ≤ 18446744073709551615) (hy : 0 ≤ y) (hy' : y ≤ 18446744073709551615) :
    Calls Try.prog 22 #[.int .u8 160, .bool true, .int .i16 0, .int .u64 a, .int .u64 b] w (Did (aluZ true 160 0 x y % 18446744073709551616) 0 w) := by
  have hz : aluZ true 160 0 x y = ((x.toNat ^^^ y.toNat : Nat) : Int) := rfl
  rw [hz]
  have e0 := Lib.hid (u64_xor x y hx (by omega) hy (by omega))
  have e1 := Nat.xor_lt_two_pow (n := 64) (x := x.toNat) (y := y.toNat) (by omega) (by omega)
  have e9 : bits .xor .u64 x y = ((x.toNat ^^^ y.toNat : Nat) : Int) := e0.out
  generalize hg : (x.toNat ^^^ y.toNat) = g at *
  have E9 := Lib.hid e9
  clear e0 e9 hg hz
  have b0 : 0 ≤ bits .xor .u64 x y := by rw [E9.out]; omega
  have b1 : bits .xor .u64 x y ≤ 18446744073709551615 := by rw [E9.out]; omega
  have CA := Lib.hid ca
  have CB := Lib.hid cb
  clear ca cb
  go_enter Try.func22, Try.ntmps22
  go_wp2_with fail
  refine (CA.out _).mono ?_; rintro e w' ⟨rfl, rfl⟩
  go_wp2_with fail
  refine (CB.out _).mono ?_; rintro e w' ⟨rfl, rfl⟩
  go_wp2_with fail
  refine (ref_cut_64 _ _ (by first | omega | exact (u64_rng _).1) (by first | omega | exact (u64_rng _).2)).mono ?_; rintro e w' ⟨rfl, rfl⟩
  go_wp2_with fail
  go_ret2
  exact ⟨ret_two (by rw [E9.out]) rfl, 0, rfl⟩

set_option maxRecDepth 100000 in
set_option maxHeartbeats 2000000 in
theorem refd_no_xor_64 (a b x y : Int) (off : Int) (w : World) (ca : refCut64 a x) (cb : refCut64 b y) (hx : 0 ≤ x) (hx' : x ≤ 18446744073709551615) (hy : 0 ≤ y) (hy' : y ≤ 18446744073709551615) (ho : (off != 0) = true) :
    Calls Try.prog 22 #[.int .u8 160, .bool true, .int .i16 off, .int .u64 a, .int .u64 b] w (Did 0 1 w) := by
  have CA := Lib.hid ca
  have CB := Lib.hid cb
  clear ca cb
  go_enter Try.func22, Try.ntmps22
  go_wp2_with fail
  refine (CA.out _).mono ?_; rintro e w' ⟨rfl, rfl⟩
  go_wp2_with fail
  refine (CB.out _).mono ?_; rintro e w' ⟨rfl, rfl⟩
  go_wp2_with fail
  go_ret2
  exact ⟨rfl, 0, rfl⟩

set_option maxRecDepth 100000 in
set_option maxHeartbeats 2000000 in
theorem refd_lsh_64 (a b x y : Int) (w : World) (ca : refCut64 a x) (cb : refCut64 b y) (hx : 0 ≤ x) (hx' : x ≤ 18446744073709551615) (hy : 0 ≤ y) (hy' : y ≤ 18446744073709551615) :
    Calls Try.prog 22 #[.int .u8 96, .bool true, .int .i16 0, .int .u64 a, .int .u64 b] w (Did (aluZ true 96 0 x y % 18446744073709551616) 0 w) := by
  have hz : aluZ true 96 0 x y = x * 2 ^ (y % 64).toNat := rfl
  rw [hz]
  clear hz
  have CA := Lib.hid ca
  have CB := Lib.hid cb
  clear ca cb
  go_enter Try.func22, Try.ntmps22
  go_wp2_with fail
  refine (CA.out _).mono ?_; rintro e w' ⟨rfl, rfl⟩
  go_wp2_with fail
  refine (CB.out _).mono ?_; rintro e w' ⟨rfl, rfl⟩
  go_wp2_with fail
  refine (ref_cut_64 _ _ (by first | omega | exact (u64_rng _).1) (by first | omega | exact (u64_rng _).2)).mono ?_; rintro e w' ⟨rfl, rfl⟩
  go_wp2_with fail
  go_ret2
  exact ⟨ret_two (by first | rfl | (rw [IntKind.wrap_u64, Int.emod_emod_of_dvd _ (by decide)]) | (rw [IntKind.wrap_u64]; omega)) rfl, 0, rfl⟩

set_option maxRecDepth 100000 in
set_option maxHeartbeats 2000000 in
theorem refd_no_lsh_64 (a b x y : Int) (off : Int) (w : World) (ca : refCut64 a x) (cb : refCut64 b y) (hx : 0 ≤ x) (hx' : x ≤ 18446744073709551615) (hy : 0 ≤ y) (hy' : y ≤ 18446744073709551615) (ho : (off != 0) = true) :
    Calls Try.prog 22 #[.int .u8 96, .bool true, .int .i16 off, .int .u64 a, .int .u64 b] w (Did 0 1 w) := by
  have CA := Lib.hid ca
  have CB := Lib.hid cb
  clear ca cb
  go_enter Try.func22, Try.ntmps22
  go_wp2_with fail
  refine (CA.out _).mono ?_; rintro e w' ⟨rfl, rfl⟩
  go_wp2_with fail
  refine (CB.out _).mono ?_; rintro e w' ⟨rfl, rfl⟩
  go_wp2_with fail
  go_ret2
  exact ⟨rfl, 0, rfl⟩

set_option maxRecDepth 100000 in
set_option maxHeartbeats 2000000 in
theorem refd_rsh_64 (a b x y : Int) (w : World) (ca : refCut64 a x) (cb : refCut64 b y) (hx : 0 ≤ x) (hx' : x ≤ 18446744073709551615) (hy : 0 ≤ y) (hy' : y ≤ 18446744073709551615) :
    Calls Try.prog 22 #[.int .u8 112, .bool true, .int .i16 0, .int .u64 a, .int .u64 b] w (Did (aluZ true 112 0 x y % 18446744073709551616) 0 w) := by
  have hz : aluZ true 112 0 x y = x / 2 ^ (y % 64).toNat := rfl
  rw [hz]
  clear hz
  have q0 := shr_range x (y % 64).toNat hx
  obtain ⟨q1, q2⟩ := q0
  have CA := Lib.hid ca
  have CB := Lib.hid cb
  clear ca cb
  go_enter Try.func22, Try.ntmps22
  go_wp2_with fail
  refine (CA.out _).mono ?_; rintro e w' ⟨rfl, rfl⟩
  go_wp2_with fail
  refine (CB.out _).mono ?_; rintro e w' ⟨rfl, rfl⟩
  go_wp2_with fail
  refine (ref_cut_64 _ _ (by first | omega | exact (u64_rng _).1) (by first | omega | exact (u64_rng _).2)).mono ?_; rintro e w' ⟨rfl, rfl⟩
  go_wp2_with fail
  go_ret2
  exact ⟨ret_two (by first | rfl | (rw [IntKind.wrap_u64, Int.emod_emod_of_dvd _ (by decide)]) | (rw [IntKind.wrap_u64]; omega)) rfl, 0, rfl⟩

set_option maxRecDepth 100000 in
set_option maxHeartbeats 2000000 in
theorem refd_no_rsh_64 (a b x y : Int) (off : Int) (w : World) (ca : refCut64 a x) (cb : refCut64 b y) (hx : 0 ≤ x) (hx' : x ≤ 18446744073709551615) (hy : 0 ≤ y) (hy' : y ≤ 18446744073709551615) (ho : (off != 0) = true) :
    Calls Try.prog 22 #[.int .u8 112, .bool true, .int .i16 off, .int .u64 a, .int .u64 b] w (Did 0 1 w) := by
  have CA := Lib.hid ca
  have CB := Lib.hid cb
  clear ca cb
  go_enter Try.func22, Try.ntmps22
  go_wp2_with fail
  refine (CA.out _).mono ?_; rintro e w' ⟨rfl, rfl⟩
  go_wp2_with fail
  refine (CB.out _).mono ?_; rintro e w' ⟨rfl, rfl⟩
  go_wp2_with fail
  go_ret2
  exact ⟨rfl, 0, rfl⟩

set_option maxRecDepth 100000 in
set_option maxHeartbeats 2000000 in
theorem refd_neg_64 (a b x y : Int) (w : World) (ca : refCut64 a x) (cb : refCut64 b y) (hx : 0 ≤ x) (hx' : x ≤ 18446744073709551615) (hy : 0 ≤ y) (hy' : y ≤ 18446744073709551615) :
    Calls Try.prog 22 #[.int .u8 128, .bool true, .int .i16 0, .int .u64 a, .int .u64 b] w (Did (aluZ true 128 0 x y % 18446744073709551616) 0 w) := by
  have hz : aluZ true 128 0 x y = -x := rfl
  rw [hz]
  clear hz
  have CA := Lib.hid ca
  have CB := Lib.hid cb
  clear ca cb
  go_enter Try.func22, Try.ntmps22
  go_wp2_with fail
  refine (CA.out _).mono ?_; rintro e w' ⟨rfl, rfl⟩
  go_wp2_with fail
  refine (CB.out _).mono ?_; rintro e w' ⟨rfl, rfl⟩
  go_wp2_with fail
  refine (ref_cut_64 _ _ (by first | omega | exact (u64_rng _).1) (by first | omega | exact (u64_rng _).2)).mono ?_; rintro e w' ⟨rfl, rfl⟩
  go_wp2_with fail
  go_ret2
  exact ⟨ret_two (by first | rfl | (rw [IntKind.wrap_u64, Int.emod_emod_of_dvd _ (by decide)]) | (rw [IntKind.wrap_u64]; omega)) rfl, 0, rfl⟩

set_option maxRecDepth 100000 in
set_option maxHeartbeats 2000000 in
theorem refd_no_neg_64 (a b x y : Int) (off : Int) (w : World) (ca : refCut64 a x) (cb : refCut64 b y) (hx : 0 ≤ x) (hx' : x ≤ 18446744073709551615) (hy : 0 ≤ y) (hy' : y ≤ 18446744073709551615) (ho : (off != 0) = true) :
    Calls Try.prog 22 #[.int .u8 128, .bool true, .int .i16 off, .int .u64 a, .int .u64 b] w (Did 0 1 w) := by
  have CA := Lib.hid ca
  have CB := Lib.hid cb
  clear ca cb
  go_enter Try.func22, Try.ntmps22
  go_wp2_with fail
  refine (CA.out _).mono ?_; rintro e w' ⟨rfl, rfl⟩
  go_wp2_with fail
  refine (CB.out _).mono ?_; rintro e w' ⟨rfl, rfl⟩
  go_wp2_with fail
  go_ret2
  exact ⟨rfl, 0, rfl⟩

set_option maxRecDepth 100000 in
set_option maxHeartbeats 2000000 in
theorem refd_arsh_p_64 (a b x y : Int) (w : World) (ca : refCut64 a x) (cb : refCut64 b y) (hx : 0 ≤ x) (hx' : x ≤ 18446744073709551615) (hy : 0 ≤ y) (hy' : y ≤ 18446744073709551615) (hc : x * 2 < 18446744073709551616) :
    Calls Try.prog 22 #[.int .u8 192, .bool true, .int .i16 0, .int .u64 a, .int .u64 b] w (Did (aluZ true 192 0 x y % 18446744073709551616) 0 w) := by
  have hn := Lib.hid fun w => ref_neg_64 x false w (beq_eq_false_iff_ne.mpr (by omega))
  have q0 := shr_range x (y % 64).toNat hx
  obtain ⟨q1, q2⟩ := q0
  have hz : aluZ true 192 0 x y = wrap64 x / 2 ^ (y % 64).toNat := rfl
  rw [hz]
  clear hz
  have hw : wrap64 x = x := by unfold wrap64; omega
  rw [hw]
  clear hw hc
  have CA := Lib.hid ca
  have CB := Lib.hid cb
  clear ca cb
  go_enter Try.func22, Try.ntmps22
  go_wp2_with fail
  refine (CA.out _).mono ?_; rintro e w' ⟨rfl, rfl⟩
  go_wp2_with fail
  refine (CB.out _).mono ?_; rintro e w' ⟨rfl, rfl⟩
  go_wp2_with fail
  refine (hn.out _).mono ?_; rintro e w' ⟨rfl, rfl⟩
  go_wp2_with fail
  refine (ref_cut_64 _ _ (by first | omega | exact (u64_rng _).1) (by first | omega | exact (u64_rng _).2)).mono ?_; rintro e w' ⟨rfl, rfl⟩
  go_wp2_with fail
  go_ret2
  exact ⟨rfl, 0, rfl⟩

set_option maxRecDepth 100000 in
set_option maxHeartbeats 2000000 in
theorem refd_no_arsh_p_64 (a b x y : Int) (off : Int) (w : World) (ca : refCut64 a x) (cb : refCut64 b y) (hx : 0 ≤ x) (hx' : x ≤ 18446744073709551615) (hy : 0 ≤ y) (hy' : y ≤ 18446744073709551615) (hc : x * 2 < 18446744073709551616) (ho : (off != 0) = true) :
    Calls Try.prog 22 #[.int .u8 192, .bool true, .int .i16 off, .int .u64 a, .int .u64 b] w (Did 0 1 w) := by
  have hn := Lib.hid fun w => ref_neg_64 x false w (beq_eq_false_iff_ne.mpr (by omega))
  have CA := Lib.hid ca
  have CB := Lib.hid cb
  clear ca cb
  go_enter Try.func22, Try.ntmps22
  go_wp2_with fail
  refine (CA.out _).mono ?_; rintro e w' ⟨rfl, rfl⟩
  go_wp2_with fail
  refine (CB.out _).mono ?_; rintro e w' ⟨rfl, rfl⟩
  go_wp2_with fail
  refine (hn.out _).mono ?_; rintro e w' ⟨rfl, rfl⟩
  go_wp2_with fail
  go_ret2
  exact ⟨rfl, 0, rfl⟩

set_option maxRecDepth 100000 in
set_option maxHeartbeats 2000000 in
theorem refd_arsh_n_64 (a b x y : Int) (w : World) (ca : refCut64 a x) (cb : refCut64 b y) (hx : 0 ≤ x) (hx' : x ≤ 18446744073709551615) (hy : 0 ≤ y) (hy' : y ≤ 18446744073709551615) (hc : ¬ x * 2 < 18446744073709551616) :
    Calls Try.prog 22 #[.int .u8 192, .bool true, .int .i16 0, .int .u64 a, .int .u64 b] w (Did (aluZ true 192 0 x y % 18446744073709551616) 0 w) := by
  have hn := Lib.hid fun w => ref_neg_64 x true w (beq_iff_eq.mpr (by omega))
  have q0 := shr_range x (y % 64).toNat hx
  obtain ⟨q1, q2⟩ := q0
  have hz : aluZ true 192 0 x y = wrap64 x / 2 ^ (y % 64).toNat := rfl
  rw [hz]
  clear hz
  have A1 := Lib.hid (arsh_neg_64 x y hx hx' hc)
  have CA := Lib.hid ca
  have CB := Lib.hid cb
  clear ca cb
  go_enter Try.func22, Try.ntmps22
  go_wp2_with fail
  refine (CA.out _).mono ?_; rintro e w' ⟨rfl, rfl⟩
  go_wp2_with fail
  refine (CB.out _).mono ?_; rintro e w' ⟨rfl, rfl⟩
  go_wp2_with fail
  refine (hn.out _).mono ?_; rintro e w' ⟨rfl, rfl⟩
  go_wp2_with fail
  refine (ref_cut_64 _ _ (by decide) (by decide)).mono ?_; rintro e w' ⟨rfl, rfl⟩
  go_wp2_with fail
  refine (ref_cut_64 _ _ (by first | omega | exact (u64_rng _).1) (by first | omega | exact (u64_rng _).2)).mono ?_; rintro e w' ⟨rfl, rfl⟩
  go_wp2_with fail
  go_ret2
  exact ⟨ret_two A1.out rfl, 0, rfl⟩

set_option maxRecDepth 100000 in
set_option maxHeartbeats 2000000 in
theorem refd_no_arsh_n_64 (a b x y : Int) (off : Int) (w : World) (ca : refCut64 a x) (cb : refCut64 b y) (hx : 0 ≤ x) (hx' : x ≤ 18446744073709551615) (hy : 0 ≤ y) (hy' : y ≤ 18446744073709551615) (hc : ¬ x * 2 < 18446744073709551616) (ho : (off != 0) = true) :
    Calls Try.prog 22 #[.int .u8 192, .bool true, .int .i16 off, .int .u64 a, .int .u64 b] w (Did 0 1 w) := by
  have hn := Lib.hid fun w => ref_neg_64 x true w (beq_iff_eq.mpr (by omega))
  have CA := Lib.hid ca
  have CB := Lib.hid cb
  clear ca cb
  go_enter Try.func22, Try.ntmps22
  go_wp2_with fail
  refine (CA.out _).mono ?_; rintro e w' ⟨rfl, rfl⟩
  go_wp2_with fail
  refine (CB.out _).mono ?_; rintro e w' ⟨rfl, rfl⟩
  go_wp2_with fail
  refine (hn.out _).mono ?_; rintro e w' ⟨rfl, rfl⟩
  go_wp2_with fail
  refine (ref_cut_64 _ _ (by decide) (by decide)).mono ?_; rintro e w' ⟨rfl, rfl⟩
  go_wp2_with fail
  go_ret2
  exact ⟨rfl, 0, rfl⟩

set_option maxRecDepth 100000 in
set_option maxHeartbeats 2000000 in
theorem refd_mov0_64 (a b x y : Int) (w : World) (ca : refCut64 a x) (cb : refCut64 b y) (hx : 0 ≤ x) (hx' : x ≤ 18446744073709551615) (hy : 0 ≤ y) (hy' : y ≤ 18446744073709551615) :
    Calls Try.prog 22 #[.int .u8 176, .bool true, .int .i16 0, .int .u64 a, .int .u64 b] w (Did (aluZ true 176 0 x y % 18446744073709551616) 0 w) := by
  have hz : aluZ true 176 0 x y = y := signW_0 y
  rw [hz]
  clear hz
  have CA := Lib.hid ca
  have CB := Lib.hid cb
  clear ca cb
  go_enter Try.func22, Try.ntmps22
  go_wp2_with fail
  refine (CA.out _).mono ?_; rintro e w' ⟨rfl, rfl⟩
  go_wp2_with fail
  refine (CB.out _).mono ?_; rintro e w' ⟨rfl, rfl⟩
  go_wp2_with fail
  refine (ref_cut_64 _ _ (by first | omega | exact (u64_rng _).1) (by first | omega | exact (u64_rng _).2)).mono ?_; rintro e w' ⟨rfl, rfl⟩
  go_wp2_with fail
  go_ret2
  exact ⟨rfl, 0, rfl⟩

set_option maxRecDepth 100000 in
set_option maxHeartbeats 2000000 in
theorem refd_mov8_64 (a b x y : Int) (w : World) (ca : refCut64 a x) (cb : refCut64 b y) (hx : 0 ≤ x) (hx' : x ≤ 18446744073709551615) (hy : 0 ≤ y) (hy' : y ≤ 18446744073709551615) :
    Calls Try.prog 22 #[.int .u8 176, .bool true, .int .i16 8, .int .u64 a, .int .u64 b] w (Did (aluZ true 176 8 x y % 18446744073709551616) 0 w) := by
  have hz : aluZ true 176 8 x y = signW y 8 := rfl
  rw [hz]
  clear hz
  obtain ⟨s0, s1⟩ := signW_range y 8 hy (by omega)
  have CA := Lib.hid ca
  have CB := Lib.hid cb
  clear ca cb
  go_enter Try.func22, Try.ntmps22
  go_wp2_with fail
  refine (CA.out _).mono ?_; rintro e w' ⟨rfl, rfl⟩
  go_wp2_with fail
  refine (CB.out _).mono ?_; rintro e w' ⟨rfl, rfl⟩
  go_wp2_with fail
  refine (ref_sign _ _ _ (by omega) (by omega)).mono ?_; rintro e w' ⟨rfl, rfl⟩
  go_wp2_with fail
  refine (ref_cut_64 _ _ (by omega) (by omega)).mono ?_; rintro e w' ⟨rfl, rfl⟩
  go_wp2_with fail
  go_ret2
  exact ⟨rfl, 0, rfl⟩

set_option maxRecDepth 100000 in
set_option maxHeartbeats 2000000 in
theorem refd_mov16_64 (a b x y : Int) (w : World) (ca : refCut64 a x) (cb : refCut64 b y) (hx : 0 ≤ x) (hx' : x ≤ 18446744073709551615) (hy : 0 ≤ y) (hy' : y ≤ 18446744073709551615) :
    Calls Try.prog 22 #[.int .u8 176, .bool true, .int .i16 16, .int .u64 a, .int .u64 b] w (Did (aluZ true 176 16 x y % 18446744073709551616) 0 w) := by
  have hz : aluZ true 176 16 x y = signW y 16 := rfl
  rw [hz]
  clear hz
  obtain ⟨s0, s1⟩ := signW_range y 16 hy (by omega)
  have CA := Lib.hid ca
  have CB := Lib.hid cb
  clear ca cb
  go_enter Try.func22, Try.ntmps22
  go_wp2_with fail
  refine (CA.out _).mono ?_; rintro e w' ⟨rfl, rfl⟩
  go_wp2_with fail
  refine (CB.out _).mono ?_; rintro e w' ⟨rfl, rfl⟩
  go_wp2_with fail
  refine (ref_sign _ _ _ (by omega) (by omega)).mono ?_; rintro e w' ⟨rfl, rfl⟩
  go_wp2_with fail
  refine (ref_cut_64 _ _ (by omega) (by omega)).mono ?_; rintro e w' ⟨rfl, rfl⟩
  go_wp2_with fail
  go_ret2
  exact ⟨rfl, 0, rfl⟩

set_option maxRecDepth 100000 in
set_option maxHeartbeats 2000000 in
theorem refd_mov32_64 (a b x y : Int) (w : World) (ca : refCut64 a x) (cb : refCut64 b y) (hx : 0 ≤ x) (hx' : x ≤ 18446744073709551615) (hy : 0 ≤ y) (hy' : y ≤ 18446744073709551615) :
    Calls Try.prog 22 #[.int .u8 176, .bool true, .int .i16 32, .int .u64 a, .int .u64 b] w (Did (aluZ true 176 32 x y % 18446744073709551616) 0 w) := by
  have hz : aluZ true 176 32 x y = signW y 32 := rfl
  rw [hz]
  clear hz
  obtain ⟨s0, s1⟩ := signW_range y 32 hy (by omega)
  have CA := Lib.hid ca
  have CB := Lib.hid cb
  clear ca cb
  go_enter Try.func22, Try.ntmps22
  go_wp2_with fail
  refine (CA.out _).mono ?_; rintro e w' ⟨rfl, rfl⟩
  go_wp2_with fail
  refine (CB.out _).mono ?_; rintro e w' ⟨rfl, rfl⟩
  go_wp2_with fail
  refine (ref_sign _ _ _ (by omega) (by omega)).mono ?_; rintro e w' ⟨rfl, rfl⟩
  go_wp2_with fail
  refine (ref_cut_64 _ _ (by omega) (by omega)).mono ?_; rintro e w' ⟨rfl, rfl⟩
  go_wp2_with fail
  go_ret2
  exact ⟨rfl, 0, rfl⟩

set_option maxRecDepth 100000 in
set_option maxHeartbeats 2000000 in
theorem refd_no_mov_64 (a b x y : Int) (off : Int) (w : World) (ca : refCut64 a x) (cb : refCut64 b y) (hx : 0 ≤ x) (hx' : x ≤ 18446744073709551615) (hy : 0 ≤ y) (hy' : y ≤ 18446744073709551615) (ho : (off != 0) = true) (h8 : (off == 8) = false) (h16 : (off == 16) = false) (h32 : (off == 32) = false) :
    Calls Try.prog 22 #[.int .u8 176, .bool true, .int .i16 off, .int .u64 a, .int .u64 b] w (Did 0 1 w) := by
  have CA := Lib.hid ca
  have CB := Lib.hid cb
  clear ca cb
  go_enter Try.func22, Try.ntmps22
  go_wp2_with fail
  refine (CA.out _).mono ?_; rintro e w' ⟨rfl, rfl⟩
  go_wp2_with fail
  refine (CB.out _).mono ?_; rintro e w' ⟨rfl, rfl⟩
  go_wp2_with fail
  all_goals go_ret2
  all_goals exact ⟨rfl, 0, rfl⟩

set_option maxRecDepth 100000 in
set_option maxHeartbeats 2000000 in
theorem refd_div0_64 (a b x y : Int) (w : World) (ca : refCut64 a x) (cb : refCut64 b y) (hx : 0 ≤ x) (hx' : x ≤ 18446744073709551615) (hy : 0 ≤ y) (hy' : y ≤ 18446744073709551615) :
    Calls Try.prog 22 #[.int .u8 48, .bool true, .int .i16 0, .int .u64 a, .int .u64 b] w (Did (aluZ true 48 0 x y % 18446744073709551616) 0 w) := by
  have hp := Lib.hid fun w => ref_parts_u_64 x y w hx hx' hy hy'
  have CA := Lib.hid ca
  have CB := Lib.hid cb
  clear ca cb
  go_enter Try.func22, Try.ntmps22
  go_wp2_with fail
  refine (CA.out _).mono ?_; rintro e w' ⟨rfl, rfl⟩
  go_wp2_with fail
  refine (CB.out _).mono ?_; rintro e w' ⟨rfl, rfl⟩
  go_wp2_with fail
  refine (hp.out _).mono ?_; rintro e w' ⟨rfl, n, rfl⟩
  go_wp2_with fail
  go_ret2
  exact ⟨rfl, _, rfl⟩

set_option maxRecDepth 100000 in
set_option maxHeartbeats 2000000 in
theorem refd_div1_64 (a b x y : Int) (w : World) (ca : refCut64 a x) (cb : refCut64 b y) (hx : 0 ≤ x) (hx' : x ≤ 18446744073709551615) (hy : 0 ≤ y) (hy' : y ≤ 18446744073709551615) :
    Calls Try.prog 22 #[.int .u8 48, .bool true, .int .i16 1, .int .u64 a, .int .u64 b] w (Did (aluZ true 48 1 x y % 18446744073709551616) 0 w) := by
  have hp := Lib.hid fun w => ref_parts_1_64 x y w hx hx' hy hy'
  have CA := Lib.hid ca
  have CB := Lib.hid cb
  clear ca cb
  go_enter Try.func22, Try.ntmps22
  go_wp2_with fail
  refine (CA.out _).mono ?_; rintro e w' ⟨rfl, rfl⟩
  go_wp2_with fail
  refine (CB.out _).mono ?_; rintro e w' ⟨rfl, rfl⟩
  go_wp2_with fail
  refine (hp.out _).mono ?_; rintro e w' ⟨rfl, n, rfl⟩
  go_wp2_with fail
  go_ret2
  exact ⟨rfl, _, rfl⟩

set_option maxRecDepth 100000 in
set_option maxHeartbeats 2000000 in
theorem refd_no_div_64 (a b x y : Int) (off : Int) (w : World) (ca : refCut64 a x) (cb : refCut64 b y) (hx : 0 ≤ x) (hx' : x ≤ 18446744073709551615) (hy : 0 ≤ y) (hy' : y ≤ 18446744073709551615) (ho : (off != 0) = true) (h1 : (off != 1) = true) :
    Calls Try.prog 22 #[.int .u8 48, .bool true, .int .i16 off, .int .u64 a, .int .u64 b] w (Did 0 1 w) := by
  have CA := Lib.hid ca
  have CB := Lib.hid cb
  clear ca cb
  go_enter Try.func22, Try.ntmps22
  go_wp2_with fail
  refine (CA.out _).mono ?_; rintro e w' ⟨rfl, rfl⟩
  go_wp2_with fail
  refine (CB.out _).mono ?_; rintro e w' ⟨rfl, rfl⟩
  go_wp2_with fail
  go_ret2
  exact ⟨rfl, 0, rfl⟩

set_option maxRecDepth 100000 in
set_option maxHeartbeats 2000000 in
theorem refd_mod0_64 (a b x y : Int) (w : World) (ca : refCut64 a x) (cb : refCut64 b y) (hx : 0 ≤ x) (hx' : x ≤ 18446744073709551615) (hy : 0 ≤ y) (hy' : y ≤ 18446744073709551615) :
    Calls Try.prog 22 #[.int .u8 144, .bool true, .int .i16 0, .int .u64 a, .int .u64 b] w (Did (aluZ true 144 0 x y % 18446744073709551616) 0 w) := by
  have hp := Lib.hid fun w => ref_parts_u_64 x y w hx hx' hy hy'
  have CA := Lib.hid ca
  have CB := Lib.hid cb
  clear ca cb
  go_enter Try.func22, Try.ntmps22
  go_wp2_with fail
  refine (CA.out _).mono ?_; rintro e w' ⟨rfl, rfl⟩
  go_wp2_with fail
  refine (CB.out _).mono ?_; rintro e w' ⟨rfl, rfl⟩
  go_wp2_with fail
  refine (hp.out _).mono ?_; rintro e w' ⟨rfl, n, rfl⟩
  go_wp2_with fail
  go_ret2
  exact ⟨rfl, _, rfl⟩

set_option maxRecDepth 100000 in
set_option maxHeartbeats 2000000 in
theorem refd_mod1_64 (a b x y : Int) (w : World) (ca : refCut64 a x) (cb : refCut64 b y) (hx : 0 ≤ x) (hx' : x ≤ 18446744073709551615) (hy : 0 ≤ y) (hy' : y ≤ 18446744073709551615) :
    Calls Try.prog 22 #[.int .u8 144, .bool true, .int .i16 1, .int .u64 a, .int .u64 b] w (Did (aluZ true 144 1 x y % 18446744073709551616) 0 w) := by
  have hp := Lib.hid fun w => ref_parts_1_64 x y w hx hx' hy hy'
  have CA := Lib.hid ca
  have CB := Lib.hid cb
  clear ca cb
  go_enter Try.func22, Try.ntmps22
  go_wp2_with fail
  refine (CA.out _).mono ?_; rintro e w' ⟨rfl, rfl⟩
  go_wp2_with fail
  refine (CB.out _).mono ?_; rintro e w' ⟨rfl, rfl⟩
  go_wp2_with fail
  refine (hp.out _).mono ?_; rintro e w' ⟨rfl, n, rfl⟩
  go_wp2_with fail
  go_ret2
  exact ⟨rfl, _, rfl⟩

set_option maxRecDepth 100000 in
set_option maxHeartbeats 2000000 in
theorem refd_no_mod_64 (a b x y : Int) (off : Int) (w : World) (ca : refCut64 a x) (cb : refCut64 b y) (hx : 0 ≤ x) (hx' : x ≤ 18446744073709551615) (hy : 0 ≤ y) (hy' : y ≤ 18446744073709551615) (ho : (off != 0) = true) (h1 : (off != 1) = true) :
    Calls Try.prog 22 #[.int .u8 144, .bool true, .int .i16 off, .int .u64 a, .int .u64 b] w (Did 0 1 w) := by
  have CA := Lib.hid ca
  have CB := Lib.hid cb
  clear ca cb
  go_enter Try.func22, Try.ntmps22
  go_wp2_with fail
  refine (CA.out _).mono ?_; rintro e w' ⟨rfl, rfl⟩
  go_wp2_with fail
  refine (CB.out _).mono ?_; rintro e w' ⟨rfl, rfl⟩
  go_wp2_with fail
  go_ret2
  exact ⟨rfl, 0, rfl⟩

set_option maxRecDepth 100000 in
set_option maxHeartbeats 2000000 in
theorem refd_none_64 (op off : Int) (a b x y : Int) (w : World) (ca : refCut64 a x) (cb : refCut64 b y) (hx : 0 ≤ x) (hx' : x ≤ 18446744073709551615) (hy : 0 ≤ y) (hy' : y ≤ 18446744073709551615) (k0 : (op == 0) = false) (k16 : (op == 16) = false) (k32 : (op == 32) = false) (k64 : (op == 64) = false) (k80 : (op == 80) = false) (k160 : (op == 160) = false) (k96 : (op == 96) = false) (k112 : (op == 112) = false) (k192 : (op == 192) = false) (k128 : (op == 128) = false) (k176 : (op == 176) = false) (k48 : (op == 48) = false) (k144 : (op == 144) = false) :
    Calls Try.prog 22 #[.int .u8 op, .bool true, .int .i16 off, .int .u64 a, .int .u64 b] w (Did 0 1 w) := by
  have CA := Lib.hid ca
  have CB := Lib.hid cb
  clear ca cb
  go_enter Try.func22, Try.ntmps22
  go_wp2_with fail
  refine (CA.out _).mono ?_; rintro e w' ⟨rfl, rfl⟩
  go_wp2_with fail
  refine (CB.out _).mono ?_; rintro e w' ⟨rfl, rfl⟩
  go_wp2_with fail
  go_ret2
  exact ⟨rfl, 0, rfl⟩

end Go.Proofs.Ytpnobkaeoiaelaa
