/-
  The document's own Do of layer 2, wide, of the eight ops that layer 4 does.
  Conditions: none.
-/
import Derived.Test.YtkiekbkjhlbnhaaRef02Sign
import Derived.Test.YtkiekbkjhlbnhaaTnumLaws
namespace Go.Proofs.Ytkiekbkjhlbnhaa
open Go.RowKit
set_option linter.unusedVariables false

/-- A number, and no error; nothing turned. -/
def Num (z : BitVec 64) (w : World) (e : Ending) (w' : World) : Prop := e = .returned (.tuple #[uV z, .int .i64 0]) ∧ w = w'
theorem bv_mul' (x y : BitVec 64) : IntKind.u64.wrap ((x.toNat : Int) * (y.toNat : Int)) = ((x * y).toNat : Int) := by rw [IntKind.wrap_u64, bv_mul]
theorem e8_add' (x y : BitVec 64) : IntKind.u64.wrap ((x.toNat : Int) + (y.toNat : Int)) = ((x + y).toNat : Int) := by rw [IntKind.wrap_u64, bv_add]
theorem e8_sub' (x y : BitVec 64) : IntKind.u64.wrap ((x.toNat : Int) - (y.toNat : Int)) = ((x - y).toNat : Int) := by rw [IntKind.wrap_u64, bv_sub]
theorem e8_shl' (x : BitVec 64) (k : Nat) : IntKind.u64.wrap ((x.toNat : Int) * 2 ^ k) = ((x <<< k).toNat : Int) := by rw [IntKind.wrap_u64, bv_shl]

set_option maxRecDepth 100000 in
set_option maxHeartbeats 2000000 in
theorem r8_add (x y : BitVec 64) (w : World) : Calls Try.prog 27 #[.int .u8 0, .bool true, .int .i16 0, uV x, uV y] w (Num (x + y) w) := by
  have CA := Lib.hid (fun w => rcut_64 (x.toNat : Int) w (bv_rng x).1 (bv_rng x).2)
  have CB := Lib.hid (fun w => rcut_64 (y.toNat : Int) w (bv_rng y).1 (bv_rng y).2)
  have CZ := Lib.hid (fun w => rcut_64 ((x + y).toNat : Int) w (bv_rng _).1 (bv_rng _).2)
  have hv := e8_add' x y
  generalize hz : x + y = z at *
  clear hz
  go_enter Try.func27, Try.ntmps27
  go_wp2_with fail
  refine (CA.out _).mono ?_; rintro e w' ⟨rfl, rfl⟩
  go_wp2_with fail
  refine (CB.out _).mono ?_; rintro e w' ⟨rfl, rfl⟩
  go_wp2_with fail
  refine (CZ.out _).mono ?_; rintro e w' ⟨rfl, rfl⟩
  go_wp2_with fail
  go_ret2
  exact ⟨rfl, rfl⟩

set_option maxRecDepth 100000 in
set_option maxHeartbeats 2000000 in
theorem r8_sub (x y : BitVec 64) (w : World) : Calls Try.prog 27 #[.int .u8 16, .bool true, .int .i16 0, uV x, uV y] w (Num (x - y) w) := by
  have CA := Lib.hid (fun w => rcut_64 (x.toNat : Int) w (bv_rng x).1 (bv_rng x).2)
  have CB := Lib.hid (fun w => rcut_64 (y.toNat : Int) w (bv_rng y).1 (bv_rng y).2)
  have CZ := Lib.hid (fun w => rcut_64 ((x - y).toNat : Int) w (bv_rng _).1 (bv_rng _).2)
  have hv := e8_sub' x y
  generalize hz : x - y = z at *
  clear hz
  go_enter Try.func27, Try.ntmps27
  go_wp2_with fail
  refine (CA.out _).mono ?_; rintro e w' ⟨rfl, rfl⟩
  go_wp2_with fail
  refine (CB.out _).mono ?_; rintro e w' ⟨rfl, rfl⟩
  go_wp2_with fail
  refine (CZ.out _).mono ?_; rintro e w' ⟨rfl, rfl⟩
  go_wp2_with fail
  go_ret2
  exact ⟨rfl, rfl⟩

set_option maxRecDepth 100000 in
set_option maxHeartbeats 2000000 in
theorem r8_mul (x y : BitVec 64) (w : World) : Calls Try.prog 27 #[.int .u8 32, .bool true, .int .i16 0, uV x, uV y] w (Num (x * y) w) := by
  have CA := Lib.hid (fun w => rcut_64 (x.toNat : Int) w (bv_rng x).1 (bv_rng x).2)
  have CB := Lib.hid (fun w => rcut_64 (y.toNat : Int) w (bv_rng y).1 (bv_rng y).2)
  have CZ := Lib.hid (fun w => rcut_64 ((x * y).toNat : Int) w (bv_rng _).1 (bv_rng _).2)
  have hv := bv_mul' x y
  generalize hz : x * y = z at *
  clear hz
  go_enter Try.func27, Try.ntmps27
  go_wp2_with fail
  refine (CA.out _).mono ?_; rintro e w' ⟨rfl, rfl⟩
  go_wp2_with fail
  refine (CB.out _).mono ?_; rintro e w' ⟨rfl, rfl⟩
  go_wp2_with fail
  refine (CZ.out _).mono ?_; rintro e w' ⟨rfl, rfl⟩
  go_wp2_with fail
  go_ret2
  exact ⟨rfl, rfl⟩

set_option maxRecDepth 100000 in
set_option maxHeartbeats 2000000 in
theorem r8_or (x y : BitVec 64) (w : World) : Calls Try.prog 27 #[.int .u8 64, .bool true, .int .i16 0, uV x, uV y] w (Num (x ||| y) w) := by
  have CA := Lib.hid (fun w => rcut_64 (x.toNat : Int) w (bv_rng x).1 (bv_rng x).2)
  have CB := Lib.hid (fun w => rcut_64 (y.toNat : Int) w (bv_rng y).1 (bv_rng y).2)
  have CZ := Lib.hid (fun w => rcut_64 ((x ||| y).toNat : Int) w (bv_rng _).1 (bv_rng _).2)
  have hv := bv_or x y
  generalize hz : x ||| y = z at *
  clear hz
  go_enter Try.func27, Try.ntmps27
  go_wp2_with fail
  refine (CA.out _).mono ?_; rintro e w' ⟨rfl, rfl⟩
  go_wp2_with fail
  refine (CB.out _).mono ?_; rintro e w' ⟨rfl, rfl⟩
  go_wp2_with fail
  refine (CZ.out _).mono ?_; rintro e w' ⟨rfl, rfl⟩
  go_wp2_with fail
  go_ret2
  exact ⟨rfl, rfl⟩

set_option maxRecDepth 100000 in
set_option maxHeartbeats 2000000 in
theorem r8_and (x y : BitVec 64) (w : World) : Calls Try.prog 27 #[.int .u8 80, .bool true, .int .i16 0, uV x, uV y] w (Num (x &&& y) w) := by
  have CA := Lib.hid (fun w => rcut_64 (x.toNat : Int) w (bv_rng x).1 (bv_rng x).2)
  have CB := Lib.hid (fun w => rcut_64 (y.toNat : Int) w (bv_rng y).1 (bv_rng y).2)
  have CZ := Lib.hid (fun w => rcut_64 ((x &&& y).toNat : Int) w (bv_rng _).1 (bv_rng _).2)
  have hv := bv_and x y
  generalize hz : x &&& y = z at *
  clear hz
  go_enter Try.func27, Try.ntmps27
  go_wp2_with fail
  refine (CA.out _).mono ?_; rintro e w' ⟨rfl, rfl⟩
  go_wp2_with fail
  refine (CB.out _).mono ?_; rintro e w' ⟨rfl, rfl⟩
  go_wp2_with fail
  refine (CZ.out _).mono ?_; rintro e w' ⟨rfl, rfl⟩
  go_wp2_with fail
  go_ret2
  exact ⟨rfl, rfl⟩

set_option maxRecDepth 100000 in
set_option maxHeartbeats 2000000 in
theorem r8_xor (x y : BitVec 64) (w : World) : Calls Try.prog 27 #[.int .u8 160, .bool true, .int .i16 0, uV x, uV y] w (Num (x ^^^ y) w) := by
  have CA := Lib.hid (fun w => rcut_64 (x.toNat : Int) w (bv_rng x).1 (bv_rng x).2)
  have CB := Lib.hid (fun w => rcut_64 (y.toNat : Int) w (bv_rng y).1 (bv_rng y).2)
  have CZ := Lib.hid (fun w => rcut_64 ((x ^^^ y).toNat : Int) w (bv_rng _).1 (bv_rng _).2)
  have hv := bv_xor x y
  generalize hz : x ^^^ y = z at *
  clear hz
  go_enter Try.func27, Try.ntmps27
  go_wp2_with fail
  refine (CA.out _).mono ?_; rintro e w' ⟨rfl, rfl⟩
  go_wp2_with fail
  refine (CB.out _).mono ?_; rintro e w' ⟨rfl, rfl⟩
  go_wp2_with fail
  refine (CZ.out _).mono ?_; rintro e w' ⟨rfl, rfl⟩
  go_wp2_with fail
  go_ret2
  exact ⟨rfl, rfl⟩

set_option maxRecDepth 100000 in
set_option maxHeartbeats 2000000 in
theorem r8_lsh (x y : BitVec 64) (w : World) : Calls Try.prog 27 #[.int .u8 96, .bool true, .int .i16 0, uV x, uV y] w (Num (x <<< (y.toNat % 64)) w) := by
  have CA := Lib.hid (fun w => rcut_64 (x.toNat : Int) w (bv_rng x).1 (bv_rng x).2)
  have CB := Lib.hid (fun w => rcut_64 (y.toNat : Int) w (bv_rng y).1 (bv_rng y).2)
  have CZ := Lib.hid (fun w => rcut_64 ((x <<< (y.toNat % 64)).toNat : Int) w (bv_rng _).1 (bv_rng _).2)
  have hy := (bv_rng y).1
  have hk : ((y.toNat : Int) % 64).toNat = y.toNat % 64 := by omega
  have hv := e8_shl' x (y.toNat % 64)
  generalize hz : x <<< (y.toNat % 64) = z at *
  clear hz
  generalize y.toNat % 64 = k at *
  go_enter Try.func27, Try.ntmps27
  go_wp2_with fail
  refine (CA.out _).mono ?_; rintro e w' ⟨rfl, rfl⟩
  go_wp2_with fail
  refine (CB.out _).mono ?_; rintro e w' ⟨rfl, rfl⟩
  go_wp2_with fail
  refine (CZ.out _).mono ?_; rintro e w' ⟨rfl, rfl⟩
  go_wp2_with fail
  go_ret2
  exact ⟨rfl, rfl⟩

set_option maxRecDepth 100000 in
set_option maxHeartbeats 2000000 in
theorem r8_rsh (x y : BitVec 64) (w : World) : Calls Try.prog 27 #[.int .u8 112, .bool true, .int .i16 0, uV x, uV y] w (Num (x >>> (y.toNat % 64)) w) := by
  have CA := Lib.hid (fun w => rcut_64 (x.toNat : Int) w (bv_rng x).1 (bv_rng x).2)
  have CB := Lib.hid (fun w => rcut_64 (y.toNat : Int) w (bv_rng y).1 (bv_rng y).2)
  have CZ := Lib.hid (fun w => rcut_64 ((x >>> (y.toNat % 64)).toNat : Int) w (bv_rng _).1 (bv_rng _).2)
  have hy := (bv_rng y).1
  have hk : ((y.toNat : Int) % 64).toNat = y.toNat % 64 := by omega
  have hv := bv_shr x (y.toNat % 64)
  generalize hz : x >>> (y.toNat % 64) = z at *
  clear hz
  generalize y.toNat % 64 = k at *
  go_enter Try.func27, Try.ntmps27
  go_wp2_with fail
  refine (CA.out _).mono ?_; rintro e w' ⟨rfl, rfl⟩
  go_wp2_with fail
  refine (CB.out _).mono ?_; rintro e w' ⟨rfl, rfl⟩
  go_wp2_with fail
  refine (CZ.out _).mono ?_; rintro e w' ⟨rfl, rfl⟩
  go_wp2_with fail
  go_ret2
  exact ⟨rfl, rfl⟩

theorem ref8 {op : Int} {a b : Tn} (h : tDok op a b = true) (x y : BitVec 64) (w : World) : Calls Try.prog 27 #[.int .u8 op, .bool true, .int .i16 0, uV x, uV y] w (Num (bvDo op x y) w) := by
  obtain ⟨_, ho⟩ := dok_ops h
  rcases ho with rfl | rfl | rfl | rfl | rfl | rfl | ⟨rfl | rfl, _⟩
  · exact r8_add x y w
  · exact r8_sub x y w
  · exact r8_mul x y w
  · exact r8_and x y w
  · exact r8_or x y w
  · exact r8_xor x y w
  · exact r8_lsh x y w
  · exact r8_rsh x y w

end Go.Proofs.Ytkiekbkjhlbnhaa
