/-
  'parts' of the document's own answers of layer 2, walked.
  Conditions: the numbers are cut to the width.
-/
import Derived.Test.YtpnobkaeoiaelaaRef02Div
namespace Go.Proofs.Ytpnobkaeoiaelaa
open Go.RowKit
set_option linter.unusedVariables false

theorem u64_rng (z : Int) : 0 ≤ IntKind.u64.wrap z ∧ IntKind.u64.wrap z ≤ 18446744073709551615 := by rw [IntKind.wrap_u64]; omega
theorem szOf_range (M x : Int) (h0 : 0 ≤ x) (h1 : x < M) : 0 ≤ szOf M x ∧ szOf M x ≤ M := by unfold szOf; split <;> omega
theorem szOf_pos (M x : Int) (h0 : 1 ≤ x) (h1 : x < M) : 1 ≤ szOf M x := by unfold szOf; split <;> omega

set_option maxHeartbeats 1000000 in
theorem ref_parts_u_64 (x y : Int) (w : World) (hx : 0 ≤ x) (hx' : x ≤ 18446744073709551615) (hy : 0 ≤ y) (hy' : y ≤ 18446744073709551615) :
    Calls Try.prog 32 #[.int .u64 x, .int .u64 y, .int .i64 64, .bool false] w (Parted (aluZ true 48 0 x y % 18446744073709551616) (aluZ true 144 0 x y % 18446744073709551616) w) := by
  have z1 : aluZ true 48 0 x y = x / y := rfl
  have z2 : aluZ true 144 0 x y = x % y := rfl
  rw [z1, z2]
  clear z1 z2
  by_cases h0 : y = 0
  · subst h0
    have e1 := Lib.hid (show x = x % 0 % 18446744073709551616 by rw [Int.emod_zero]; omega)
    go_enter Try.func32, Try.ntmps32
    go_wp2
    go_ret2
    exact ⟨ret_two (by rw [Int.ediv_zero]; rfl) e1.out, 0, rfl⟩
  · have h1 : 1 ≤ y := by omega
    have q := quo_range x y hx h1
    have e1 := Lib.hid (Int.emod_eq_of_lt q.1.1 (b := 18446744073709551616) (by omega)).symm
    have e2 := Lib.hid (Int.emod_eq_of_lt q.2.1.1 (b := 18446744073709551616) (by omega)).symm
    clear q h0
    go_enter Try.func32, Try.ntmps32
    go_wp2
    go_quiet (fail)
    go_wp2
    go_ret2
    exact ⟨ret_two e1.out e2.out, _, rfl⟩

theorem ref_parts_z_64 (x : Int) (w : World) (hx : 0 ≤ x) (hx' : x ≤ 18446744073709551615) :
    Calls Try.prog 32 #[.int .u64 x, .int .u64 0, .int .i64 64, .bool true] w (Parted (aluZ true 48 1 x 0 % 18446744073709551616) (aluZ true 144 1 x 0 % 18446744073709551616) w) := by
  have z1 : aluZ true 48 1 x 0 = wrap64 ((wrap64 x).tdiv (wrap64 0)) := rfl
  have z2 : aluZ true 144 1 x 0 = (wrap64 x).tmod (wrap64 0) := rfl
  have z3 : wrap64 0 = 0 := by unfold wrap64; decide
  rw [z1, z2, wrap64_mod, z3, Int.tdiv_zero, Int.tmod_zero, wrap64_mod]
  clear z1 z2 z3
  go_enter Try.func32, Try.ntmps32
  go_wp2
  go_ret2
  exact ⟨ret_two rfl (by omega), 0, rfl⟩

set_option maxHeartbeats 1000000 in
theorem ref_parts_s_64 (x y : Int) (w : World) (hx : 0 ≤ x) (hx' : x ≤ 18446744073709551615) (hy : 1 ≤ y) (hy' : y ≤ 18446744073709551615) :
    Calls Try.prog 32 #[.int .u64 x, .int .u64 y, .int .i64 64, .bool true] w (Parted (aluZ true 48 1 x y % 18446744073709551616) (aluZ true 144 1 x y % 18446744073709551616) w) := by
  obtain ⟨c1, c2, c3, c4⟩ := parts_plain_64 x y hx hx' hy hy'
  have sx := Lib.hid fun w => ref_size_64 x w hx hx'
  have sy := Lib.hid fun w => ref_size_64 y w (by omega) hy'
  have rx := szOf_range 18446744073709551616 x hx (by omega)
  have ry := szOf_range 18446744073709551616 y (by omega) (by omega)
  have py := szOf_pos 18446744073709551616 y hy (by omega)
  generalize hX : szOf 18446744073709551616 x = X at *
  generalize hY : szOf 18446744073709551616 y = Y at *
  have hXn : x * 2 < 18446744073709551616 → X ≤ 9223372036854775808 := fun h => by rw [← hX]; unfold szOf; rw [if_pos h]; omega
  have hXm : ¬ x * 2 < 18446744073709551616 → X ≤ 9223372036854775808 := fun h => by rw [← hX]; unfold szOf; rw [if_neg h]; omega
  have X1 : X ≤ 9223372036854775808 := by by_cases h : x * 2 < 18446744073709551616; exact hXn h; exact hXm h
  have hYm : Y ≤ 9223372036854775808 := by rw [← hY]; unfold szOf; split <;> omega
  obtain ⟨X0, _⟩ := rx
  have q := quo_range X Y X0 py
  have eq0 := Lib.hid (show X / Y = X / Y % 18446744073709551616 by omega)
  have er0 := Lib.hid (show X % Y = X % Y % 18446744073709551616 by omega)
  have en : ∀ z : Int, IntKind.u64.wrap (-z) % 18446744073709551616 = (-z) % 18446744073709551616 := fun z => by rw [IntKind.wrap_u64, Int.emod_emod_of_dvd _ (by decide)]
  have EN := Lib.hid en
  have yn : (y == 0) = false := beq_eq_false_iff_ne.mpr (by omega)
  clear hX hY hXn hXm q en ry
  by_cases kx : x * 2 < 18446744073709551616
  all_goals by_cases ky : y * 2 < 18446744073709551616
  · obtain ⟨e1, e2⟩ := c1 kx ky
    rw [e1, e2]
    have nx := Lib.hid fun w => ref_neg_64 x false w (beq_eq_false_iff_ne.mpr (by omega))
    have ny := Lib.hid fun w => ref_neg_64 y false w (beq_eq_false_iff_ne.mpr (by omega))
    clear e1 e2 c1 c2 c3 c4 kx ky
    go_enter Try.func32, Try.ntmps32
    go_wp2_with fail
    refine (sx.out _).mono ?_; rintro e w' ⟨rfl, rfl⟩
    go_wp2_with fail
    refine (sy.out _).mono ?_; rintro e w' ⟨rfl, rfl⟩
    go_wp2_with fail
    refine (sx.out _).mono ?_; rintro e w' ⟨rfl, rfl⟩
    go_wp2_with fail
    refine (sy.out _).mono ?_; rintro e w' ⟨rfl, rfl⟩
    go_wp2_with fail
    refine (nx.out _).mono ?_; rintro e w' ⟨rfl, rfl⟩
    go_wp2_with fail
    refine (ny.out _).mono ?_; rintro e w' ⟨rfl, rfl⟩
    go_wp2_with fail
    refine (nx.out _).mono ?_; rintro e w' ⟨rfl, rfl⟩
    go_wp2_with fail
    go_ret2
    exact ⟨ret_two rfl rfl, 0, rfl⟩
  · obtain ⟨e1, e2⟩ := c2 kx ky
    rw [e1, e2]
    have nx := Lib.hid fun w => ref_neg_64 x false w (beq_eq_false_iff_ne.mpr (by omega))
    have ny := Lib.hid fun w => ref_neg_64 y true w (beq_iff_eq.mpr (by omega))
    clear e1 e2 c1 c2 c3 c4 kx ky
    go_enter Try.func32, Try.ntmps32
    go_wp2_with fail
    refine (sx.out _).mono ?_; rintro e w' ⟨rfl, rfl⟩
    go_wp2_with fail
    refine (sy.out _).mono ?_; rintro e w' ⟨rfl, rfl⟩
    go_wp2_with fail
    refine (sx.out _).mono ?_; rintro e w' ⟨rfl, rfl⟩
    go_wp2_with fail
    refine (sy.out _).mono ?_; rintro e w' ⟨rfl, rfl⟩
    go_wp2_with fail
    refine (nx.out _).mono ?_; rintro e w' ⟨rfl, rfl⟩
    go_wp2_with fail
    refine (ny.out _).mono ?_; rintro e w' ⟨rfl, rfl⟩
    go_wp2_with fail
    refine (ref_cut_64 _ _ (u64_rng _).1 (u64_rng _).2).mono ?_; rintro e w' ⟨rfl, rfl⟩
    go_wp2_with fail
    refine (nx.out _).mono ?_; rintro e w' ⟨rfl, rfl⟩
    go_wp2_with fail
    go_ret2
    exact ⟨ret_two (EN.out _) rfl, 0, rfl⟩
  · obtain ⟨e1, e2⟩ := c3 kx ky
    rw [e1, e2]
    have nx := Lib.hid fun w => ref_neg_64 x true w (beq_iff_eq.mpr (by omega))
    have ny := Lib.hid fun w => ref_neg_64 y false w (beq_eq_false_iff_ne.mpr (by omega))
    clear e1 e2 c1 c2 c3 c4 kx ky
    go_enter Try.func32, Try.ntmps32
    go_wp2_with fail
    refine (sx.out _).mono ?_; rintro e w' ⟨rfl, rfl⟩
    go_wp2_with fail
    refine (sy.out _).mono ?_; rintro e w' ⟨rfl, rfl⟩
    go_wp2_with fail
    refine (sx.out _).mono ?_; rintro e w' ⟨rfl, rfl⟩
    go_wp2_with fail
    refine (sy.out _).mono ?_; rintro e w' ⟨rfl, rfl⟩
    go_wp2_with fail
    refine (nx.out _).mono ?_; rintro e w' ⟨rfl, rfl⟩
    go_wp2_with fail
    refine (ny.out _).mono ?_; rintro e w' ⟨rfl, rfl⟩
    go_wp2_with fail
    refine (ref_cut_64 _ _ (u64_rng _).1 (u64_rng _).2).mono ?_; rintro e w' ⟨rfl, rfl⟩
    go_wp2_with fail
    refine (nx.out _).mono ?_; rintro e w' ⟨rfl, rfl⟩
    go_wp2_with fail
    refine (ref_cut_64 _ _ (u64_rng _).1 (u64_rng _).2).mono ?_; rintro e w' ⟨rfl, rfl⟩
    go_wp2_with fail
    go_ret2
    exact ⟨ret_two (EN.out _) (EN.out _), 0, rfl⟩
  · obtain ⟨e1, e2⟩ := c4 kx ky
    rw [e1, e2]
    have nx := Lib.hid fun w => ref_neg_64 x true w (beq_iff_eq.mpr (by omega))
    have ny := Lib.hid fun w => ref_neg_64 y true w (beq_iff_eq.mpr (by omega))
    clear e1 e2 c1 c2 c3 c4 kx ky
    go_enter Try.func32, Try.ntmps32
    go_wp2_with fail
    refine (sx.out _).mono ?_; rintro e w' ⟨rfl, rfl⟩
    go_wp2_with fail
    refine (sy.out _).mono ?_; rintro e w' ⟨rfl, rfl⟩
    go_wp2_with fail
    refine (sx.out _).mono ?_; rintro e w' ⟨rfl, rfl⟩
    go_wp2_with fail
    refine (sy.out _).mono ?_; rintro e w' ⟨rfl, rfl⟩
    go_wp2_with fail
    refine (nx.out _).mono ?_; rintro e w' ⟨rfl, rfl⟩
    go_wp2_with fail
    refine (ny.out _).mono ?_; rintro e w' ⟨rfl, rfl⟩
    go_wp2_with fail
    refine (nx.out _).mono ?_; rintro e w' ⟨rfl, rfl⟩
    go_wp2_with fail
    refine (ref_cut_64 _ _ (u64_rng _).1 (u64_rng _).2).mono ?_; rintro e w' ⟨rfl, rfl⟩
    go_wp2_with fail
    go_ret2
    exact ⟨ret_two rfl (EN.out _), 0, rfl⟩

set_option maxHeartbeats 1000000 in
theorem ref_parts_u_32 (x y : Int) (w : World) (hx : 0 ≤ x) (hx' : x ≤ 4294967295) (hy : 0 ≤ y) (hy' : y ≤ 4294967295) :
    Calls Try.prog 32 #[.int .u64 x, .int .u64 y, .int .i64 32, .bool false] w (Parted (aluZ false 48 0 x y % 4294967296) (aluZ false 144 0 x y % 4294967296) w) := by
  have z1 : aluZ false 48 0 x y = x / y := rfl
  have z2 : aluZ false 144 0 x y = x % y := rfl
  rw [z1, z2]
  clear z1 z2
  by_cases h0 : y = 0
  · subst h0
    have e1 := Lib.hid (show x = x % 0 % 4294967296 by rw [Int.emod_zero]; omega)
    go_enter Try.func32, Try.ntmps32
    go_wp2
    go_ret2
    exact ⟨ret_two (by rw [Int.ediv_zero]; rfl) e1.out, 0, rfl⟩
  · have h1 : 1 ≤ y := by omega
    have q := quo_range x y hx h1
    have e1 := Lib.hid (Int.emod_eq_of_lt q.1.1 (b := 4294967296) (by omega)).symm
    have e2 := Lib.hid (Int.emod_eq_of_lt q.2.1.1 (b := 4294967296) (by omega)).symm
    clear q h0
    go_enter Try.func32, Try.ntmps32
    go_wp2
    go_quiet (fail)
    go_wp2
    go_ret2
    exact ⟨ret_two e1.out e2.out, _, rfl⟩

theorem ref_parts_z_32 (x : Int) (w : World) (hx : 0 ≤ x) (hx' : x ≤ 4294967295) :
    Calls Try.prog 32 #[.int .u64 x, .int .u64 0, .int .i64 32, .bool true] w (Parted (aluZ false 48 1 x 0 % 4294967296) (aluZ false 144 1 x 0 % 4294967296) w) := by
  have z1 : aluZ false 48 1 x 0 = wrap32 ((wrap32 x).tdiv (wrap32 0)) := rfl
  have z2 : aluZ false 144 1 x 0 = (wrap32 x).tmod (wrap32 0) := rfl
  have z3 : wrap32 0 = 0 := by unfold wrap32; decide
  rw [z1, z2, wrap32_mod, z3, Int.tdiv_zero, Int.tmod_zero, wrap32_mod]
  clear z1 z2 z3
  go_enter Try.func32, Try.ntmps32
  go_wp2
  go_ret2
  exact ⟨ret_two rfl (by omega), 0, rfl⟩

set_option maxHeartbeats 1000000 in
theorem ref_parts_s_32 (x y : Int) (w : World) (hx : 0 ≤ x) (hx' : x ≤ 4294967295) (hy : 1 ≤ y) (hy' : y ≤ 4294967295) :
    Calls Try.prog 32 #[.int .u64 x, .int .u64 y, .int .i64 32, .bool true] w (Parted (aluZ false 48 1 x y % 4294967296) (aluZ false 144 1 x y % 4294967296) w) := by
  obtain ⟨c1, c2, c3, c4⟩ := parts_plain_32 x y hx hx' hy hy'
  have sx := Lib.hid fun w => ref_size_32 x w hx hx'
  have sy := Lib.hid fun w => ref_size_32 y w (by omega) hy'
  have rx := szOf_range 4294967296 x hx (by omega)
  have ry := szOf_range 4294967296 y (by omega) (by omega)
  have py := szOf_pos 4294967296 y hy (by omega)
  generalize hX : szOf 4294967296 x = X at *
  generalize hY : szOf 4294967296 y = Y at *
  have hXn : x * 2 < 4294967296 → X ≤ 2147483648 := fun h => by rw [← hX]; unfold szOf; rw [if_pos h]; omega
  have hXm : ¬ x * 2 < 4294967296 → X ≤ 2147483648 := fun h => by rw [← hX]; unfold szOf; rw [if_neg h]; omega
  have X1 : X ≤ 2147483648 := by by_cases h : x * 2 < 4294967296; exact hXn h; exact hXm h
  have hYm : Y ≤ 2147483648 := by rw [← hY]; unfold szOf; split <;> omega
  obtain ⟨X0, _⟩ := rx
  have q := quo_range X Y X0 py
  have eq0 := Lib.hid (show X / Y = X / Y % 4294967296 by omega)
  have er0 := Lib.hid (show X % Y = X % Y % 4294967296 by omega)
  have en : ∀ z : Int, IntKind.u64.wrap (-z) % 4294967296 = (-z) % 4294967296 := fun z => by rw [IntKind.wrap_u64, Int.emod_emod_of_dvd _ (by decide)]
  have EN := Lib.hid en
  have yn : (y == 0) = false := beq_eq_false_iff_ne.mpr (by omega)
  clear hX hY hXn hXm q en ry
  by_cases kx : x * 2 < 4294967296
  all_goals by_cases ky : y * 2 < 4294967296
  · obtain ⟨e1, e2⟩ := c1 kx ky
    rw [e1, e2]
    have nx := Lib.hid fun w => ref_neg_32 x false w (beq_eq_false_iff_ne.mpr (by omega))
    have ny := Lib.hid fun w => ref_neg_32 y false w (beq_eq_false_iff_ne.mpr (by omega))
    clear e1 e2 c1 c2 c3 c4 kx ky
    go_enter Try.func32, Try.ntmps32
    go_wp2_with fail
    refine (sx.out _).mono ?_; rintro e w' ⟨rfl, rfl⟩
    go_wp2_with fail
    refine (sy.out _).mono ?_; rintro e w' ⟨rfl, rfl⟩
    go_wp2_with fail
    refine (sx.out _).mono ?_; rintro e w' ⟨rfl, rfl⟩
    go_wp2_with fail
    refine (sy.out _).mono ?_; rintro e w' ⟨rfl, rfl⟩
    go_wp2_with fail
    refine (nx.out _).mono ?_; rintro e w' ⟨rfl, rfl⟩
    go_wp2_with fail
    refine (ny.out _).mono ?_; rintro e w' ⟨rfl, rfl⟩
    go_wp2_with fail
    refine (nx.out _).mono ?_; rintro e w' ⟨rfl, rfl⟩
    go_wp2_with fail
    go_ret2
    exact ⟨ret_two rfl rfl, 0, rfl⟩
  · obtain ⟨e1, e2⟩ := c2 kx ky
    rw [e1, e2]
    have nx := Lib.hid fun w => ref_neg_32 x false w (beq_eq_false_iff_ne.mpr (by omega))
    have ny := Lib.hid fun w => ref_neg_32 y true w (beq_iff_eq.mpr (by omega))
    clear e1 e2 c1 c2 c3 c4 kx ky
    go_enter Try.func32, Try.ntmps32
    go_wp2_with fail
    refine (sx.out _).mono ?_; rintro e w' ⟨rfl, rfl⟩
    go_wp2_with fail
    refine (sy.out _).mono ?_; rintro e w' ⟨rfl, rfl⟩
    go_wp2_with fail
    refine (sx.out _).mono ?_; rintro e w' ⟨rfl, rfl⟩
    go_wp2_with fail
    refine (sy.out _).mono ?_; rintro e w' ⟨rfl, rfl⟩
    go_wp2_with fail
    refine (nx.out _).mono ?_; rintro e w' ⟨rfl, rfl⟩
    go_wp2_with fail
    refine (ny.out _).mono ?_; rintro e w' ⟨rfl, rfl⟩
    go_wp2_with fail
    refine (ref_cut_32 _ _ (u64_rng _).1).mono ?_; rintro e w' ⟨rfl, rfl⟩
    go_wp2_with fail
    refine (nx.out _).mono ?_; rintro e w' ⟨rfl, rfl⟩
    go_wp2_with fail
    go_ret2
    exact ⟨ret_two (EN.out _) rfl, 0, rfl⟩
  · obtain ⟨e1, e2⟩ := c3 kx ky
    rw [e1, e2]
    have nx := Lib.hid fun w => ref_neg_32 x true w (beq_iff_eq.mpr (by omega))
    have ny := Lib.hid fun w => ref_neg_32 y false w (beq_eq_false_iff_ne.mpr (by omega))
    clear e1 e2 c1 c2 c3 c4 kx ky
    go_enter Try.func32, Try.ntmps32
    go_wp2_with fail
    refine (sx.out _).mono ?_; rintro e w' ⟨rfl, rfl⟩
    go_wp2_with fail
    refine (sy.out _).mono ?_; rintro e w' ⟨rfl, rfl⟩
    go_wp2_with fail
    refine (sx.out _).mono ?_; rintro e w' ⟨rfl, rfl⟩
    go_wp2_with fail
    refine (sy.out _).mono ?_; rintro e w' ⟨rfl, rfl⟩
    go_wp2_with fail
    refine (nx.out _).mono ?_; rintro e w' ⟨rfl, rfl⟩
    go_wp2_with fail
    refine (ny.out _).mono ?_; rintro e w' ⟨rfl, rfl⟩
    go_wp2_with fail
    refine (ref_cut_32 _ _ (u64_rng _).1).mono ?_; rintro e w' ⟨rfl, rfl⟩
    go_wp2_with fail
    refine (nx.out _).mono ?_; rintro e w' ⟨rfl, rfl⟩
    go_wp2_with fail
    refine (ref_cut_32 _ _ (u64_rng _).1).mono ?_; rintro e w' ⟨rfl, rfl⟩
    go_wp2_with fail
    go_ret2
    exact ⟨ret_two (EN.out _) (EN.out _), 0, rfl⟩
  · obtain ⟨e1, e2⟩ := c4 kx ky
    rw [e1, e2]
    have nx := Lib.hid fun w => ref_neg_32 x true w (beq_iff_eq.mpr (by omega))
    have ny := Lib.hid fun w => ref_neg_32 y true w (beq_iff_eq.mpr (by omega))
    clear e1 e2 c1 c2 c3 c4 kx ky
    go_enter Try.func32, Try.ntmps32
    go_wp2_with fail
    refine (sx.out _).mono ?_; rintro e w' ⟨rfl, rfl⟩
    go_wp2_with fail
    refine (sy.out _).mono ?_; rintro e w' ⟨rfl, rfl⟩
    go_wp2_with fail
    refine (sx.out _).mono ?_; rintro e w' ⟨rfl, rfl⟩
    go_wp2_with fail
    refine (sy.out _).mono ?_; rintro e w' ⟨rfl, rfl⟩
    go_wp2_with fail
    refine (nx.out _).mono ?_; rintro e w' ⟨rfl, rfl⟩
    go_wp2_with fail
    refine (ny.out _).mono ?_; rintro e w' ⟨rfl, rfl⟩
    go_wp2_with fail
    refine (nx.out _).mono ?_; rintro e w' ⟨rfl, rfl⟩
    go_wp2_with fail
    refine (ref_cut_32 _ _ (u64_rng _).1).mono ?_; rintro e w' ⟨rfl, rfl⟩
    go_wp2_with fail
    go_ret2
    exact ⟨ret_two rfl (EN.out _), 0, rfl⟩

end Go.Proofs.Ytpnobkaeoiaelaa
