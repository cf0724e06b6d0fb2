/-
  The document's own arithmetic.
  Conditions: those that each theorem states.
-/
import Derived.Test.YtfepokiibdkoeaaAllA3

/-
  The document's own answers of layer 2, part by part: lowest bits, signed numbers, division.
  Conditions: the numbers fit their kinds.
-/
namespace Go.Proofs.Ytfepokiibdkoeaa
open Go.RowKit
set_option linter.unusedVariables false

theorem ref_cut_64 (n : Int) (w : World) (h : 0 ≤ n) (h' : n ≤ 18446744073709551615) :
    Calls Try.prog 73 #[.int .u64 n, .int .i64 64] w fun e w' => e = .returned (.int .u64 (n % 18446744073709551616)) ∧ w = w' := by
  go_enter Try.func73, Try.ntmps73
  go_wp2
  go_ret
  exact ⟨ret_int (by omega), rfl⟩
theorem ref_cut_32 (n : Int) (w : World) (h : 0 ≤ n) :
    Calls Try.prog 73 #[.int .u64 n, .int .i64 32] w fun e w' => e = .returned (.int .u64 (n % 4294967296)) ∧ w = w' := by
  go_enter Try.func73, Try.ntmps73
  go_wp2
  go_ret
  exact ⟨ret_int (by omega), rfl⟩
theorem ref_cut_any (n k : Int) (w : World) (h : 0 ≤ n) (h' : n ≤ 18446744073709551615) (h1 : 1 ≤ k) (h2 : k ≤ 64) :
    Calls Try.prog 73 #[.int .u64 n, .int .i64 k] w fun e w' => e = .returned (.int .u64 (n % 2 ^ k.toNat)) ∧ w = w' := by
  by_cases hk : k = 64
  · subst hk; exact ref_cut_64 n w h h'
  · have k1 : (k == 64) = false := beq_eq_false_iff_ne.mpr hk
    have e0 := pow_lt_64 k.toNat (by omega)
    have hp := (pow_le_64 k.toNat (by omega)).1
    generalize hg : (2 : Int) ^ k.toNat = P at *
    have e : IntKind.u64.wrap P = P := by rw [IntKind.wrap_u64, e0]
    clear e0 hk
    go_enter Try.func73, Try.ntmps73
    go_wp2
    go_ret
    exact ⟨rfl, rfl⟩

/-- A number's lowest bits, signed, by comparing. -/
theorem sgn_split (a k : Int) (h1 : 1 ≤ k) : (a % 2 ^ k.toNat / 2 ^ (k.toNat - 1) = 0 → sgnP (2 ^ k.toNat) a = a % 2 ^ k.toNat) ∧ (¬ a % 2 ^ k.toNat / 2 ^ (k.toNat - 1) = 0 → sgnP (2 ^ k.toNat) a = a % 2 ^ k.toNat - 2 ^ k.toNat) := by
  have hs : (2 : Int) ^ k.toNat = 2 ^ (k.toNat - 1) * 2 := by rw [← Int.pow_succ, show (k.toNat - 1).succ = k.toNat by omega]
  have hH := two_pow_pos (k.toNat - 1)
  have h0 := Int.emod_nonneg a (b := 2 ^ k.toNat) (by omega)
  unfold sgnP
  rw [hs] at *
  generalize (2 : Int) ^ (k.toNat - 1) = H at *
  generalize a % (H * 2) = x at *
  constructor
  · intro h
    have h3 : x < H := by
      by_cases h3 : x < H
      · exact h3
      · have := (Int.le_ediv_iff_mul_le hH).mpr (show 1 * H ≤ x by omega)
        omega
    rw [if_pos (by omega)]
  · intro h
    have h3 : H ≤ x := by
      by_cases h3 : x < H
      · exact absurd (Int.ediv_eq_zero_of_lt h0 h3) h
      · omega
    rw [if_neg (by omega)]

set_option maxHeartbeats 1000000 in
theorem ref_sign (n k : Int) (w : World) (h : 0 ≤ n) (h' : n ≤ 18446744073709551615) :
    Calls Try.prog 74 #[.int .u64 n, .int .i64 k] w fun e w' => e = .returned (.int .u64 (signW n k)) ∧ w = w' := by
  by_cases h1 : 1 ≤ k
  · by_cases h2 : k ≤ 64
    · by_cases hk : k = 64
      · subst hk
        rw [signW_64]
        by_cases hz : n % 18446744073709551616 / 9223372036854775808 = 0
        all_goals
          have hz2 := hz
          clear hz
          go_enter Try.func74, Try.ntmps74
          go_wp2_with (go_at_call 73; refine (ref_cut_64 _ _ (by omega) (by omega)).mono ?_; rintro e w' ⟨rfl, rfl⟩)
          go_ret
          exact ⟨rfl, rfl⟩
      · have k1 : (k == 64) = false := beq_eq_false_iff_ne.mpr hk
        obtain ⟨s1, s2⟩ := sgn_split n k h1
        have hc := Lib.hid fun w => ref_cut_any n k w h h' h1 h2
        have e0 := pow_lt_64 k.toNat (by omega)
        have es : signW n k = sgnP (2 ^ k.toNat) n % 18446744073709551616 := by unfold signW; rw [if_pos ⟨h1, h2⟩]
        have h0 := Int.emod_nonneg n (b := 2 ^ k.toNat) (by have := two_pow_pos k.toNat; omega)
        have hl := Int.emod_lt_of_pos n (two_pow_pos k.toNat)
        have hp := pow_le_64 k.toNat (by omega)
        rw [es]
        by_cases hz : n % 2 ^ k.toNat / 2 ^ (k.toNat - 1) = 0
        · have hz1 : (n % 2 ^ k.toNat / 2 ^ (k.toNat - 1) == 0) = true := beq_iff_eq.mpr hz
          rw [s1 hz]
          have e9 := Lib.hid (show n % 2 ^ k.toNat = n % 2 ^ k.toNat % 18446744073709551616 by omega)
          clear s1 s2 es hk hz e0 hp
          go_enter Try.func74, Try.ntmps74
          go_wp2_with (go_at_call 73; refine (hc.out _).mono ?_; rintro e w' ⟨rfl, rfl⟩)
          go_ret
          exact ⟨ret_int e9.out, rfl⟩
        · have hz1 : (n % 2 ^ k.toNat / 2 ^ (k.toNat - 1) == 0) = false := beq_eq_false_iff_ne.mpr hz
          rw [s2 hz]
          have e9 := Lib.hid (show IntKind.u64.wrap (n % 2 ^ k.toNat - IntKind.u64.wrap (2 ^ k.toNat)) = (n % 2 ^ k.toNat - 2 ^ k.toNat) % 18446744073709551616 by rw [IntKind.wrap_u64, IntKind.wrap_u64, e0])
          clear s1 s2 es hk hz e0 hp hl
          go_enter Try.func74, Try.ntmps74
          go_wp2_with (go_at_call 73; refine (hc.out _).mono ?_; rintro e w' ⟨rfl, rfl⟩)
          go_ret
          exact ⟨ret_int e9.out, rfl⟩
    · go_enter Try.func74, Try.ntmps74
      go_wp2
      go_ret
      exact ⟨ret_int (by unfold signW; rw [if_neg (by omega)]), rfl⟩
  · go_enter Try.func74, Try.ntmps74
    go_wp2
    go_ret
    exact ⟨ret_int (by unfold signW; rw [if_neg (by omega)]), rfl⟩

end Go.Proofs.Ytfepokiibdkoeaa


/-
  Division of the document's own answers: by sizes and signs, as aluZ has it.
  Conditions: the numbers are cut to the width.
-/
namespace Go.Proofs.Ytfepokiibdkoeaa
open Go.RowKit
set_option linter.unusedVariables false

/-- A signed number's size. -/
def szOf (M x : Int) : Int := if x * 2 < M then x else M - x

theorem wrap64_mod (z : Int) : wrap64 z % 18446744073709551616 = z % 18446744073709551616 := by unfold wrap64; omega
theorem wrap32_mod (z : Int) : wrap32 z % 4294967296 = z % 4294967296 := by unfold wrap32; omega
theorem tdiv_pos (a b : Int) (ha : 0 ≤ a) : a.tdiv b = a / b := Int.tdiv_eq_ediv_of_nonneg ha
theorem tmod_pos (a b : Int) (ha : 0 ≤ a) : a.tmod b = a % b := Int.tmod_eq_emod_of_nonneg ha
theorem quo_range (a b : Int) (ha : 0 ≤ a) (hb : 1 ≤ b) : (0 ≤ a / b ∧ a / b ≤ a) ∧ (0 ≤ a % b ∧ a % b < b) ∧ a % b ≤ a := by
  have h1 := Int.ediv_le_self b ha
  have h2 := Int.ediv_nonneg ha (b := b) (by omega)
  have h3 := Int.emod_nonneg a (b := b) (by omega)
  have h4 := Int.emod_lt_of_pos a (b := b) (by omega)
  have h5 := Int.mul_ediv_add_emod a b
  have h6 := Int.mul_nonneg (show 0 ≤ b by omega) h2
  omega

theorem ref_neg_64 (x : Int) (b : Bool) (w : World) (h : (x / 9223372036854775808 == 1) = b) :
    Calls Try.prog 76 #[.int .u64 x, .int .i64 64] w fun e w' => e = .returned (.bool b) ∧ w = w' := by
  go_enter Try.func76, Try.ntmps76
  go_wp2
  go_ret
  exact ⟨rfl, rfl⟩
theorem ref_size_64 (x : Int) (w : World) (h0 : 0 ≤ x) (h1 : x ≤ 18446744073709551615) :
    Calls Try.prog 101 #[.int .u64 x, .int .i64 64] w fun e w' => e = .returned (.int .u64 (szOf 18446744073709551616 x)) ∧ w = w' := by
  by_cases hx : x * 2 < 18446744073709551616
  · have e1 : (x / 9223372036854775808 == 1) = false := beq_eq_false_iff_ne.mpr (by omega)
    have e2 : szOf 18446744073709551616 x = x := by unfold szOf; rw [if_pos hx]
    rw [e2]
    have hn := Lib.hid fun w => ref_neg_64 x false w e1
    clear e1 e2
    go_enter Try.func101, Try.ntmps101
    go_wp2_with (go_at_call 76; refine (hn.out _).mono ?_; rintro e w' ⟨rfl, rfl⟩)
    go_ret
    exact ⟨rfl, rfl⟩
  · have e1 : (x / 9223372036854775808 == 1) = true := beq_iff_eq.mpr (by omega)
    have e2 : szOf 18446744073709551616 x = 18446744073709551616 - x := by unfold szOf; rw [if_neg hx]
    rw [e2]
    have hn := Lib.hid fun w => ref_neg_64 x true w e1
    have e3 : IntKind.u64.wrap (-x) = 18446744073709551616 - x := by rw [IntKind.wrap_u64]; omega
    clear e1 e2
    go_enter Try.func101, Try.ntmps101
    go_wp2_with (first | (go_at_call 76; refine (hn.out _).mono ?_; rintro e w' ⟨rfl, rfl⟩) | (go_at_call 73; refine (ref_cut_64 _ _ (by omega) (by omega)).mono ?_; rintro e w' ⟨rfl, rfl⟩))
    go_ret
    exact ⟨ret_int (by omega), rfl⟩

/-- Signed division by sizes and signs. -/
theorem parts_plain_64 (x y : Int) (hx : 0 ≤ x) (hx' : x ≤ 18446744073709551615) (hy : 1 ≤ y) (hy' : y ≤ 18446744073709551615) :
    (x * 2 < 18446744073709551616 → y * 2 < 18446744073709551616 → aluZ true 48 1 x y % 18446744073709551616 = szOf 18446744073709551616 x / szOf 18446744073709551616 y ∧ aluZ true 144 1 x y % 18446744073709551616 = szOf 18446744073709551616 x % szOf 18446744073709551616 y) ∧
    (x * 2 < 18446744073709551616 → ¬ y * 2 < 18446744073709551616 → aluZ true 48 1 x y % 18446744073709551616 = (-(szOf 18446744073709551616 x / szOf 18446744073709551616 y)) % 18446744073709551616 ∧ aluZ true 144 1 x y % 18446744073709551616 = szOf 18446744073709551616 x % szOf 18446744073709551616 y) ∧
    (¬ x * 2 < 18446744073709551616 → y * 2 < 18446744073709551616 → aluZ true 48 1 x y % 18446744073709551616 = (-(szOf 18446744073709551616 x / szOf 18446744073709551616 y)) % 18446744073709551616 ∧ aluZ true 144 1 x y % 18446744073709551616 = (-(szOf 18446744073709551616 x % szOf 18446744073709551616 y)) % 18446744073709551616) ∧
    (¬ x * 2 < 18446744073709551616 → ¬ y * 2 < 18446744073709551616 → aluZ true 48 1 x y % 18446744073709551616 = szOf 18446744073709551616 x / szOf 18446744073709551616 y ∧ aluZ true 144 1 x y % 18446744073709551616 = (-(szOf 18446744073709551616 x % szOf 18446744073709551616 y)) % 18446744073709551616) := by
  have z1 : aluZ true 48 1 x y % 18446744073709551616 = ((wrap64 x).tdiv (wrap64 y)) % 18446744073709551616 := by
    have e : aluZ true 48 1 x y = wrap64 ((wrap64 x).tdiv (wrap64 y)) := rfl
    rw [e, wrap64_mod]
  have z2 : aluZ true 144 1 x y % 18446744073709551616 = ((wrap64 x).tmod (wrap64 y)) % 18446744073709551616 := by
    have e : aluZ true 144 1 x y = (wrap64 x).tmod (wrap64 y) := rfl
    rw [e]
  rw [z1, z2]
  clear z1 z2
  have px : x * 2 < 18446744073709551616 → wrap64 x = x := fun h => by unfold wrap64; omega
  have nx : ¬ x * 2 < 18446744073709551616 → wrap64 x = -(18446744073709551616 - x) := fun h => by unfold wrap64; omega
  have py : y * 2 < 18446744073709551616 → wrap64 y = y := fun h => by unfold wrap64; omega
  have ny : ¬ y * 2 < 18446744073709551616 → wrap64 y = -(18446744073709551616 - y) := fun h => by unfold wrap64; omega
  refine ⟨fun h k => ?_, fun h k => ?_, fun h k => ?_, fun h k => ?_⟩
  · have q := quo_range x y hx hy
    unfold szOf
    rw [px h, py k, if_pos h, if_pos k, tdiv_pos _ _ hx, tmod_pos _ _ hx]
    constructor
    · exact Int.emod_eq_of_lt q.1.1 (by omega)
    · exact Int.emod_eq_of_lt q.2.1.1 (by omega)
  · have q := quo_range x (18446744073709551616 - y) hx (by omega)
    unfold szOf
    rw [px h, ny k, if_pos h, if_neg k, Int.tdiv_neg, Int.tmod_neg, tdiv_pos _ _ hx, tmod_pos _ _ hx]
    exact ⟨rfl, Int.emod_eq_of_lt q.2.1.1 (by omega)⟩
  · unfold szOf
    rw [nx h, py k, if_neg h, if_pos k, Int.neg_tdiv, Int.neg_tmod, tdiv_pos _ _ (by omega), tmod_pos _ _ (by omega)]
    exact ⟨rfl, rfl⟩
  · have q := quo_range (18446744073709551616 - x) (18446744073709551616 - y) (by omega) (by omega)
    unfold szOf
    rw [nx h, ny k, if_neg h, if_neg k, Int.neg_tdiv, Int.tdiv_neg, Int.neg_neg, Int.neg_tmod, Int.tmod_neg, tdiv_pos _ _ (by omega), tmod_pos _ _ (by omega)]
    exact ⟨Int.emod_eq_of_lt q.1.1 (by omega), rfl⟩

theorem ref_neg_32 (x : Int) (b : Bool) (w : World) (h : (x / 2147483648 == 1) = b) :
    Calls Try.prog 76 #[.int .u64 x, .int .i64 32] w fun e w' => e = .returned (.bool b) ∧ w = w' := by
  go_enter Try.func76, Try.ntmps76
  go_wp2
  go_ret
  exact ⟨rfl, rfl⟩
theorem ref_size_32 (x : Int) (w : World) (h0 : 0 ≤ x) (h1 : x ≤ 4294967295) :
    Calls Try.prog 101 #[.int .u64 x, .int .i64 32] w fun e w' => e = .returned (.int .u64 (szOf 4294967296 x)) ∧ w = w' := by
  by_cases hx : x * 2 < 4294967296
  · have e1 : (x / 2147483648 == 1) = false := beq_eq_false_iff_ne.mpr (by omega)
    have e2 : szOf 4294967296 x = x := by unfold szOf; rw [if_pos hx]
    rw [e2]
    have hn := Lib.hid fun w => ref_neg_32 x false w e1
    clear e1 e2
    go_enter Try.func101, Try.ntmps101
    go_wp2_with (go_at_call 76; refine (hn.out _).mono ?_; rintro e w' ⟨rfl, rfl⟩)
    go_ret
    exact ⟨rfl, rfl⟩
  · have e1 : (x / 2147483648 == 1) = true := beq_iff_eq.mpr (by omega)
    have e2 : szOf 4294967296 x = 4294967296 - x := by unfold szOf; rw [if_neg hx]
    rw [e2]
    have hn := Lib.hid fun w => ref_neg_32 x true w e1
    have e3 : IntKind.u64.wrap (-x) = 18446744073709551616 - x := by rw [IntKind.wrap_u64]; omega
    clear e1 e2
    go_enter Try.func101, Try.ntmps101
    go_wp2_with (first | (go_at_call 76; refine (hn.out _).mono ?_; rintro e w' ⟨rfl, rfl⟩) | (go_at_call 73; refine (ref_cut_32 _ _ (by omega)).mono ?_; rintro e w' ⟨rfl, rfl⟩))
    go_ret
    exact ⟨ret_int (by omega), rfl⟩

/-- Signed division by sizes and signs. -/
theorem parts_plain_32 (x y : Int) (hx : 0 ≤ x) (hx' : x ≤ 4294967295) (hy : 1 ≤ y) (hy' : y ≤ 4294967295) :
    (x * 2 < 4294967296 → y * 2 < 4294967296 → aluZ false 48 1 x y % 4294967296 = szOf 4294967296 x / szOf 4294967296 y ∧ aluZ false 144 1 x y % 4294967296 = szOf 4294967296 x % szOf 4294967296 y) ∧
    (x * 2 < 4294967296 → ¬ y * 2 < 4294967296 → aluZ false 48 1 x y % 4294967296 = (-(szOf 4294967296 x / szOf 4294967296 y)) % 4294967296 ∧ aluZ false 144 1 x y % 4294967296 = szOf 4294967296 x % szOf 4294967296 y) ∧
    (¬ x * 2 < 4294967296 → y * 2 < 4294967296 → aluZ false 48 1 x y % 4294967296 = (-(szOf 4294967296 x / szOf 4294967296 y)) % 4294967296 ∧ aluZ false 144 1 x y % 4294967296 = (-(szOf 4294967296 x % szOf 4294967296 y)) % 4294967296) ∧
    (¬ x * 2 < 4294967296 → ¬ y * 2 < 4294967296 → aluZ false 48 1 x y % 4294967296 = szOf 4294967296 x / szOf 4294967296 y ∧ aluZ false 144 1 x y % 4294967296 = (-(szOf 4294967296 x % szOf 4294967296 y)) % 4294967296) := by
  have z1 : aluZ false 48 1 x y % 4294967296 = ((wrap32 x).tdiv (wrap32 y)) % 4294967296 := by
    have e : aluZ false 48 1 x y = wrap32 ((wrap32 x).tdiv (wrap32 y)) := rfl
    rw [e, wrap32_mod]
  have z2 : aluZ false 144 1 x y % 4294967296 = ((wrap32 x).tmod (wrap32 y)) % 4294967296 := by
    have e : aluZ false 144 1 x y = (wrap32 x).tmod (wrap32 y) := rfl
    rw [e]
  rw [z1, z2]
  clear z1 z2
  have px : x * 2 < 4294967296 → wrap32 x = x := fun h => by unfold wrap32; omega
  have nx : ¬ x * 2 < 4294967296 → wrap32 x = -(4294967296 - x) := fun h => by unfold wrap32; omega
  have py : y * 2 < 4294967296 → wrap32 y = y := fun h => by unfold wrap32; omega
  have ny : ¬ y * 2 < 4294967296 → wrap32 y = -(4294967296 - y) := fun h => by unfold wrap32; omega
  refine ⟨fun h k => ?_, fun h k => ?_, fun h k => ?_, fun h k => ?_⟩
  · have q := quo_range x y hx hy
    unfold szOf
    rw [px h, py k, if_pos h, if_pos k, tdiv_pos _ _ hx, tmod_pos _ _ hx]
    constructor
    · exact Int.emod_eq_of_lt q.1.1 (by omega)
    · exact Int.emod_eq_of_lt q.2.1.1 (by omega)
  · have q := quo_range x (4294967296 - y) hx (by omega)
    unfold szOf
    rw [px h, ny k, if_pos h, if_neg k, Int.tdiv_neg, Int.tmod_neg, tdiv_pos _ _ hx, tmod_pos _ _ hx]
    exact ⟨rfl, Int.emod_eq_of_lt q.2.1.1 (by omega)⟩
  · unfold szOf
    rw [nx h, py k, if_neg h, if_pos k, Int.neg_tdiv, Int.neg_tmod, tdiv_pos _ _ (by omega), tmod_pos _ _ (by omega)]
    exact ⟨rfl, rfl⟩
  · have q := quo_range (4294967296 - x) (4294967296 - y) (by omega) (by omega)
    unfold szOf
    rw [nx h, ny k, if_neg h, if_neg k, Int.neg_tdiv, Int.tdiv_neg, Int.neg_neg, Int.neg_tmod, Int.tmod_neg, tdiv_pos _ _ (by omega), tmod_pos _ _ (by omega)]
    exact ⟨Int.emod_eq_of_lt q.1.1 (by omega), rfl⟩

end Go.Proofs.Ytfepokiibdkoeaa


/-
  'parts' of the document's own answers of layer 2, walked.
  Conditions: the numbers are cut to the width.
-/
namespace Go.Proofs.Ytfepokiibdkoeaa
open Go.RowKit
set_option linter.unusedVariables false

theorem u64_rng (z : Int) : 0 ≤ IntKind.u64.wrap z ∧ IntKind.u64.wrap z ≤ 18446744073709551615 := by rw [IntKind.wrap_u64]; omega
theorem szOf_range (M x : Int) (h0 : 0 ≤ x) (h1 : x < M) : 0 ≤ szOf M x ∧ szOf M x ≤ M := by unfold szOf; split <;> omega
theorem szOf_pos (M x : Int) (h0 : 1 ≤ x) (h1 : x < M) : 1 ≤ szOf M x := by unfold szOf; split <;> omega

set_option maxHeartbeats 1000000 in
theorem ref_parts_u_64 (x y : Int) (w : World) (hx : 0 ≤ x) (hx' : x ≤ 18446744073709551615) (hy : 0 ≤ y) (hy' : y ≤ 18446744073709551615) :
    Calls Try.prog 75 #[.int .u64 x, .int .u64 y, .int .i64 64, .bool false] w (Parted (aluZ true 48 0 x y % 18446744073709551616) (aluZ true 144 0 x y % 18446744073709551616) w) := by
  have z1 : aluZ true 48 0 x y = x / y := rfl
  have z2 : aluZ true 144 0 x y = x % y := rfl
  rw [z1, z2]
  clear z1 z2
  by_cases h0 : y = 0
  · subst h0
    have e1 := Lib.hid (show x = x % 0 % 18446744073709551616 by rw [Int.emod_zero]; omega)
    go_enter Try.func75, Try.ntmps75
    go_wp2
    go_ret2
    exact ⟨ret_two (by rw [Int.ediv_zero]; rfl) e1.out, 0, rfl⟩
  · have h1 : 1 ≤ y := by omega
    have q := quo_range x y hx h1
    have e1 := Lib.hid (Int.emod_eq_of_lt q.1.1 (b := 18446744073709551616) (by omega)).symm
    have e2 := Lib.hid (Int.emod_eq_of_lt q.2.1.1 (b := 18446744073709551616) (by omega)).symm
    clear q h0
    go_enter Try.func75, Try.ntmps75
    go_wp2
    go_quiet (fail)
    go_wp2
    go_ret2
    exact ⟨ret_two e1.out e2.out, _, rfl⟩

theorem ref_parts_z_64 (x : Int) (w : World) (hx : 0 ≤ x) (hx' : x ≤ 18446744073709551615) :
    Calls Try.prog 75 #[.int .u64 x, .int .u64 0, .int .i64 64, .bool true] w (Parted (aluZ true 48 1 x 0 % 18446744073709551616) (aluZ true 144 1 x 0 % 18446744073709551616) w) := by
  have z1 : aluZ true 48 1 x 0 = wrap64 ((wrap64 x).tdiv (wrap64 0)) := rfl
  have z2 : aluZ true 144 1 x 0 = (wrap64 x).tmod (wrap64 0) := rfl
  have z3 : wrap64 0 = 0 := by unfold wrap64; decide
  rw [z1, z2, wrap64_mod, z3, Int.tdiv_zero, Int.tmod_zero, wrap64_mod]
  clear z1 z2 z3
  go_enter Try.func75, Try.ntmps75
  go_wp2
  go_ret2
  exact ⟨ret_two rfl (by omega), 0, rfl⟩

set_option maxHeartbeats 1000000 in
theorem ref_parts_s_64 (x y : Int) (w : World) (hx : 0 ≤ x) (hx' : x ≤ 18446744073709551615) (hy : 1 ≤ y) (hy' : y ≤ 18446744073709551615) :
    Calls Try.prog 75 #[.int .u64 x, .int .u64 y, .int .i64 64, .bool true] w (Parted (aluZ true 48 1 x y % 18446744073709551616) (aluZ true 144 1 x y % 18446744073709551616) w) := by
  obtain ⟨c1, c2, c3, c4⟩ := parts_plain_64 x y hx hx' hy hy'
  have sx := Lib.hid fun w => ref_size_64 x w hx hx'
  have sy := Lib.hid fun w => ref_size_64 y w (by omega) hy'
  have rx := szOf_range 18446744073709551616 x hx (by omega)
  have ry := szOf_range 18446744073709551616 y (by omega) (by omega)
  have py := szOf_pos 18446744073709551616 y hy (by omega)
  generalize hX : szOf 18446744073709551616 x = X at *
  generalize hY : szOf 18446744073709551616 y = Y at *
  have hXn : x * 2 < 18446744073709551616 → X ≤ 9223372036854775808 := fun h => by rw [← hX]; unfold szOf; rw [if_pos h]; omega
  have hXm : ¬ x * 2 < 18446744073709551616 → X ≤ 9223372036854775808 := fun h => by rw [← hX]; unfold szOf; rw [if_neg h]; omega
  have X1 : X ≤ 9223372036854775808 := by by_cases h : x * 2 < 18446744073709551616; exact hXn h; exact hXm h
  have hYm : Y ≤ 9223372036854775808 := by rw [← hY]; unfold szOf; split <;> omega
  obtain ⟨X0, _⟩ := rx
  have q := quo_range X Y X0 py
  have eq0 := Lib.hid (show X / Y = X / Y % 18446744073709551616 by omega)
  have er0 := Lib.hid (show X % Y = X % Y % 18446744073709551616 by omega)
  have en : ∀ z : Int, IntKind.u64.wrap (-z) % 18446744073709551616 = (-z) % 18446744073709551616 := fun z => by rw [IntKind.wrap_u64, Int.emod_emod_of_dvd _ (by decide)]
  have EN := Lib.hid en
  have yn : (y == 0) = false := beq_eq_false_iff_ne.mpr (by omega)
  clear hX hY hXn hXm q en ry
  by_cases kx : x * 2 < 18446744073709551616
  all_goals by_cases ky : y * 2 < 18446744073709551616
  · obtain ⟨e1, e2⟩ := c1 kx ky
    rw [e1, e2]
    have nx := Lib.hid fun w => ref_neg_64 x false w (beq_eq_false_iff_ne.mpr (by omega))
    have ny := Lib.hid fun w => ref_neg_64 y false w (beq_eq_false_iff_ne.mpr (by omega))
    clear e1 e2 c1 c2 c3 c4 kx ky
    go_enter Try.func75, Try.ntmps75
    go_wp2_with fail
    refine (sx.out _).mono ?_; rintro e w' ⟨rfl, rfl⟩
    go_wp2_with fail
    refine (sy.out _).mono ?_; rintro e w' ⟨rfl, rfl⟩
    go_wp2_with fail
    refine (sx.out _).mono ?_; rintro e w' ⟨rfl, rfl⟩
    go_wp2_with fail
    refine (sy.out _).mono ?_; rintro e w' ⟨rfl, rfl⟩
    go_wp2_with fail
    refine (nx.out _).mono ?_; rintro e w' ⟨rfl, rfl⟩
    go_wp2_with fail
    refine (ny.out _).mono ?_; rintro e w' ⟨rfl, rfl⟩
    go_wp2_with fail
    refine (nx.out _).mono ?_; rintro e w' ⟨rfl, rfl⟩
    go_wp2_with fail
    go_ret2
    exact ⟨ret_two rfl rfl, 0, rfl⟩
  · obtain ⟨e1, e2⟩ := c2 kx ky
    rw [e1, e2]
    have nx := Lib.hid fun w => ref_neg_64 x false w (beq_eq_false_iff_ne.mpr (by omega))
    have ny := Lib.hid fun w => ref_neg_64 y true w (beq_iff_eq.mpr (by omega))
    clear e1 e2 c1 c2 c3 c4 kx ky
    go_enter Try.func75, Try.ntmps75
    go_wp2_with fail
    refine (sx.out _).mono ?_; rintro e w' ⟨rfl, rfl⟩
    go_wp2_with fail
    refine (sy.out _).mono ?_; rintro e w' ⟨rfl, rfl⟩
    go_wp2_with fail
    refine (sx.out _).mono ?_; rintro e w' ⟨rfl, rfl⟩
    go_wp2_with fail
    refine (sy.out _).mono ?_; rintro e w' ⟨rfl, rfl⟩
    go_wp2_with fail
    refine (nx.out _).mono ?_; rintro e w' ⟨rfl, rfl⟩
    go_wp2_with fail
    refine (ny.out _).mono ?_; rintro e w' ⟨rfl, rfl⟩
    go_wp2_with fail
    refine (ref_cut_64 _ _ (u64_rng _).1 (u64_rng _).2).mono ?_; rintro e w' ⟨rfl, rfl⟩
    go_wp2_with fail
    refine (nx.out _).mono ?_; rintro e w' ⟨rfl, rfl⟩
    go_wp2_with fail
    go_ret2
    exact ⟨ret_two (EN.out _) rfl, 0, rfl⟩
  · obtain ⟨e1, e2⟩ := c3 kx ky
    rw [e1, e2]
    have nx := Lib.hid fun w => ref_neg_64 x true w (beq_iff_eq.mpr (by omega))
    have ny := Lib.hid fun w => ref_neg_64 y false w (beq_eq_false_iff_ne.mpr (by omega))
    clear e1 e2 c1 c2 c3 c4 kx ky
    go_enter Try.func75, Try.ntmps75
    go_wp2_with fail
    refine (sx.out _).mono ?_; rintro e w' ⟨rfl, rfl⟩
    go_wp2_with fail
    refine (sy.out _).mono ?_; rintro e w' ⟨rfl, rfl⟩
    go_wp2_with fail
    refine (sx.out _).mono ?_; rintro e w' ⟨rfl, rfl⟩
    go_wp2_with fail
    refine (sy.out _).mono ?_; rintro e w' ⟨rfl, rfl⟩
    go_wp2_with fail
    refine (nx.out _).mono ?_; rintro e w' ⟨rfl, rfl⟩
    go_wp2_with fail
    refine (ny.out _).mono ?_; rintro e w' ⟨rfl, rfl⟩
    go_wp2_with fail
    refine (ref_cut_64 _ _ (u64_rng _).1 (u64_rng _).2).mono ?_; rintro e w' ⟨rfl, rfl⟩
    go_wp2_with fail
    refine (nx.out _).mono ?_; rintro e w' ⟨rfl, rfl⟩
    go_wp2_with fail
    refine (ref_cut_64 _ _ (u64_rng _).1 (u64_rng _).2).mono ?_; rintro e w' ⟨rfl, rfl⟩
    go_wp2_with fail
    go_ret2
    exact ⟨ret_two (EN.out _) (EN.out _), 0, rfl⟩
  · obtain ⟨e1, e2⟩ := c4 kx ky
    rw [e1, e2]
    have nx := Lib.hid fun w => ref_neg_64 x true w (beq_iff_eq.mpr (by omega))
    have ny := Lib.hid fun w => ref_neg_64 y true w (beq_iff_eq.mpr (by omega))
    clear e1 e2 c1 c2 c3 c4 kx ky
    go_enter Try.func75, Try.ntmps75
    go_wp2_with fail
    refine (sx.out _).mono ?_; rintro e w' ⟨rfl, rfl⟩
    go_wp2_with fail
    refine (sy.out _).mono ?_; rintro e w' ⟨rfl, rfl⟩
    go_wp2_with fail
    refine (sx.out _).mono ?_; rintro e w' ⟨rfl, rfl⟩
    go_wp2_with fail
    refine (sy.out _).mono ?_; rintro e w' ⟨rfl, rfl⟩
    go_wp2_with fail
    refine (nx.out _).mono ?_; rintro e w' ⟨rfl, rfl⟩
    go_wp2_with fail
    refine (ny.out _).mono ?_; rintro e w' ⟨rfl, rfl⟩
    go_wp2_with fail
    refine (nx.out _).mono ?_; rintro e w' ⟨rfl, rfl⟩
    go_wp2_with fail
    refine (ref_cut_64 _ _ (u64_rng _).1 (u64_rng _).2).mono ?_; rintro e w' ⟨rfl, rfl⟩
    go_wp2_with fail
    go_ret2
    exact ⟨ret_two rfl (EN.out _), 0, rfl⟩

set_option maxHeartbeats 1000000 in
theorem ref_parts_u_32 (x y : Int) (w : World) (hx : 0 ≤ x) (hx' : x ≤ 4294967295) (hy : 0 ≤ y) (hy' : y ≤ 4294967295) :
    Calls Try.prog 75 #[.int .u64 x, .int .u64 y, .int .i64 32, .bool false] w (Parted (aluZ false 48 0 x y % 4294967296) (aluZ false 144 0 x y % 4294967296) w) := by
  have z1 : aluZ false 48 0 x y = x / y := rfl
  have z2 : aluZ false 144 0 x y = x % y := rfl
  rw [z1, z2]
  clear z1 z2
  by_cases h0 : y = 0
  · subst h0
    have e1 := Lib.hid (show x = x % 0 % 4294967296 by rw [Int.emod_zero]; omega)
    go_enter Try.func75, Try.ntmps75
    go_wp2
    go_ret2
    exact ⟨ret_two (by rw [Int.ediv_zero]; rfl) e1.out, 0, rfl⟩
  · have h1 : 1 ≤ y := by omega
    have q := quo_range x y hx h1
    have e1 := Lib.hid (Int.emod_eq_of_lt q.1.1 (b := 4294967296) (by omega)).symm
    have e2 := Lib.hid (Int.emod_eq_of_lt q.2.1.1 (b := 4294967296) (by omega)).symm
    clear q h0
    go_enter Try.func75, Try.ntmps75
    go_wp2
    go_quiet (fail)
    go_wp2
    go_ret2
    exact ⟨ret_two e1.out e2.out, _, rfl⟩

theorem ref_parts_z_32 (x : Int) (w : World) (hx : 0 ≤ x) (hx' : x ≤ 4294967295) :
    Calls Try.prog 75 #[.int .u64 x, .int .u64 0, .int .i64 32, .bool true] w (Parted (aluZ false 48 1 x 0 % 4294967296) (aluZ false 144 1 x 0 % 4294967296) w) := by
  have z1 : aluZ false 48 1 x 0 = wrap32 ((wrap32 x).tdiv (wrap32 0)) := rfl
  have z2 : aluZ false 144 1 x 0 = (wrap32 x).tmod (wrap32 0) := rfl
  have z3 : wrap32 0 = 0 := by unfold wrap32; decide
  rw [z1, z2, wrap32_mod, z3, Int.tdiv_zero, Int.tmod_zero, wrap32_mod]
  clear z1 z2 z3
  go_enter Try.func75, Try.ntmps75
  go_wp2
  go_ret2
  exact ⟨ret_two rfl (by omega), 0, rfl⟩

set_option maxHeartbeats 1000000 in
theorem ref_parts_s_32 (x y : Int) (w : World) (hx : 0 ≤ x) (hx' : x ≤ 4294967295) (hy : 1 ≤ y) (hy' : y ≤ 4294967295) :
    Calls Try.prog 75 #[.int .u64 x, .int .u64 y, .int .i64 32, .bool true] w (Parted (aluZ false 48 1 x y % 4294967296) (aluZ false 144 1 x y % 4294967296) w) := by
  obtain ⟨c1, c2, c3, c4⟩ := parts_plain_32 x y hx hx' hy hy'
  have sx := Lib.hid fun w => ref_size_32 x w hx hx'
  have sy := Lib.hid fun w => ref_size_32 y w (by omega) hy'
  have rx := szOf_range 4294967296 x hx (by omega)
  have ry := szOf_range 4294967296 y (by omega) (by omega)
  have py := szOf_pos 4294967296 y hy (by omega)
  generalize hX : szOf 4294967296 x = X at *
  generalize hY : szOf 4294967296 y = Y at *
  have hXn : x * 2 < 4294967296 → X ≤ 2147483648 := fun h => by rw [← hX]; unfold szOf; rw [if_pos h]; omega
  have hXm : ¬ x * 2 < 4294967296 → X ≤ 2147483648 := fun h => by rw [← hX]; unfold szOf; rw [if_neg h]; omega
  have X1 : X ≤ 2147483648 := by by_cases h : x * 2 < 4294967296; exact hXn h; exact hXm h
  have hYm : Y ≤ 2147483648 := by rw [← hY]; unfold szOf; split <;> omega
  obtain ⟨X0, _⟩ := rx
  have q := quo_range X Y X0 py
  have eq0 := Lib.hid (show X / Y = X / Y % 4294967296 by omega)
  have er0 := Lib.hid (show X % Y = X % Y % 4294967296 by omega)
  have en : ∀ z : Int, IntKind.u64.wrap (-z) % 4294967296 = (-z) % 4294967296 := fun z => by rw [IntKind.wrap_u64, Int.emod_emod_of_dvd _ (by decide)]
  have EN := Lib.hid en
  have yn : (y == 0) = false := beq_eq_false_iff_ne.mpr (by omega)
  clear hX hY hXn hXm q en ry
  by_cases kx : x * 2 < 4294967296
  all_goals by_cases ky : y * 2 < 4294967296
  · obtain ⟨e1, e2⟩ := c1 kx ky
    rw [e1, e2]
    have nx := Lib.hid fun w => ref_neg_32 x false w (beq_eq_false_iff_ne.mpr (by omega))
    have ny := Lib.hid fun w => ref_neg_32 y false w (beq_eq_false_iff_ne.mpr (by omega))
    clear e1 e2 c1 c2 c3 c4 kx ky
    go_enter Try.func75, Try.ntmps75
    go_wp2_with fail
    refine (sx.out _).mono ?_; rintro e w' ⟨rfl, rfl⟩
    go_wp2_with fail
    refine (sy.out _).mono ?_; rintro e w' ⟨rfl, rfl⟩
    go_wp2_with fail
    refine (sx.out _).mono ?_; rintro e w' ⟨rfl, rfl⟩
    go_wp2_with fail
    refine (sy.out _).mono ?_; rintro e w' ⟨rfl, rfl⟩
    go_wp2_with fail
    refine (nx.out _).mono ?_; rintro e w' ⟨rfl, rfl⟩
    go_wp2_with fail
    refine (ny.out _).mono ?_; rintro e w' ⟨rfl, rfl⟩
    go_wp2_with fail
    refine (nx.out _).mono ?_; rintro e w' ⟨rfl, rfl⟩
    go_wp2_with fail
    go_ret2
    exact ⟨ret_two rfl rfl, 0, rfl⟩
  · obtain ⟨e1, e2⟩ := c2 kx ky
    rw [e1, e2]
    have nx := Lib.hid fun w => ref_neg_32 x false w (beq_eq_false_iff_ne.mpr (by omega))
    have ny := Lib.hid fun w => ref_neg_32 y true w (beq_iff_eq.mpr (by omega))
    clear e1 e2 c1 c2 c3 c4 kx ky
    go_enter Try.func75, Try.ntmps75
    go_wp2_with fail
    refine (sx.out _).mono ?_; rintro e w' ⟨rfl, rfl⟩
    go_wp2_with fail
    refine (sy.out _).mono ?_; rintro e w' ⟨rfl, rfl⟩
    go_wp2_with fail
    refine (sx.out _).mono ?_; rintro e w' ⟨rfl, rfl⟩
    go_wp2_with fail
    refine (sy.out _).mono ?_; rintro e w' ⟨rfl, rfl⟩
    go_wp2_with fail
    refine (nx.out _).mono ?_; rintro e w' ⟨rfl, rfl⟩
    go_wp2_with fail
    refine (ny.out _).mono ?_; rintro e w' ⟨rfl, rfl⟩
    go_wp2_with fail
    refine (ref_cut_32 _ _ (u64_rng _).1).mono ?_; rintro e w' ⟨rfl, rfl⟩
    go_wp2_with fail
    refine (nx.out _).mono ?_; rintro e w' ⟨rfl, rfl⟩
    go_wp2_with fail
    go_ret2
    exact ⟨ret_two (EN.out _) rfl, 0, rfl⟩
  · obtain ⟨e1, e2⟩ := c3 kx ky
    rw [e1, e2]
    have nx := Lib.hid fun w => ref_neg_32 x true w (beq_iff_eq.mpr (by omega))
    have ny := Lib.hid fun w => ref_neg_32 y false w (beq_eq_false_iff_ne.mpr (by omega))
    clear e1 e2 c1 c2 c3 c4 kx ky
    go_enter Try.func75, Try.ntmps75
    go_wp2_with fail
    refine (sx.out _).mono ?_; rintro e w' ⟨rfl, rfl⟩
    go_wp2_with fail
    refine (sy.out _).mono ?_; rintro e w' ⟨rfl, rfl⟩
    go_wp2_with fail
    refine (sx.out _).mono ?_; rintro e w' ⟨rfl, rfl⟩
    go_wp2_with fail
    refine (sy.out _).mono ?_; rintro e w' ⟨rfl, rfl⟩
    go_wp2_with fail
    refine (nx.out _).mono ?_; rintro e w' ⟨rfl, rfl⟩
    go_wp2_with fail
    refine (ny.out _).mono ?_; rintro e w' ⟨rfl, rfl⟩
    go_wp2_with fail
    refine (ref_cut_32 _ _ (u64_rng _).1).mono ?_; rintro e w' ⟨rfl, rfl⟩
    go_wp2_with fail
    refine (nx.out _).mono ?_; rintro e w' ⟨rfl, rfl⟩
    go_wp2_with fail
    refine (ref_cut_32 _ _ (u64_rng _).1).mono ?_; rintro e w' ⟨rfl, rfl⟩
    go_wp2_with fail
    go_ret2
    exact ⟨ret_two (EN.out _) (EN.out _), 0, rfl⟩
  · obtain ⟨e1, e2⟩ := c4 kx ky
    rw [e1, e2]
    have nx := Lib.hid fun w => ref_neg_32 x true w (beq_iff_eq.mpr (by omega))
    have ny := Lib.hid fun w => ref_neg_32 y true w (beq_iff_eq.mpr (by omega))
    clear e1 e2 c1 c2 c3 c4 kx ky
    go_enter Try.func75, Try.ntmps75
    go_wp2_with fail
    refine (sx.out _).mono ?_; rintro e w' ⟨rfl, rfl⟩
    go_wp2_with fail
    refine (sy.out _).mono ?_; rintro e w' ⟨rfl, rfl⟩
    go_wp2_with fail
    refine (sx.out _).mono ?_; rintro e w' ⟨rfl, rfl⟩
    go_wp2_with fail
    refine (sy.out _).mono ?_; rintro e w' ⟨rfl, rfl⟩
    go_wp2_with fail
    refine (nx.out _).mono ?_; rintro e w' ⟨rfl, rfl⟩
    go_wp2_with fail
    refine (ny.out _).mono ?_; rintro e w' ⟨rfl, rfl⟩
    go_wp2_with fail
    refine (nx.out _).mono ?_; rintro e w' ⟨rfl, rfl⟩
    go_wp2_with fail
    refine (ref_cut_32 _ _ (u64_rng _).1).mono ?_; rintro e w' ⟨rfl, rfl⟩
    go_wp2_with fail
    go_ret2
    exact ⟨ret_two rfl (EN.out _), 0, rfl⟩

end Go.Proofs.Ytfepokiibdkoeaa


/-
  Plain numbers: moving bits down, with and without the sign. No program is named here.
-/
namespace Go.Proofs.Ytfepokiibdkoeaa
open Go Go.RowKit
set_option linter.unusedVariables false

theorem shr_range (x : Int) (k : Nat) (hx : 0 ≤ x) : 0 ≤ x / 2 ^ k ∧ x / 2 ^ k ≤ x := by
  have h := two_pow_pos k
  exact ⟨Int.ediv_nonneg hx (by omega), Int.ediv_le_self _ hx⟩

/-- Of a number with the sign's bit: what lies behind it is ones. -/
theorem arsh_parts (w k : Nat) (hk : k < w) (x : Int) (hx : 0 ≤ x) (hx' : x < 2 ^ w) :
    (x - 2 ^ w) / 2 ^ k = x / 2 ^ k - 2 ^ (w - k) ∧ ((2 : Int) ^ w - 1) / 2 ^ k = 2 ^ (w - k) - 1 ∧ x / 2 ^ k < 2 ^ (w - k) := by
  have hP := two_pow_pos k
  have hQ := two_pow_pos (w - k)
  have hs : (2 : Int) ^ w = 2 ^ (w - k) * 2 ^ k := by rw [← Int.pow_add, show w - k + k = w by omega]
  rw [hs] at hx'
  rw [hs]
  generalize (2 : Int) ^ k = P at *
  generalize (2 : Int) ^ (w - k) = Q at *
  refine ⟨?_, ?_, ?_⟩
  · rw [show x - Q * P = x + (-Q) * P by rw [Int.neg_mul]; omega, Int.add_mul_ediv_right _ _ (by omega)]
    omega
  · rw [show Q * P - 1 = (P - 1) + (Q - 1) * P by rw [Int.sub_mul]; omega, Int.add_mul_ediv_right _ _ (by omega), Int.ediv_eq_zero_of_lt (by omega) (by omega)]
    omega
  · exact Int.ediv_lt_of_lt_mul hP hx'

theorem arsh_neg_64 (x y : Int) (hx : 0 ≤ x) (hx' : x ≤ 18446744073709551615) (hc : ¬ x * 2 < 18446744073709551616) :
    IntKind.u64.wrap (IntKind.u64.wrap (18446744073709551615 - 18446744073709551615 / 2 ^ (y % 64).toNat) + x / 2 ^ (y % 64).toNat) % 18446744073709551616 = wrap64 x / 2 ^ (y % 64).toNat % 18446744073709551616 := by
  obtain ⟨h1, h2, h3⟩ := arsh_parts 64 (y % 64).toNat (by omega) x hx (by show x < 18446744073709551616; omega)
  have hw : wrap64 x = x - 2 ^ 64 := by show _ = x - 18446744073709551616; unfold wrap64; omega
  have ho : (18446744073709551615 : Int) / 2 ^ (y % 64).toNat = 2 ^ (64 - (y % 64).toNat) - 1 := h2
  rw [hw, h1, ho, IntKind.wrap_u64, IntKind.wrap_u64]
  omega
theorem arsh_neg_32 (x y : Int) (hx : 0 ≤ x) (hx' : x ≤ 4294967295) (hc : ¬ x * 2 < 4294967296) :
    IntKind.u64.wrap (IntKind.u64.wrap (4294967295 - 4294967295 / 2 ^ (y % 32).toNat) + x / 2 ^ (y % 32).toNat) % 4294967296 = wrap32 x / 2 ^ (y % 32).toNat % 4294967296 := by
  obtain ⟨h1, h2, h3⟩ := arsh_parts 32 (y % 32).toNat (by omega) x hx (by show x < 4294967296; omega)
  have hw : wrap32 x = x - 2 ^ 32 := by show _ = x - 4294967296; unfold wrap32; omega
  have ho : (4294967295 : Int) / 2 ^ (y % 32).toNat = 2 ^ (32 - (y % 32).toNat) - 1 := h2
  rw [hw, h1, ho, IntKind.wrap_u64, IntKind.wrap_u64]
  omega

theorem ref_parts_1_64 (x y : Int) (w : World) (hx : 0 ≤ x) (hx' : x ≤ 18446744073709551615) (hy : 0 ≤ y) (hy' : y ≤ 18446744073709551615) :
    Calls Try.prog 75 #[.int .u64 x, .int .u64 y, .int .i64 64, .bool true] w (Parted (aluZ true 48 1 x y % 18446744073709551616) (aluZ true 144 1 x y % 18446744073709551616) w) := by
  by_cases h : y = 0
  · subst h; exact ref_parts_z_64 x w hx hx'
  · exact ref_parts_s_64 x y w hx hx' (by omega) hy'
theorem ref_parts_1_32 (x y : Int) (w : World) (hx : 0 ≤ x) (hx' : x ≤ 4294967295) (hy : 0 ≤ y) (hy' : y ≤ 4294967295) :
    Calls Try.prog 75 #[.int .u64 x, .int .u64 y, .int .i64 32, .bool true] w (Parted (aluZ false 48 1 x y % 4294967296) (aluZ false 144 1 x y % 4294967296) w) := by
  by_cases h : y = 0
  · subst h; exact ref_parts_z_32 x w hx hx'
  · exact ref_parts_s_32 x y w hx hx' (by omega) hy'

end Go.Proofs.Ytfepokiibdkoeaa


/-
  The document's own Do, op by op, at 64 bits.
  Conditions: the numbers fit their kinds.
-/
namespace Go.Proofs.Ytfepokiibdkoeaa
open Go.RowKit
set_option linter.unusedVariables false

abbrev refCut64 (n v : Int) : Prop := ∀ w : World, Calls Try.prog 73 #[.int .u64 n, .int .i64 64] w fun e w' => e = .returned (.int .u64 v) ∧ w = w'

set_option maxRecDepth 100000 in
set_option maxHeartbeats 2000000 in
theorem refd_add_64 (a b x y : Int) (w : World) (ca : refCut64 a x) (cb : refCut64 b y) (hx : 0 ≤ x) (hx' : x ≤ 18446744073709551615) (hy : 0 ≤ y) (hy' : y ≤ 18446744073709551615) :
    Calls Try.prog 36 #[.int .u8 0, .bool true, .int .i16 0, .int .u64 a, .int .u64 b] w (Did (aluZ true 0 0 x y % 18446744073709551616) 0 w) := by
  have hz : aluZ true 0 0 x y = x + y := rfl
  rw [hz]
  clear hz
  have CA := Lib.hid ca
  have CB := Lib.hid cb
  clear ca cb
  go_enter Try.func36, Try.ntmps36
  go_wp2_with fail
  refine (CA.out _).mono ?_; rintro e w' ⟨rfl, rfl⟩
  go_wp2_with fail
  refine (CB.out _).mono ?_; rintro e w' ⟨rfl, rfl⟩
  go_wp2_with fail
  refine (ref_cut_64 _ _ (by first | omega | exact (u64_rng _).1) (by first | omega | exact (u64_rng _).2)).mono ?_; rintro e w' ⟨rfl, rfl⟩
  go_wp2_with fail
  go_ret2
  exact ⟨ret_two (by first | rfl | (rw [IntKind.wrap_u64, Int.emod_emod_of_dvd _ (by decide)]) | (rw [IntKind.wrap_u64]; omega)) rfl, 0, rfl⟩

set_option maxRecDepth 100000 in
set_option maxHeartbeats 2000000 in
theorem refd_no_add_64 (a b x y : Int) (off : Int) (w : World) (ca : refCut64 a x) (cb : refCut64 b y) (hx : 0 ≤ x) (hx' : x ≤ 18446744073709551615) (hy : 0 ≤ y) (hy' : y ≤ 18446744073709551615) (ho : (off != 0) = true) :
    Calls Try.prog 36 #[.int .u8 0, .bool true, .int .i16 off, .int .u64 a, .int .u64 b] w (Did 0 1 w) := by
  have CA := Lib.hid ca
  have CB := Lib.hid cb
  clear ca cb
  go_enter Try.func36, Try.ntmps36
  go_wp2_with fail
  refine (CA.out _).mono ?_; rintro e w' ⟨rfl, rfl⟩
  go_wp2_with fail
  refine (CB.out _).mono ?_; rintro e w' ⟨rfl, rfl⟩
  go_wp2_with fail
  go_ret2
  exact ⟨rfl, 0, rfl⟩

set_option maxRecDepth 100000 in
set_option maxHeartbeats 2000000 in
theorem refd_sub_64 (a b x y : Int) (w : World) (ca : refCut64 a x) (cb : refCut64 b y) (hx : 0 ≤ x) (hx' : x ≤ 18446744073709551615) (hy : 0 ≤ y) (hy' : y ≤ 18446744073709551615) :
    Calls Try.prog 36 #[.int .u8 16, .bool true, .int .i16 0, .int .u64 a, .int .u64 b] w (Did (aluZ true 16 0 x y % 18446744073709551616) 0 w) := by
  have hz : aluZ true 16 0 x y = x - y := rfl
  rw [hz]
  clear hz
  have CA := Lib.hid ca
  have CB := Lib.hid cb
  clear ca cb
  go_enter Try.func36, Try.ntmps36
  go_wp2_with fail
  refine (CA.out _).mono ?_; rintro e w' ⟨rfl, rfl⟩
  go_wp2_with fail
  refine (CB.out _).mono ?_; rintro e w' ⟨rfl, rfl⟩
  go_wp2_with fail
  refine (ref_cut_64 _ _ (by first | omega | exact (u64_rng _).1) (by first | omega | exact (u64_rng _).2)).mono ?_; rintro e w' ⟨rfl, rfl⟩
  go_wp2_with fail
  go_ret2
  exact ⟨ret_two (by first | rfl | (rw [IntKind.wrap_u64, Int.emod_emod_of_dvd _ (by decide)]) | (rw [IntKind.wrap_u64]; omega)) rfl, 0, rfl⟩

set_option maxRecDepth 100000 in
set_option maxHeartbeats 2000000 in
theorem refd_no_sub_64 (a b x y : Int) (off : Int) (w : World) (ca : refCut64 a x) (cb : refCut64 b y) (hx : 0 ≤ x) (hx' : x ≤ 18446744073709551615) (hy : 0 ≤ y) (hy' : y ≤ 18446744073709551615) (ho : (off != 0) = true) :
    Calls Try.prog 36 #[.int .u8 16, .bool true, .int .i16 off, .int .u64 a, .int .u64 b] w (Did 0 1 w) := by
  have CA := Lib.hid ca
  have CB := Lib.hid cb
  clear ca cb
  go_enter Try.func36, Try.ntmps36
  go_wp2_with fail
  refine (CA.out _).mono ?_; rintro e w' ⟨rfl, rfl⟩
  go_wp2_with fail
  refine (CB.out _).mono ?_; rintro e w' ⟨rfl, rfl⟩
  go_wp2_with fail
  go_ret2
  exact ⟨rfl, 0, rfl⟩

set_option maxRecDepth 100000 in
set_option maxHeartbeats 2000000 in
theorem refd_mul_64 (a b x y : Int) (w : World) (ca : refCut64 a x) (cb : refCut64 b y) (hx : 0 ≤ x) (hx' : x ≤ 18446744073709551615) (hy : 0 ≤ y) (hy' : y ≤ 18446744073709551615) :
    Calls Try.prog 36 #[.int .u8 32, .bool true, .int .i16 0, .int .u64 a, .int .u64 b] w (Did (aluZ true 32 0 x y % 18446744073709551616) 0 w) := by
  have hz : aluZ true 32 0 x y = x * y := rfl
  rw [hz]
  clear hz
  have CA := Lib.hid ca
  have CB := Lib.hid cb
  clear ca cb
  go_enter Try.func36, Try.ntmps36
  go_wp2_with fail
  refine (CA.out _).mono ?_; rintro e w' ⟨rfl, rfl⟩
  go_wp2_with fail
  refine (CB.out _).mono ?_; rintro e w' ⟨rfl, rfl⟩
  go_wp2_with fail
  refine (ref_cut_64 _ _ (by first | omega | exact (u64_rng _).1) (by first | omega | exact (u64_rng _).2)).mono ?_; rintro e w' ⟨rfl, rfl⟩
  go_wp2_with fail
  go_ret2
  exact ⟨ret_two (by first | rfl | (rw [IntKind.wrap_u64, Int.emod_emod_of_dvd _ (by decide)]) | (rw [IntKind.wrap_u64]; omega)) rfl, 0, rfl⟩

set_option maxRecDepth 100000 in
set_option maxHeartbeats 2000000 in
theorem refd_no_mul_64 (a b x y : Int) (off : Int) (w : World) (ca : refCut64 a x) (cb : refCut64 b y) (hx : 0 ≤ x) (hx' : x ≤ 18446744073709551615) (hy : 0 ≤ y) (hy' : y ≤ 18446744073709551615) (ho : (off != 0) = true) :
    Calls Try.prog 36 #[.int .u8 32, .bool true, .int .i16 off, .int .u64 a, .int .u64 b] w (Did 0 1 w) := by
  have CA := Lib.hid ca
  have CB := Lib.hid cb
  clear ca cb
  go_enter Try.func36, Try.ntmps36
  go_wp2_with fail
  refine (CA.out _).mono ?_; rintro e w' ⟨rfl, rfl⟩
  go_wp2_with fail
  refine (CB.out _).mono ?_; rintro e w' ⟨rfl, rfl⟩
  go_wp2_with fail
  go_ret2
  exact ⟨rfl, 0, rfl⟩

set_option maxRecDepth 100000 in
set_option maxHeartbeats 2000000 in
theorem refd_or_64 (a b x y : Int) (w : World) (ca : refCut64 a x) (cb : refCut64 b y) (hx : 0 ≤ x) (hx' : x ≤ 18446744073709551615) (hy : 0 ≤ y) (hy' : y ≤ 18446744073709551615) :
    Calls Try.prog 36 #[.int .u8 64, .bool true, .int .i16 0, .int .u64 a, .int .u64 b] w (Did (aluZ true 64 0 x y % 18446744073709551616) 0 w) := by
  have hz : aluZ true 64 0 x y = ((x.toNat ||| y.toNat : Nat) : Int) := rfl
  rw [hz]
  have e0 := Lib.hid (u64_or x y hx (by omega) hy (by omega))
  have e1 := Nat.or_lt_two_pow (n := 64) (x := x.toNat) (y := y.toNat) (by omega) (by omega)
  have e9 : bits .or .u64 x y = ((x.toNat ||| y.toNat : Nat) : Int) := e0.out
  generalize hg : (x.toNat ||| y.toNat) = g at *
  have E9 := Lib.hid e9
  clear e0 e9 hg hz
  have b0 : 0 ≤ bits .or .u64 x y := by rw [E9.out]; omega
  have b1 : bits .or .u64 x y ≤ 18446744073709551615 := by rw [E9.out]; omega
  have CA := Lib.hid ca
  have CB := Lib.hid cb
  clear ca cb
  go_enter Try.func36, Try.ntmps36
  go_wp2_with fail
  refine (CA.out _).mono ?_; rintro e w' ⟨rfl, rfl⟩
  go_wp2_with fail
  refine (CB.out _).mono ?_; rintro e w' ⟨rfl, rfl⟩
  go_wp2_with fail
  refine (ref_cut_64 _ _ (by first | omega | exact (u64_rng _).1) (by first | omega | exact (u64_rng _).2)).mono ?_; rintro e w' ⟨rfl, rfl⟩
  go_wp2_with fail
  go_ret2
  exact ⟨ret_two (by rw [E9.out]) rfl, 0, rfl⟩

set_option maxRecDepth 100000 in
set_option maxHeartbeats 2000000 in
theorem refd_no_or_64 (a b x y : Int) (off : Int) (w : World) (ca : refCut64 a x) (cb : refCut64 b y) (hx : 0 ≤ x) (hx' : x ≤ 18446744073709551615) (hy : 0 ≤ y) (hy' : y ≤ 18446744073709551615) (ho : (off != 0) = true) :
    Calls Try.prog 36 #[.int .u8 64, .bool true, .int .i16 off, .int .u64 a, .int .u64 b] w (Did 0 1 w) := by
  have CA := Lib.hid ca
  have CB := Lib.hid cb
  clear ca cb
  go_enter Try.func36, Try.ntmps36
  go_wp2_with fail
  refine (CA.out _).mono ?_; rintro e w' ⟨rfl, rfl⟩
  go_wp2_with fail
  refine (CB.out _).mono ?_; rintro e w' ⟨rfl, rfl⟩
  go_wp2_with fail
  go_ret2
  exact ⟨rfl, 0, rfl⟩

set_option maxRecDepth 100000 in
set_option maxHeartbeats 2000000 in
theorem refd_and_64 (a b x y : Int) (w : World) (ca : refCut64 a x) (cb : refCut64 b y) (hx : 0 ≤ x) (hx' : x ≤ 18446744073709551615) (hy : 0 ≤ y) (hy' : y ≤ 18446744073709551615) :
    Calls Try.prog 36 #[.int .u8 80, .bool true, .int .i16 0, .int .u64 a, .int .u64 b] w (Did (aluZ true 80 0 x y % 18446744073709551616) 0 w) := by
  have hz : aluZ true 80 0 x y = ((x.toNat &&& y.toNat : Nat) : Int) := rfl
  rw [hz]
  have e0 := Lib.hid (u64_and x y hx (by omega) hy (by omega))
  have e1 := Nat.and_lt_two_pow (n := 64) x.toNat (y := y.toNat) (by omega)
  have e9 : bits .and .u64 x y = ((x.toNat &&& y.toNat : Nat) : Int) := e0.out
  generalize hg : (x.toNat &&& y.toNat) = g at *
  have E9 := Lib.hid e9
  clear e0 e9 hg hz
  have b0 : 0 ≤ bits .and .u64 x y := by rw [E9.out]; omega
  have b1 : bits .and .u64 x y ≤ 18446744073709551615 := by rw [E9.out]; omega
  have CA := Lib.hid ca
  have CB := Lib.hid cb
  clear ca cb
  go_enter Try.func36, Try.ntmps36
  go_wp2_with fail
  refine (CA.out _).mono ?_; rintro e w' ⟨rfl, rfl⟩
  go_wp2_with fail
  refine (CB.out _).mono ?_; rintro e w' ⟨rfl, rfl⟩
  go_wp2_with fail
  refine (ref_cut_64 _ _ (by first | omega | exact (u64_rng _).1) (by first | omega | exact (u64_rng _).2)).mono ?_; rintro e w' ⟨rfl, rfl⟩
  go_wp2_with fail
  go_ret2
  exact ⟨ret_two (by rw [E9.out]) rfl, 0, rfl⟩

set_option maxRecDepth 100000 in
set_option maxHeartbeats 2000000 in
theorem refd_no_and_64 (a b x y : Int) (off : Int) (w : World) (ca : refCut64 a x) (cb : refCut64 b y) (hx : 0 ≤ x) (hx' : x ≤ 18446744073709551615) (hy : 0 ≤ y) (hy' : y ≤ 18446744073709551615) (ho : (off != 0) = true) :
    Calls Try.prog 36 #[.int .u8 80, .bool true, .int .i16 off, .int .u64 a, .int .u64 b] w (Did 0 1 w) := by
  have CA := Lib.hid ca
  have CB := Lib.hid cb
  clear ca cb
  go_enter Try.func36, Try.ntmps36
  go_wp2_with fail
  refine (CA.out _).mono ?_; rintro e w' ⟨rfl, rfl⟩
  go_wp2_with fail
  refine (CB.out _).mono ?_; rintro e w' ⟨rfl, rfl⟩
  go_wp2_with fail
  go_ret2
  exact ⟨rfl, 0, rfl⟩

set_option maxRecDepth 100000 in
set_option maxHeartbeats 2000000 in
theorem refd_xor_64 (a b x y : Int) (w : World) (ca : refCut64 a x) (cb : refCut64 b y) (hx : 0 ≤ x) (hx' : x ≤ 18446744073709551615) (hy : 0 ≤ y) (hy' : y ≤ 18446744073709551615) :
    Calls Try.prog 36 #[.int .u8 160, .bool true, .int .i16 0, .int .u64 a, .int .u64 b] w (Did (aluZ true 160 0 x y % 18446744073709551616) 0 w) := by
  have hz : aluZ true 160 0 x y = ((x.toNat ^^^ y.toNat : Nat) : Int) := rfl
  rw [hz]
  have e0 := Lib.hid (u64_xor x y hx (by omega) hy (by omega))
  have e1 := Nat.xor_lt_two_pow (n := 64) (x := x.toNat) (y := y.toNat) (by omega) (by omega)
  have e9 : bits .xor .u64 x y = ((x.toNat ^^^ y.toNat : Nat) : Int) := e0.out
  generalize hg : (x.toNat ^^^ y.toNat) = g at *
  have E9 := Lib.hid e9
  clear e0 e9 hg hz
  have b0 : 0 ≤ bits .xor .u64 x y := by rw [E9.out]; omega
  have b1 : bits .xor .u64 x y ≤ 18446744073709551615 := by rw [E9.out]; omega
  have CA := Lib.hid ca
  have CB := Lib.hid cb
  clear ca cb
  go_enter Try.func36, Try.ntmps36
  go_wp2_with fail
  refine (CA.out _).mono ?_; rintro e w' ⟨rfl, rfl⟩
  go_wp2_with fail
  refine (CB.out _).mono ?_; rintro e w' ⟨rfl, rfl⟩
  go_wp2_with fail
  refine (ref_cut_64 _ _ (by first | omega | exact (u64_rng _).1) (by first | omega | exact (u64_rng _).2)).mono ?_; rintro e w' ⟨rfl, rfl⟩
  go_wp2_with fail
  go_ret2
  exact ⟨ret_two (by rw [E9.out]) rfl, 0, rfl⟩

set_option maxRecDepth 100000 in
set_option maxHeartbeats 2000000 in
theorem refd_no_xor_64 (a b x y : Int) (off : Int) (w : World) (ca : refCut64 a x) (cb : refCut64 b y) (hx : 0 ≤ x) (hx' : x ≤ 18446744073709551615) (hy : 0 ≤ y) (hy' : y ≤ 18446744073709551615) (ho : (off != 0) = true) :
    Calls Try.prog 36 #[.int .u8 160, .bool true, .int .i16 off, .int .u64 a, .int .u64 b] w (Did 0 1 w) := by
  have CA := Lib.hid ca
  have CB := Lib.hid cb
  clear ca cb
  go_enter Try.func36, Try.ntmps36
  go_wp2_with fail
  refine (CA.out _).mono ?_; rintro e w' ⟨rfl, rfl⟩
  go_wp2_with fail
  refine (CB.out _).mono ?_; rintro e w' ⟨rfl, rfl⟩
  go_wp2_with fail
  go_ret2
  exact ⟨rfl, 0, rfl⟩

set_option maxRecDepth 100000 in
set_option maxHeartbeats 2000000 in
theorem refd_lsh_64 (a b x y : Int) (w : World) (ca : refCut64 a x) (cb : refCut64 b y) (hx : 0 ≤ x) (hx' : x ≤ 18446744073709551615) (hy : 0 ≤ y) (hy' : y ≤ 18446744073709551615) :
    Calls Try.prog 36 #[.int .u8 96, .bool true, .int .i16 0, .int .u64 a, .int .u64 b] w (Did (aluZ true 96 0 x y % 18446744073709551616) 0 w) := by
  have hz : aluZ true 96 0 x y = x * 2 ^ (y % 64).toNat := rfl
  rw [hz]
  clear hz
  have CA := Lib.hid ca
  have CB := Lib.hid cb
  clear ca cb
  go_enter Try.func36, Try.ntmps36
  go_wp2_with fail
  refine (CA.out _).mono ?_; rintro e w' ⟨rfl, rfl⟩
  go_wp2_with fail
  refine (CB.out _).mono ?_; rintro e w' ⟨rfl, rfl⟩
  go_wp2_with fail
  refine (ref_cut_64 _ _ (by first | omega | exact (u64_rng _).1) (by first | omega | exact (u64_rng _).2)).mono ?_; rintro e w' ⟨rfl, rfl⟩
  go_wp2_with fail
  go_ret2
  exact ⟨ret_two (by first | rfl | (rw [IntKind.wrap_u64, Int.emod_emod_of_dvd _ (by decide)]) | (rw [IntKind.wrap_u64]; omega)) rfl, 0, rfl⟩

set_option maxRecDepth 100000 in
set_option maxHeartbeats 2000000 in
theorem refd_no_lsh_64 (a b x y : Int) (off : Int) (w : World) (ca : refCut64 a x) (cb : refCut64 b y) (hx : 0 ≤ x) (hx' : x ≤ 18446744073709551615) (hy : 0 ≤ y) (hy' : y ≤ 18446744073709551615) (ho : (off != 0) = true) :
    Calls Try.prog 36 #[.int .u8 96, .bool true, .int .i16 off, .int .u64 a, .int .u64 b] w (Did 0 1 w) := by
  have CA := Lib.hid ca
  have CB := Lib.hid cb
  clear ca cb
  go_enter Try.func36, Try.ntmps36
  go_wp2_with fail
  refine (CA.out _).mono ?_; rintro e w' ⟨rfl, rfl⟩
  go_wp2_with fail
  refine (CB.out _).mono ?_; rintro e w' ⟨rfl, rfl⟩
  go_wp2_with fail
  go_ret2
  exact ⟨rfl, 0, rfl⟩

set_option maxRecDepth 100000 in
set_option maxHeartbeats 2000000 in
theorem refd_rsh_64 (a b x y : Int) (w : World) (ca : refCut64 a x) (cb : refCut64 b y) (hx : 0 ≤ x) (hx' : x ≤ 18446744073709551615) (hy : 0 ≤ y) (hy' : y ≤ 18446744073709551615) :
    Calls Try.prog 36 #[.int .u8 112, .bool true, .int .i16 0, .int .u64 a, .int .u64 b] w (Did (aluZ true 112 0 x y % 18446744073709551616) 0 w) := by
  have hz : aluZ true 112 0 x y = x / 2 ^ (y % 64).toNat := rfl
  rw [hz]
  clear hz
  have q0 := shr_range x (y % 64).toNat hx
  obtain ⟨q1, q2⟩ := q0
  have CA := Lib.hid ca
  have CB := Lib.hid cb
  clear ca cb
  go_enter Try.func36, Try.ntmps36
  go_wp2_with fail
  refine (CA.out _).mono ?_; rintro e w' ⟨rfl, rfl⟩
  go_wp2_with fail
  refine (CB.out _).mono ?_; rintro e w' ⟨rfl, rfl⟩
  go_wp2_with fail
  refine (ref_cut_64 _ _ (by first | omega | exact (u64_rng _).1) (by first | omega | exact (u64_rng _).2)).mono ?_; rintro e w' ⟨rfl, rfl⟩
  go_wp2_with fail
  go_ret2
  exact ⟨ret_two (by first | rfl | (rw [IntKind.wrap_u64, Int.emod_emod_of_dvd _ (by decide)]) | (rw [IntKind.wrap_u64]; omega)) rfl, 0, rfl⟩

set_option maxRecDepth 100000 in
set_option maxHeartbeats 2000000 in
theorem refd_no_rsh_64 (a b x y : Int) (off : Int) (w : World) (ca : refCut64 a x) (cb : refCut64 b y) (hx : 0 ≤ x) (hx' : x ≤ 18446744073709551615) (hy : 0 ≤ y) (hy' : y ≤ 18446744073709551615) (ho : (off != 0) = true) :
    Calls Try.prog 36 #[.int .u8 112, .bool true, .int .i16 off, .int .u64 a, .int .u64 b] w (Did 0 1 w) := by
  have CA := Lib.hid ca
  have CB := Lib.hid cb
  clear ca cb
  go_enter Try.func36, Try.ntmps36
  go_wp2_with fail
  refine (CA.out _).mono ?_; rintro e w' ⟨rfl, rfl⟩
  go_wp2_with fail
  refine (CB.out _).mono ?_; rintro e w' ⟨rfl, rfl⟩
  go_wp2_with fail
  go_ret2
  exact ⟨rfl, 0, rfl⟩

set_option maxRecDepth 100000 in
set_option maxHeartbeats 2000000 in
theorem refd_neg_64 (a b x y : Int) (w : World) (ca : refCut64 a x) (cb : refCut64 b y) (hx : 0 ≤ x) (hx' : x ≤ 18446744073709551615) (hy : 0 ≤ y) (hy' : y ≤ 18446744073709551615) :
    Calls Try.prog 36 #[.int .u8 128, .bool true, .int .i16 0, .int .u64 a, .int .u64 b] w (Did (aluZ true 128 0 x y % 18446744073709551616) 0 w) := by
  have hz : aluZ true 128 0 x y = -x := rfl
  rw [hz]
  clear hz
  have CA := Lib.hid ca
  have CB := Lib.hid cb
  clear ca cb
  go_enter Try.func36, Try.ntmps36
  go_wp2_with fail
  refine (CA.out _).mono ?_; rintro e w' ⟨rfl, rfl⟩
  go_wp2_with fail
  refine (CB.out _).mono ?_; rintro e w' ⟨rfl, rfl⟩
  go_wp2_with fail
  refine (ref_cut_64 _ _ (by first | omega | exact (u64_rng _).1) (by first | omega | exact (u64_rng _).2)).mono ?_; rintro e w' ⟨rfl, rfl⟩
  go_wp2_with fail
  go_ret2
  exact ⟨ret_two (by first | rfl | (rw [IntKind.wrap_u64, Int.emod_emod_of_dvd _ (by decide)]) | (rw [IntKind.wrap_u64]; omega)) rfl, 0, rfl⟩

set_option maxRecDepth 100000 in
set_option maxHeartbeats 2000000 in
theorem refd_no_neg_64 (a b x y : Int) (off : Int) (w : World) (ca : refCut64 a x) (cb : refCut64 b y) (hx : 0 ≤ x) (hx' : x ≤ 18446744073709551615) (hy : 0 ≤ y) (hy' : y ≤ 18446744073709551615) (ho : (off != 0) = true) :
    Calls Try.prog 36 #[.int .u8 128, .bool true, .int .i16 off, .int .u64 a, .int .u64 b] w (Did 0 1 w) := by
  have CA := Lib.hid ca
  have CB := Lib.hid cb
  clear ca cb
  go_enter Try.func36, Try.ntmps36
  go_wp2_with fail
  refine (CA.out _).mono ?_; rintro e w' ⟨rfl, rfl⟩
  go_wp2_with fail
  refine (CB.out _).mono ?_; rintro e w' ⟨rfl, rfl⟩
  go_wp2_with fail
  go_ret2
  exact ⟨rfl, 0, rfl⟩

set_option maxRecDepth 100000 in
set_option maxHeartbeats 2000000 in
theorem refd_arsh_p_64 (a b x y : Int) (w : World) (ca : refCut64 a x) (cb : refCut64 b y) (hx : 0 ≤ x) (hx' : x ≤ 18446744073709551615) (hy : 0 ≤ y) (hy' : y ≤ 18446744073709551615) (hc : x * 2 < 18446744073709551616) :
    Calls Try.prog 36 #[.int .u8 192, .bool true, .int .i16 0, .int .u64 a, .int .u64 b] w (Did (aluZ true 192 0 x y % 18446744073709551616) 0 w) := by
  have hn := Lib.hid fun w => ref_neg_64 x false w (beq_eq_false_iff_ne.mpr (by omega))
  have q0 := shr_range x (y % 64).toNat hx
  obtain ⟨q1, q2⟩ := q0
  have hz : aluZ true 192 0 x y = wrap64 x / 2 ^ (y % 64).toNat := rfl
  rw [hz]
  clear hz
  have hw : wrap64 x = x := by unfold wrap64; omega
  rw [hw]
  clear hw hc
  have CA := Lib.hid ca
  have CB := Lib.hid cb
  clear ca cb
  go_enter Try.func36, Try.ntmps36
  go_wp2_with fail
  refine (CA.out _).mono ?_; rintro e w' ⟨rfl, rfl⟩
  go_wp2_with fail
  refine (CB.out _).mono ?_; rintro e w' ⟨rfl, rfl⟩
  go_wp2_with fail
  refine (hn.out _).mono ?_; rintro e w' ⟨rfl, rfl⟩
  go_wp2_with fail
  refine (ref_cut_64 _ _ (by first | omega | exact (u64_rng _).1) (by first | omega | exact (u64_rng _).2)).mono ?_; rintro e w' ⟨rfl, rfl⟩
  go_wp2_with fail
  go_ret2
  exact ⟨rfl, 0, rfl⟩

set_option maxRecDepth 100000 in
set_option maxHeartbeats 2000000 in
theorem refd_no_arsh_p_64 (a b x y : Int) (off : Int) (w : World) (ca : refCut64 a x) (cb : refCut64 b y) (hx : 0 ≤ x) (hx' : x ≤ 18446744073709551615) (hy : 0 ≤ y) (hy' : y ≤ 18446744073709551615) (hc : x * 2 < 18446744073709551616) (ho : (off != 0) = true) :
    Calls Try.prog 36 #[.int .u8 192, .bool true, .int .i16 off, .int .u64 a, .int .u64 b] w (Did 0 1 w) := by
  have hn := Lib.hid fun w => ref_neg_64 x false w (beq_eq_false_iff_ne.mpr (by omega))
  have CA := Lib.hid ca
  have CB := Lib.hid cb
  clear ca cb
  go_enter Try.func36, Try.ntmps36
  go_wp2_with fail
  refine (CA.out _).mono ?_; rintro e w' ⟨rfl, rfl⟩
  go_wp2_with fail
  refine (CB.out _).mono ?_; rintro e w' ⟨rfl, rfl⟩
  go_wp2_with fail
  refine (hn.out _).mono ?_; rintro e w' ⟨rfl, rfl⟩
  go_wp2_with fail
  go_ret2
  exact ⟨rfl, 0, rfl⟩

set_option maxRecDepth 100000 in
set_option maxHeartbeats 2000000 in
theorem refd_arsh_n_64 (a b x y : Int) (w : World) (ca : refCut64 a x) (cb : refCut64 b y) (hx : 0 ≤ x) (hx' : x ≤ 18446744073709551615) (hy : 0 ≤ y) (hy' : y ≤ 18446744073709551615) (hc : ¬ x * 2 < 18446744073709551616) :
    Calls Try.prog 36 #[.int .u8 192, .bool true, .int .i16 0, .int .u64 a, .int .u64 b] w (Did (aluZ true 192 0 x y % 18446744073709551616) 0 w) := by
  have hn := Lib.hid fun w => ref_neg_64 x true w (beq_iff_eq.mpr (by omega))
  have q0 := shr_range x (y % 64).toNat hx
  obtain ⟨q1, q2⟩ := q0
  have hz : aluZ true 192 0 x y = wrap64 x / 2 ^ (y % 64).toNat := rfl
  rw [hz]
  clear hz
  have A1 := Lib.hid (arsh_neg_64 x y hx hx' hc)
  have CA := Lib.hid ca
  have CB := Lib.hid cb
  clear ca cb
  go_enter Try.func36, Try.ntmps36
  go_wp2_with fail
  refine (CA.out _).mono ?_; rintro e w' ⟨rfl, rfl⟩
  go_wp2_with fail
  refine (CB.out _).mono ?_; rintro e w' ⟨rfl, rfl⟩
  go_wp2_with fail
  refine (hn.out _).mono ?_; rintro e w' ⟨rfl, rfl⟩
  go_wp2_with fail
  refine (ref_cut_64 _ _ (by decide) (by decide)).mono ?_; rintro e w' ⟨rfl, rfl⟩
  go_wp2_with fail
  refine (ref_cut_64 _ _ (by first | omega | exact (u64_rng _).1) (by first | omega | exact (u64_rng _).2)).mono ?_; rintro e w' ⟨rfl, rfl⟩
  go_wp2_with fail
  go_ret2
  exact ⟨ret_two A1.out rfl, 0, rfl⟩

set_option maxRecDepth 100000 in
set_option maxHeartbeats 2000000 in
theorem refd_no_arsh_n_64 (a b x y : Int) (off : Int) (w : World) (ca : refCut64 a x) (cb : refCut64 b y) (hx : 0 ≤ x) (hx' : x ≤ 18446744073709551615) (hy : 0 ≤ y) (hy' : y ≤ 18446744073709551615) (hc : ¬ x * 2 < 18446744073709551616) (ho : (off != 0) = true) :
    Calls Try.prog 36 #[.int .u8 192, .bool true, .int .i16 off, .int .u64 a, .int .u64 b] w (Did 0 1 w) := by
  have hn := Lib.hid fun w => ref_neg_64 x true w (beq_iff_eq.mpr (by omega))
  have CA := Lib.hid ca
  have CB := Lib.hid cb
  clear ca cb
  go_enter Try.func36, Try.ntmps36
  go_wp2_with fail
  refine (CA.out _).mono ?_; rintro e w' ⟨rfl, rfl⟩
  go_wp2_with fail
  refine (CB.out _).mono ?_; rintro e w' ⟨rfl, rfl⟩
  go_wp2_with fail
  refine (hn.out _).mono ?_; rintro e w' ⟨rfl, rfl⟩
  go_wp2_with fail
  refine (ref_cut_64 _ _ (by decide) (by decide)).mono ?_; rintro e w' ⟨rfl, rfl⟩
  go_wp2_with fail
  go_ret2
  exact ⟨rfl, 0, rfl⟩

set_option maxRecDepth 100000 in
set_option maxHeartbeats 2000000 in
theorem refd_mov0_64 (a b x y : Int) (w : World) (ca : refCut64 a x) (cb : refCut64 b y) (hx : 0 ≤ x) (hx' : x ≤ 18446744073709551615) (hy : 0 ≤ y) (hy' : y ≤ 18446744073709551615) :
    Calls Try.prog 36 #[.int .u8 176, .bool true, .int .i16 0, .int .u64 a, .int .u64 b] w (Did (aluZ true 176 0 x y % 18446744073709551616) 0 w) := by
  have hz : aluZ true 176 0 x y = y := signW_0 y
  rw [hz]
  clear hz
  have CA := Lib.hid ca
  have CB := Lib.hid cb
  clear ca cb
  go_enter Try.func36, Try.ntmps36
  go_wp2_with fail
  refine (CA.out _).mono ?_; rintro e w' ⟨rfl, rfl⟩
  go_wp2_with fail
  refine (CB.out _).mono ?_; rintro e w' ⟨rfl, rfl⟩
  go_wp2_with fail
  refine (ref_cut_64 _ _ (by first | omega | exact (u64_rng _).1) (by first | omega | exact (u64_rng _).2)).mono ?_; rintro e w' ⟨rfl, rfl⟩
  go_wp2_with fail
  go_ret2
  exact ⟨rfl, 0, rfl⟩

set_option maxRecDepth 100000 in
set_option maxHeartbeats 2000000 in
theorem refd_mov8_64 (a b x y : Int) (w : World) (ca : refCut64 a x) (cb : refCut64 b y) (hx : 0 ≤ x) (hx' : x ≤ 18446744073709551615) (hy : 0 ≤ y) (hy' : y ≤ 18446744073709551615) :
    Calls Try.prog 36 #[.int .u8 176, .bool true, .int .i16 8, .int .u64 a, .int .u64 b] w (Did (aluZ true 176 8 x y % 18446744073709551616) 0 w) := by
  have hz : aluZ true 176 8 x y = signW y 8 := rfl
  rw [hz]
  clear hz
  obtain ⟨s0, s1⟩ := signW_range y 8 hy (by omega)
  have CA := Lib.hid ca
  have CB := Lib.hid cb
  clear ca cb
  go_enter Try.func36, Try.ntmps36
  go_wp2_with fail
  refine (CA.out _).mono ?_; rintro e w' ⟨rfl, rfl⟩
  go_wp2_with fail
  refine (CB.out _).mono ?_; rintro e w' ⟨rfl, rfl⟩
  go_wp2_with fail
  refine (ref_sign _ _ _ (by omega) (by omega)).mono ?_; rintro e w' ⟨rfl, rfl⟩
  go_wp2_with fail
  refine (ref_cut_64 _ _ (by omega) (by omega)).mono ?_; rintro e w' ⟨rfl, rfl⟩
  go_wp2_with fail
  go_ret2
  exact ⟨rfl, 0, rfl⟩

set_option maxRecDepth 100000 in
set_option maxHeartbeats 2000000 in
theorem refd_mov16_64 (a b x y : Int) (w : World) (ca : refCut64 a x) (cb : refCut64 b y) (hx : 0 ≤ x) (hx' : x ≤ 18446744073709551615) (hy : 0 ≤ y) (hy' : y ≤ 18446744073709551615) :
    Calls Try.prog 36 #[.int .u8 176, .bool true, .int .i16 16, .int .u64 a, .int .u64 b] w (Did (aluZ true 176 16 x y % 18446744073709551616) 0 w) := by
  have hz : aluZ true 176 16 x y = signW y 16 := rfl
  rw [hz]
  clear hz
  obtain ⟨s0, s1⟩ := signW_range y 16 hy (by omega)
  have CA := Lib.hid ca
  have CB := Lib.hid cb
  clear ca cb
  go_enter Try.func36, Try.ntmps36
  go_wp2_with fail
  refine (CA.out _).mono ?_; rintro e w' ⟨rfl, rfl⟩
  go_wp2_with fail
  refine (CB.out _).mono ?_; rintro e w' ⟨rfl, rfl⟩
  go_wp2_with fail
  refine (ref_sign _ _ _ (by omega) (by omega)).mono ?_; rintro e w' ⟨rfl, rfl⟩
  go_wp2_with fail
  refine (ref_cut_64 _ _ (by omega) (by omega)).mono ?_; rintro e w' ⟨rfl, rfl⟩
  go_wp2_with fail
  go_ret2
  exact ⟨rfl, 0, rfl⟩

set_option maxRecDepth 100000 in
set_option maxHeartbeats 2000000 in
theorem refd_mov32_64 (a b x y : Int) (w : World) (ca : refCut64 a x) (cb : refCut64 b y) (hx : 0 ≤ x) (hx' : x ≤ 18446744073709551615) (hy : 0 ≤ y) (hy' : y ≤ 18446744073709551615) :
    Calls Try.prog 36 #[.int .u8 176, .bool true, .int .i16 32, .int .u64 a, .int .u64 b] w (Did (aluZ true 176 32 x y % 18446744073709551616) 0 w) := by
  have hz : aluZ true 176 32 x y = signW y 32 := rfl
  rw [hz]
  clear hz
  obtain ⟨s0, s1⟩ := signW_range y 32 hy (by omega)
  have CA := Lib.hid ca
  have CB := Lib.hid cb
  clear ca cb
  go_enter Try.func36, Try.ntmps36
  go_wp2_with fail
  refine (CA.out _).mono ?_; rintro e w' ⟨rfl, rfl⟩
  go_wp2_with fail
  refine (CB.out _).mono ?_; rintro e w' ⟨rfl, rfl⟩
  go_wp2_with fail
  refine (ref_sign _ _ _ (by omega) (by omega)).mono ?_; rintro e w' ⟨rfl, rfl⟩
  go_wp2_with fail
  refine (ref_cut_64 _ _ (by omega) (by omega)).mono ?_; rintro e w' ⟨rfl, rfl⟩
  go_wp2_with fail
  go_ret2
  exact ⟨rfl, 0, rfl⟩

set_option maxRecDepth 100000 in
set_option maxHeartbeats 2000000 in
theorem refd_no_mov_64 (a b x y : Int) (off : Int) (w : World) (ca : refCut64 a x) (cb : refCut64 b y) (hx : 0 ≤ x) (hx' : x ≤ 18446744073709551615) (hy : 0 ≤ y) (hy' : y ≤ 18446744073709551615) (ho : (off != 0) = true) (h8 : (off == 8) = false) (h16 : (off == 16) = false) (h32 : (off == 32) = false) :
    Calls Try.prog 36 #[.int .u8 176, .bool true, .int .i16 off, .int .u64 a, .int .u64 b] w (Did 0 1 w) := by
  have CA := Lib.hid ca
  have CB := Lib.hid cb
  clear ca cb
  go_enter Try.func36, Try.ntmps36
  go_wp2_with fail
  refine (CA.out _).mono ?_; rintro e w' ⟨rfl, rfl⟩
  go_wp2_with fail
  refine (CB.out _).mono ?_; rintro e w' ⟨rfl, rfl⟩
  go_wp2_with fail
  all_goals go_ret2
  all_goals exact ⟨rfl, 0, rfl⟩

set_option maxRecDepth 100000 in
set_option maxHeartbeats 2000000 in
theorem refd_div0_64 (a b x y : Int) (w : World) (ca : refCut64 a x) (cb : refCut64 b y) (hx : 0 ≤ x) (hx' : x ≤ 18446744073709551615) (hy : 0 ≤ y) (hy' : y ≤ 18446744073709551615) :
    Calls Try.prog 36 #[.int .u8 48, .bool true, .int .i16 0, .int .u64 a, .int .u64 b] w (Did (aluZ true 48 0 x y % 18446744073709551616) 0 w) := by
  have hp := Lib.hid fun w => ref_parts_u_64 x y w hx hx' hy hy'
  have CA := Lib.hid ca
  have CB := Lib.hid cb
  clear ca cb
  go_enter Try.func36, Try.ntmps36
  go_wp2_with fail
  refine (CA.out _).mono ?_; rintro e w' ⟨rfl, rfl⟩
  go_wp2_with fail
  refine (CB.out _).mono ?_; rintro e w' ⟨rfl, rfl⟩
  go_wp2_with fail
  refine (hp.out _).mono ?_; rintro e w' ⟨rfl, n, rfl⟩
  go_wp2_with fail
  go_ret2
  exact ⟨rfl, _, rfl⟩

set_option maxRecDepth 100000 in
set_option maxHeartbeats 2000000 in
theorem refd_div1_64 (a b x y : Int) (w : World) (ca : refCut64 a x) (cb : refCut64 b y) (hx : 0 ≤ x) (hx' : x ≤ 18446744073709551615) (hy : 0 ≤ y) (hy' : y ≤ 18446744073709551615) :
    Calls Try.prog 36 #[.int .u8 48, .bool true, .int .i16 1, .int .u64 a, .int .u64 b] w (Did (aluZ true 48 1 x y % 18446744073709551616) 0 w) := by
  have hp := Lib.hid fun w => ref_parts_1_64 x y w hx hx' hy hy'
  have CA := Lib.hid ca
  have CB := Lib.hid cb
  clear ca cb
  go_enter Try.func36, Try.ntmps36
  go_wp2_with fail
  refine (CA.out _).mono ?_; rintro e w' ⟨rfl, rfl⟩
  go_wp2_with fail
  refine (CB.out _).mono ?_; rintro e w' ⟨rfl, rfl⟩
  go_wp2_with fail
  refine (hp.out _).mono ?_; rintro e w' ⟨rfl, n, rfl⟩
  go_wp2_with fail
  go_ret2
  exact ⟨rfl, _, rfl⟩

set_option maxRecDepth 100000 in
set_option maxHeartbeats 2000000 in
theorem refd_no_div_64 (a b x y : Int) (off : Int) (w : World) (ca : refCut64 a x) (cb : refCut64 b y) (hx : 0 ≤ x) (hx' : x ≤ 18446744073709551615) (hy : 0 ≤ y) (hy' : y ≤ 18446744073709551615) (ho : (off != 0) = true) (h1 : (off != 1) = true) :
    Calls Try.prog 36 #[.int .u8 48, .bool true, .int .i16 off, .int .u64 a, .int .u64 b] w (Did 0 1 w) := by
  have CA := Lib.hid ca
  have CB := Lib.hid cb
  clear ca cb
  go_enter Try.func36, Try.ntmps36
  go_wp2_with fail
  refine (CA.out _).mono ?_; rintro e w' ⟨rfl, rfl⟩
  go_wp2_with fail
  refine (CB.out _).mono ?_; rintro e w' ⟨rfl, rfl⟩
  go_wp2_with fail
  go_ret2
  exact ⟨rfl, 0, rfl⟩

set_option maxRecDepth 100000 in
set_option maxHeartbeats 2000000 in
theorem refd_mod0_64 (a b x y : Int) (w : World) (ca : refCut64 a x) (cb : refCut64 b y) (hx : 0 ≤ x) (hx' : x ≤ 18446744073709551615) (hy : 0 ≤ y) (hy' : y ≤ 18446744073709551615) :
    Calls Try.prog 36 #[.int .u8 144, .bool true, .int .i16 0, .int .u64 a, .int .u64 b] w (Did (aluZ true 144 0 x y % 18446744073709551616) 0 w) := by
  have hp := Lib.hid fun w => ref_parts_u_64 x y w hx hx' hy hy'
  have CA := Lib.hid ca
  have CB := Lib.hid cb
  clear ca cb
  go_enter Try.func36, Try.ntmps36
  go_wp2_with fail
  refine (CA.out _).mono ?_; rintro e w' ⟨rfl, rfl⟩
  go_wp2_with fail
  refine (CB.out _).mono ?_; rintro e w' ⟨rfl, rfl⟩
  go_wp2_with fail
  refine (hp.out _).mono ?_; rintro e w' ⟨rfl, n, rfl⟩
  go_wp2_with fail
  go_ret2
  exact ⟨rfl, _, rfl⟩

set_option maxRecDepth 100000 in
set_option maxHeartbeats 2000000 in
theorem refd_mod1_64 (a b x y : Int) (w : World) (ca : refCut64 a x) (cb : refCut64 b y) (hx : 0 ≤ x) (hx' : x ≤ 18446744073709551615) (hy : 0 ≤ y) (hy' : y ≤ 18446744073709551615) :
    Calls Try.prog 36 #[.int .u8 144, .bool true, .int .i16 1, .int .u64 a, .int .u64 b] w (Did (aluZ true 144 1 x y % 18446744073709551616) 0 w) := by
  have hp := Lib.hid fun w => ref_parts_1_64 x y w hx hx' hy hy'
  have CA := Lib.hid ca
  have CB := Lib.hid cb
  clear ca cb
  go_enter Try.func36, Try.ntmps36
  go_wp2_with fail
  refine (CA.out _).mono ?_; rintro e w' ⟨rfl, rfl⟩
  go_wp2_with fail
  refine (CB.out _).mono ?_; rintro e w' ⟨rfl, rfl⟩
  go_wp2_with fail
  refine (hp.out _).mono ?_; rintro e w' ⟨rfl, n, rfl⟩
  go_wp2_with fail
  go_ret2
  exact ⟨rfl, _, rfl⟩

set_option maxRecDepth 100000 in
set_option maxHeartbeats 2000000 in
theorem refd_no_mod_64 (a b x y : Int) (off : Int) (w : World) (ca : refCut64 a x) (cb : refCut64 b y) (hx : 0 ≤ x) (hx' : x ≤ 18446744073709551615) (hy : 0 ≤ y) (hy' : y ≤ 18446744073709551615) (ho : (off != 0) = true) (h1 : (off != 1) = true) :
    Calls Try.prog 36 #[.int .u8 144, .bool true, .int .i16 off, .int .u64 a, .int .u64 b] w (Did 0 1 w) := by
  have CA := Lib.hid ca
  have CB := Lib.hid cb
  clear ca cb
  go_enter Try.func36, Try.ntmps36
  go_wp2_with fail
  refine (CA.out _).mono ?_; rintro e w' ⟨rfl, rfl⟩
  go_wp2_with fail
  refine (CB.out _).mono ?_; rintro e w' ⟨rfl, rfl⟩
  go_wp2_with fail
  go_ret2
  exact ⟨rfl, 0, rfl⟩

set_option maxRecDepth 100000 in
set_option maxHeartbeats 2000000 in
theorem refd_none_64 (op off : Int) (a b x y : Int) (w : World) (ca : refCut64 a x) (cb : refCut64 b y) (hx : 0 ≤ x) (hx' : x ≤ 18446744073709551615) (hy : 0 ≤ y) (hy' : y ≤ 18446744073709551615) (k0 : (op == 0) = false) (k16 : (op == 16) = false) (k32 : (op == 32) = false) (k64 : (op == 64) = false) (k80 : (op == 80) = false) (k160 : (op == 160) = false) (k96 : (op == 96) = false) (k112 : (op == 112) = false) (k192 : (op == 192) = false) (k128 : (op == 128) = false) (k176 : (op == 176) = false) (k48 : (op == 48) = false) (k144 : (op == 144) = false) :
    Calls Try.prog 36 #[.int .u8 op, .bool true, .int .i16 off, .int .u64 a, .int .u64 b] w (Did 0 1 w) := by
  have CA := Lib.hid ca
  have CB := Lib.hid cb
  clear ca cb
  go_enter Try.func36, Try.ntmps36
  go_wp2_with fail
  refine (CA.out _).mono ?_; rintro e w' ⟨rfl, rfl⟩
  go_wp2_with fail
  refine (CB.out _).mono ?_; rintro e w' ⟨rfl, rfl⟩
  go_wp2_with fail
  go_ret2
  exact ⟨rfl, 0, rfl⟩

end Go.Proofs.Ytfepokiibdkoeaa


/-
  The document's own Do, of whatever op and numbers: aluV, and the error aluE.
  Conditions: the numbers fit their kinds.
-/
namespace Go.Proofs.Ytfepokiibdkoeaa
open Go.RowKit
set_option linter.unusedVariables false

theorem ne_true {a b : Int} (h : ¬ a = b) : (a != b) = true := bne_iff_ne.mpr h
theorem eq_false {a b : Int} (h : ¬ a = b) : (a == b) = false := beq_eq_false_iff_ne.mpr h

theorem refdo_64 (op off a b : Int) (w : World) (ha : 0 ≤ a) (ha' : a ≤ 18446744073709551615) (hb : 0 ≤ b) (hb' : b ≤ 18446744073709551615) :
    Calls Try.prog 36 #[.int .u8 op, .bool true, .int .i16 off, .int .u64 a, .int .u64 b] w (Did (aluV true op off a b) (aluE true op off) w) := by
  have ca : refCut64 a (a % 18446744073709551616) := fun w => ref_cut_64 a w ha ha'
  have cb : refCut64 b (b % 18446744073709551616) := fun w => ref_cut_64 b w hb hb'
  cases hf : aluFits op true off
  · have e1 : aluV true op off a b = 0 := by unfold aluV; rw [hf]; rfl
    have e2 : aluE true op off = 1 := by unfold aluE; rw [hf]; rfl
    rw [e1, e2]
    rcases op_cases op with h | h | h | h
    · have h01 : (off == 0 || off == 1) = false := by rw [← hf]; unfold aluFits; rw [if_pos h]
      simp at h01
      rcases h with rfl | rfl
      · exact refd_no_div_64 a b (a % 18446744073709551616) (b % 18446744073709551616) off w ca cb (by omega) (by omega) (by omega) (by omega) (ne_true h01.1) (ne_true h01.2)
      · exact refd_no_mod_64 a b (a % 18446744073709551616) (b % 18446744073709551616) off w ca cb (by omega) (by omega) (by omega) (by omega) (ne_true h01.1) (ne_true h01.2)
    · subst h
      have h01 : (off == 0 || off == 8 || off == 16 || (off == 32 && true)) = false := hf
      simp at h01
      exact refd_no_mov_64 a b (a % 18446744073709551616) (b % 18446744073709551616) off w ca cb (by omega) (by omega) (by omega) (by omega) (ne_true h01.1.1.1) (eq_false h01.1.1.2) (eq_false h01.1.2) (eq_false h01.2)
    · have h0 : (off == 0) = false := by rw [← hf]; unfold aluFits; rw [if_neg (by omega), if_neg (by omega), if_pos h]
      have hn : (off != 0) = true := ne_true (by simpa using h0)
      rcases h with rfl | rfl | rfl | rfl | rfl | rfl | rfl | rfl | rfl | rfl
      · exact refd_no_add_64 a b (a % 18446744073709551616) (b % 18446744073709551616) off w ca cb (by omega) (by omega) (by omega) (by omega) hn
      · exact refd_no_sub_64 a b (a % 18446744073709551616) (b % 18446744073709551616) off w ca cb (by omega) (by omega) (by omega) (by omega) hn
      · exact refd_no_mul_64 a b (a % 18446744073709551616) (b % 18446744073709551616) off w ca cb (by omega) (by omega) (by omega) (by omega) hn
      · exact refd_no_or_64 a b (a % 18446744073709551616) (b % 18446744073709551616) off w ca cb (by omega) (by omega) (by omega) (by omega) hn
      · exact refd_no_and_64 a b (a % 18446744073709551616) (b % 18446744073709551616) off w ca cb (by omega) (by omega) (by omega) (by omega) hn
      · exact refd_no_xor_64 a b (a % 18446744073709551616) (b % 18446744073709551616) off w ca cb (by omega) (by omega) (by omega) (by omega) hn
      · exact refd_no_lsh_64 a b (a % 18446744073709551616) (b % 18446744073709551616) off w ca cb (by omega) (by omega) (by omega) (by omega) hn
      · exact refd_no_rsh_64 a b (a % 18446744073709551616) (b % 18446744073709551616) off w ca cb (by omega) (by omega) (by omega) (by omega) hn
      · by_cases hc : a % 18446744073709551616 * 2 < 18446744073709551616
        · exact refd_no_arsh_p_64 a b (a % 18446744073709551616) (b % 18446744073709551616) off w ca cb (by omega) (by omega) (by omega) (by omega) hc hn
        · exact refd_no_arsh_n_64 a b (a % 18446744073709551616) (b % 18446744073709551616) off w ca cb (by omega) (by omega) (by omega) (by omega) hc hn
      · exact refd_no_neg_64 a b (a % 18446744073709551616) (b % 18446744073709551616) off w ca cb (by omega) (by omega) (by omega) (by omega) hn
    · obtain ⟨⟨a1, a2, a3, a4, a5, a6, a7⟩, a8, a9, a10, a11, a12, a13⟩ := h
      exact refd_none_64 op off a b (a % 18446744073709551616) (b % 18446744073709551616) w ca cb (by omega) (by omega) (by omega) (by omega) (eq_false a1) (eq_false a2) (eq_false a3) (eq_false a4) (eq_false a5) (eq_false a6) (eq_false a7) (eq_false a8) (eq_false a9) (eq_false a10) (eq_false a13) (eq_false a11) (eq_false a12)
  · have e1 : aluV true op off a b = aluZ true op off (a % 18446744073709551616) (b % 18446744073709551616) % 18446744073709551616 := by unfold aluV; rw [hf, if_pos rfl]; rfl
    have e2 : aluE true op off = 0 := by unfold aluE; rw [hf]; rfl
    rw [e1, e2]
    rcases fits_ops hf with ⟨rfl, rfl⟩ | ⟨rfl, rfl⟩ | ⟨rfl, rfl⟩ | ⟨rfl, rfl⟩ | ⟨rfl, rfl⟩ | ⟨rfl, rfl⟩ | ⟨rfl, rfl⟩ | ⟨rfl, rfl⟩ | ⟨rfl, rfl⟩ | ⟨rfl, rfl⟩ | ⟨rfl, rfl | rfl | rfl | ⟨rfl, hw⟩⟩ | ⟨rfl, rfl | rfl⟩ | ⟨rfl, rfl | rfl⟩
    · exact refd_add_64 a b (a % 18446744073709551616) (b % 18446744073709551616) w ca cb (by omega) (by omega) (by omega) (by omega)
    · exact refd_sub_64 a b (a % 18446744073709551616) (b % 18446744073709551616) w ca cb (by omega) (by omega) (by omega) (by omega)
    · exact refd_mul_64 a b (a % 18446744073709551616) (b % 18446744073709551616) w ca cb (by omega) (by omega) (by omega) (by omega)
    · exact refd_or_64 a b (a % 18446744073709551616) (b % 18446744073709551616) w ca cb (by omega) (by omega) (by omega) (by omega)
    · exact refd_and_64 a b (a % 18446744073709551616) (b % 18446744073709551616) w ca cb (by omega) (by omega) (by omega) (by omega)
    · exact refd_xor_64 a b (a % 18446744073709551616) (b % 18446744073709551616) w ca cb (by omega) (by omega) (by omega) (by omega)
    · exact refd_lsh_64 a b (a % 18446744073709551616) (b % 18446744073709551616) w ca cb (by omega) (by omega) (by omega) (by omega)
    · exact refd_rsh_64 a b (a % 18446744073709551616) (b % 18446744073709551616) w ca cb (by omega) (by omega) (by omega) (by omega)
    · by_cases hc : a % 18446744073709551616 * 2 < 18446744073709551616
      · exact refd_arsh_p_64 a b (a % 18446744073709551616) (b % 18446744073709551616) w ca cb (by omega) (by omega) (by omega) (by omega) hc
      · exact refd_arsh_n_64 a b (a % 18446744073709551616) (b % 18446744073709551616) w ca cb (by omega) (by omega) (by omega) (by omega) hc
    · exact refd_neg_64 a b (a % 18446744073709551616) (b % 18446744073709551616) w ca cb (by omega) (by omega) (by omega) (by omega)
    · exact refd_mov0_64 a b (a % 18446744073709551616) (b % 18446744073709551616) w ca cb (by omega) (by omega) (by omega) (by omega)
    · exact refd_mov8_64 a b (a % 18446744073709551616) (b % 18446744073709551616) w ca cb (by omega) (by omega) (by omega) (by omega)
    · exact refd_mov16_64 a b (a % 18446744073709551616) (b % 18446744073709551616) w ca cb (by omega) (by omega) (by omega) (by omega)
    · exact refd_mov32_64 a b (a % 18446744073709551616) (b % 18446744073709551616) w ca cb (by omega) (by omega) (by omega) (by omega)
    · exact refd_div0_64 a b (a % 18446744073709551616) (b % 18446744073709551616) w ca cb (by omega) (by omega) (by omega) (by omega)
    · exact refd_div1_64 a b (a % 18446744073709551616) (b % 18446744073709551616) w ca cb (by omega) (by omega) (by omega) (by omega)
    · exact refd_mod0_64 a b (a % 18446744073709551616) (b % 18446744073709551616) w ca cb (by omega) (by omega) (by omega) (by omega)
    · exact refd_mod1_64 a b (a % 18446744073709551616) (b % 18446744073709551616) w ca cb (by omega) (by omega) (by omega) (by omega)

end Go.Proofs.Ytfepokiibdkoeaa


/-
  The document's own Do, op by op, at 32 bits.
  Conditions: the numbers fit their kinds.
-/
namespace Go.Proofs.Ytfepokiibdkoeaa
open Go.RowKit
set_option linter.unusedVariables false

abbrev refCut32 (n v : Int) : Prop := ∀ w : World, Calls Try.prog 73 #[.int .u64 n, .int .i64 32] w fun e w' => e = .returned (.int .u64 v) ∧ w = w'

set_option maxRecDepth 100000 in
set_option maxHeartbeats 2000000 in
theorem refd_add_32 (a b x y : Int) (w : World) (ca : refCut32 a x) (cb : refCut32 b y) (hx : 0 ≤ x) (hx' : x ≤ 4294967295) (hy : 0 ≤ y) (hy' : y ≤ 4294967295) :
    Calls Try.prog 36 #[.int .u8 0, .bool false, .int .i16 0, .int .u64 a, .int .u64 b] w (Did (aluZ false 0 0 x y % 4294967296) 0 w) := by
  have hz : aluZ false 0 0 x y = x + y := rfl
  rw [hz]
  clear hz
  have CA := Lib.hid ca
  have CB := Lib.hid cb
  clear ca cb
  go_enter Try.func36, Try.ntmps36
  go_wp2_with fail
  refine (CA.out _).mono ?_; rintro e w' ⟨rfl, rfl⟩
  go_wp2_with fail
  refine (CB.out _).mono ?_; rintro e w' ⟨rfl, rfl⟩
  go_wp2_with fail
  refine (ref_cut_32 _ _ (by first | omega | exact (u64_rng _).1)).mono ?_; rintro e w' ⟨rfl, rfl⟩
  go_wp2_with fail
  go_ret2
  exact ⟨ret_two (by first | rfl | (rw [IntKind.wrap_u64, Int.emod_emod_of_dvd _ (by decide)]) | (rw [IntKind.wrap_u64]; omega)) rfl, 0, rfl⟩

set_option maxRecDepth 100000 in
set_option maxHeartbeats 2000000 in
theorem refd_no_add_32 (a b x y : Int) (off : Int) (w : World) (ca : refCut32 a x) (cb : refCut32 b y) (hx : 0 ≤ x) (hx' : x ≤ 4294967295) (hy : 0 ≤ y) (hy' : y ≤ 4294967295) (ho : (off != 0) = true) :
    Calls Try.prog 36 #[.int .u8 0, .bool false, .int .i16 off, .int .u64 a, .int .u64 b] w (Did 0 1 w) := by
  have CA := Lib.hid ca
  have CB := Lib.hid cb
  clear ca cb
  go_enter Try.func36, Try.ntmps36
  go_wp2_with fail
  refine (CA.out _).mono ?_; rintro e w' ⟨rfl, rfl⟩
  go_wp2_with fail
  refine (CB.out _).mono ?_; rintro e w' ⟨rfl, rfl⟩
  go_wp2_with fail
  go_ret2
  exact ⟨rfl, 0, rfl⟩

set_option maxRecDepth 100000 in
set_option maxHeartbeats 2000000 in
theorem refd_sub_32 (a b x y : Int) (w : World) (ca : refCut32 a x) (cb : refCut32 b y) (hx : 0 ≤ x) (hx' : x ≤ 4294967295) (hy : 0 ≤ y) (hy' : y ≤ 4294967295) :
    Calls Try.prog 36 #[.int .u8 16, .bool false, .int .i16 0, .int .u64 a, .int .u64 b] w (Did (aluZ false 16 0 x y % 4294967296) 0 w) := by
  have hz : aluZ false 16 0 x y = x - y := rfl
  rw [hz]
  clear hz
  have CA := Lib.hid ca
  have CB := Lib.hid cb
  clear ca cb
  go_enter Try.func36, Try.ntmps36
  go_wp2_with fail
  refine (CA.out _).mono ?_; rintro e w' ⟨rfl, rfl⟩
  go_wp2_with fail
  refine (CB.out _).mono ?_; rintro e w' ⟨rfl, rfl⟩
  go_wp2_with fail
  refine (ref_cut_32 _ _ (by first | omega | exact (u64_rng _).1)).mono ?_; rintro e w' ⟨rfl, rfl⟩
  go_wp2_with fail
  go_ret2
  exact ⟨ret_two (by first | rfl | (rw [IntKind.wrap_u64, Int.emod_emod_of_dvd _ (by decide)]) | (rw [IntKind.wrap_u64]; omega)) rfl, 0, rfl⟩

set_option maxRecDepth 100000 in
set_option maxHeartbeats 2000000 in
theorem refd_no_sub_32 (a b x y : Int) (off : Int) (w : World) (ca : refCut32 a x) (cb : refCut32 b y) (hx : 0 ≤ x) (hx' : x ≤ 4294967295) (hy : 0 ≤ y) (hy' : y ≤ 4294967295) (ho : (off != 0) = true) :
    Calls Try.prog 36 #[.int .u8 16, .bool false, .int .i16 off, .int .u64 a, .int .u64 b] w (Did 0 1 w) := by
  have CA := Lib.hid ca
  have CB := Lib.hid cb
  clear ca cb
  go_enter Try.func36, Try.ntmps36
  go_wp2_with fail
  refine (CA.out _).mono ?_; rintro e w' ⟨rfl, rfl⟩
  go_wp2_with fail
  refine (CB.out _).mono ?_; rintro e w' ⟨rfl, rfl⟩
  go_wp2_with fail
  go_ret2
  exact ⟨rfl, 0, rfl⟩

set_option maxRecDepth 100000 in
set_option maxHeartbeats 2000000 in
theorem refd_mul_32 (a b x y : Int) (w : World) (ca : refCut32 a x) (cb : refCut32 b y) (hx : 0 ≤ x) (hx' : x ≤ 4294967295) (hy : 0 ≤ y) (hy' : y ≤ 4294967295) :
    Calls Try.prog 36 #[.int .u8 32, .bool false, .int .i16 0, .int .u64 a, .int .u64 b] w (Did (aluZ false 32 0 x y % 4294967296) 0 w) := by
  have hz : aluZ false 32 0 x y = x * y := rfl
  rw [hz]
  clear hz
  have CA := Lib.hid ca
  have CB := Lib.hid cb
  clear ca cb
  go_enter Try.func36, Try.ntmps36
  go_wp2_with fail
  refine (CA.out _).mono ?_; rintro e w' ⟨rfl, rfl⟩
  go_wp2_with fail
  refine (CB.out _).mono ?_; rintro e w' ⟨rfl, rfl⟩
  go_wp2_with fail
  refine (ref_cut_32 _ _ (by first | omega | exact (u64_rng _).1)).mono ?_; rintro e w' ⟨rfl, rfl⟩
  go_wp2_with fail
  go_ret2
  exact ⟨ret_two (by first | rfl | (rw [IntKind.wrap_u64, Int.emod_emod_of_dvd _ (by decide)]) | (rw [IntKind.wrap_u64]; omega)) rfl, 0, rfl⟩

set_option maxRecDepth 100000 in
set_option maxHeartbeats 2000000 in
theorem refd_no_mul_32 (a b x y : Int) (off : Int) (w : World) (ca : refCut32 a x) (cb : refCut32 b y) (hx : 0 ≤ x) (hx' : x ≤ 4294967295) (hy : 0 ≤ y) (hy' : y ≤ 4294967295) (ho : (off != 0) = true) :
    Calls Try.prog 36 #[.int .u8 32, .bool false, .int .i16 off, .int .u64 a, .int .u64 b] w (Did 0 1 w) := by
  have CA := Lib.hid ca
  have CB := Lib.hid cb
  clear ca cb
  go_enter Try.func36, Try.ntmps36
  go_wp2_with fail
  refine (CA.out _).mono ?_; rintro e w' ⟨rfl, rfl⟩
  go_wp2_with fail
  refine (CB.out _).mono ?_; rintro e w' ⟨rfl, rfl⟩
  go_wp2_with fail
  go_ret2
  exact ⟨rfl, 0, rfl⟩

set_option maxRecDepth 100000 in
set_option maxHeartbeats 2000000 in
theorem refd_or_32 (a b x y : Int) (w : World) (ca : refCut32 a x) (cb : refCut32 b y) (hx : 0 ≤ x) (hx' : x ≤ 4294967295) (hy : 0 ≤ y) (hy' : y ≤ 4294967295) :
    Calls Try.prog 36 #[.int .u8 64, .bool false, .int .i16 0, .int .u64 a, .int .u64 b] w (Did (aluZ false 64 0 x y % 4294967296) 0 w) := by
  have hz : aluZ false 64 0 x y = ((x.toNat ||| y.toNat : Nat) : Int) := rfl
  rw [hz]
  have e0 := Lib.hid (u64_or x y hx (by omega) hy (by omega))
  have e1 := Nat.or_lt_two_pow (n := 64) (x := x.toNat) (y := y.toNat) (by omega) (by omega)
  have e9 : bits .or .u64 x y = ((x.toNat ||| y.toNat : Nat) : Int) := e0.out
  generalize hg : (x.toNat ||| y.toNat) = g at *
  have E9 := Lib.hid e9
  clear e0 e9 hg hz
  have b0 : 0 ≤ bits .or .u64 x y := by rw [E9.out]; omega
  have b1 : bits .or .u64 x y ≤ 18446744073709551615 := by rw [E9.out]; omega
  have CA := Lib.hid ca
  have CB := Lib.hid cb
  clear ca cb
  go_enter Try.func36, Try.ntmps36
  go_wp2_with fail
  refine (CA.out _).mono ?_; rintro e w' ⟨rfl, rfl⟩
  go_wp2_with fail
  refine (CB.out _).mono ?_; rintro e w' ⟨rfl, rfl⟩
  go_wp2_with fail
  refine (ref_cut_32 _ _ (by first | omega | exact (u64_rng _).1)).mono ?_; rintro e w' ⟨rfl, rfl⟩
  go_wp2_with fail
  go_ret2
  exact ⟨ret_two (by rw [E9.out]) rfl, 0, rfl⟩

set_option maxRecDepth 100000 in
set_option maxHeartbeats 2000000 in
theorem refd_no_or_32 (a b x y : Int) (off : Int) (w : World) (ca : refCut32 a x) (cb : refCut32 b y) (hx : 0 ≤ x) (hx' : x ≤ 4294967295) (hy : 0 ≤ y) (hy' : y ≤ 4294967295) (ho : (off != 0) = true) :
    Calls Try.prog 36 #[.int .u8 64, .bool false, .int .i16 off, .int .u64 a, .int .u64 b] w (Did 0 1 w) := by
  have CA := Lib.hid ca
  have CB := Lib.hid cb
  clear ca cb
  go_enter Try.func36, Try.ntmps36
  go_wp2_with fail
  refine (CA.out _).mono ?_; rintro e w' ⟨rfl, rfl⟩
  go_wp2_with fail
  refine (CB.out _).mono ?_; rintro e w' ⟨rfl, rfl⟩
  go_wp2_with fail
  go_ret2
  exact ⟨rfl, 0, rfl⟩

set_option maxRecDepth 100000 in
set_option maxHeartbeats 2000000 in
theorem refd_and_32 (a b x y : Int) (w : World) (ca : refCut32 a x) (cb : refCut32 b y) (hx : 0 ≤ x) (hx' : x ≤ 4294967295) (hy : 0 ≤ y) (hy' : y ≤ 4294967295) :
    Calls Try.prog 36 #[.int .u8 80, .bool false, .int .i16 0, .int .u64 a, .int .u64 b] w (Did (aluZ false 80 0 x y % 4294967296) 0 w) := by
  have hz : aluZ false 80 0 x y = ((x.toNat &&& y.toNat : Nat) : Int) := rfl
  rw [hz]
  have e0 := Lib.hid (u64_and x y hx (by omega) hy (by omega))
  have e1 := Nat.and_lt_two_pow (n := 64) x.toNat (y := y.toNat) (by omega)
  have e9 : bits .and .u64 x y = ((x.toNat &&& y.toNat : Nat) : Int) := e0.out
  generalize hg : (x.toNat &&& y.toNat) = g at *
  have E9 := Lib.hid e9
  clear e0 e9 hg hz
  have b0 : 0 ≤ bits .and .u64 x y := by rw [E9.out]; omega
  have b1 : bits .and .u64 x y ≤ 18446744073709551615 := by rw [E9.out]; omega
  have CA := Lib.hid ca
  have CB := Lib.hid cb
  clear ca cb
  go_enter Try.func36, Try.ntmps36
  go_wp2_with fail
  refine (CA.out _).mono ?_; rintro e w' ⟨rfl, rfl⟩
  go_wp2_with fail
  refine (CB.out _).mono ?_; rintro e w' ⟨rfl, rfl⟩
  go_wp2_with fail
  refine (ref_cut_32 _ _ (by first | omega | exact (u64_rng _).1)).mono ?_; rintro e w' ⟨rfl, rfl⟩
  go_wp2_with fail
  go_ret2
  exact ⟨ret_two (by rw [E9.out]) rfl, 0, rfl⟩

set_option maxRecDepth 100000 in
set_option maxHeartbeats 2000000 in
theorem refd_no_and_32 (a b x y : Int) (off : Int) (w : World) (ca : refCut32 a x) (cb : refCut32 b y) (hx : 0 ≤ x) (hx' : x ≤ 4294967295) (hy : 0 ≤ y) (hy' : y ≤ 4294967295) (ho : (off != 0) = true) :
    Calls Try.prog 36 #[.int .u8 80, .bool false, .int .i16 off, .int .u64 a, .int .u64 b] w (Did 0 1 w) := by
  have CA := Lib.hid ca
  have CB := Lib.hid cb
  clear ca cb
  go_enter Try.func36, Try.ntmps36
  go_wp2_with fail
  refine (CA.out _).mono ?_; rintro e w' ⟨rfl, rfl⟩
  go_wp2_with fail
  refine (CB.out _).mono ?_; rintro e w' ⟨rfl, rfl⟩
  go_wp2_with fail
  go_ret2
  exact ⟨rfl, 0, rfl⟩

set_option maxRecDepth 100000 in
set_option maxHeartbeats 2000000 in
theorem refd_xor_32 (a b x y : Int) (w : World) (ca : refCut32 a x) (cb : refCut32 b y) (hx : 0 ≤ x) (hx' : x ≤ 4294967295) (hy : 0 ≤ y) (hy' : y ≤ 4294967295) :
    Calls Try.prog 36 #[.int .u8 160, .bool false, .int .i16 0, .int .u64 a, .int .u64 b] w (Did (aluZ false 160 0 x y % 4294967296) 0 w) := by
  have hz : aluZ false 160 0 x y = ((x.toNat ^^^ y.toNat : Nat) : Int) := rfl
  rw [hz]
  have e0 := Lib.hid (u64_xor x y hx (by omega) hy (by omega))
  have e1 := Nat.xor_lt_two_pow (n := 64) (x := x.toNat) (y := y.toNat) (by omega) (by omega)
  have e9 : bits .xor .u64 x y = ((x.toNat ^^^ y.toNat : Nat) : Int) := e0.out
  generalize hg : (x.toNat ^^^ y.toNat) = g at *
  have E9 := Lib.hid e9
  clear e0 e9 hg hz
  have b0 : 0 ≤ bits .xor .u64 x y := by rw [E9.out]; omega
  have b1 : bits .xor .u64 x y ≤ 18446744073709551615 := by rw [E9.out]; omega
  have CA := Lib.hid ca
  have CB := Lib.hid cb
  clear ca cb
  go_enter Try.func36, Try.ntmps36
  go_wp2_with fail
  refine (CA.out _).mono ?_; rintro e w' ⟨rfl, rfl⟩
  go_wp2_with fail
  refine (CB.out _).mono ?_; rintro e w' ⟨rfl, rfl⟩
  go_wp2_with fail
  refine (ref_cut_32 _ _ (by first | omega | exact (u64_rng _).1)).mono ?_; rintro e w' ⟨rfl, rfl⟩
  go_wp2_with fail
  go_ret2
  exact ⟨ret_two (by rw [E9.out]) rfl, 0, rfl⟩

set_option maxRecDepth 100000 in
set_option maxHeartbeats 2000000 in
theorem refd_no_xor_32 (a b x y : Int) (off : Int) (w : World) (ca : refCut32 a x) (cb : refCut32 b y) (hx : 0 ≤ x) (hx' : x ≤ 4294967295) (hy : 0 ≤ y) (hy' : y ≤ 4294967295) (ho : (off != 0) = true) :
    Calls Try.prog 36 #[.int .u8 160, .bool false, .int .i16 off, .int .u64 a, .int .u64 b] w (Did 0 1 w) := by
  have CA := Lib.hid ca
  have CB := Lib.hid cb
  clear ca cb
  go_enter Try.func36, Try.ntmps36
  go_wp2_with fail
  refine (CA.out _).mono ?_; rintro e w' ⟨rfl, rfl⟩
  go_wp2_with fail
  refine (CB.out _).mono ?_; rintro e w' ⟨rfl, rfl⟩
  go_wp2_with fail
  go_ret2
  exact ⟨rfl, 0, rfl⟩

set_option maxRecDepth 100000 in
set_option maxHeartbeats 2000000 in
theorem refd_lsh_32 (a b x y : Int) (w : World) (ca : refCut32 a x) (cb : refCut32 b y) (hx : 0 ≤ x) (hx' : x ≤ 4294967295) (hy : 0 ≤ y) (hy' : y ≤ 4294967295) :
    Calls Try.prog 36 #[.int .u8 96, .bool false, .int .i16 0, .int .u64 a, .int .u64 b] w (Did (aluZ false 96 0 x y % 4294967296) 0 w) := by
  have hz : aluZ false 96 0 x y = x * 2 ^ (y % 32).toNat := rfl
  rw [hz]
  clear hz
  have CA := Lib.hid ca
  have CB := Lib.hid cb
  clear ca cb
  go_enter Try.func36, Try.ntmps36
  go_wp2_with fail
  refine (CA.out _).mono ?_; rintro e w' ⟨rfl, rfl⟩
  go_wp2_with fail
  refine (CB.out _).mono ?_; rintro e w' ⟨rfl, rfl⟩
  go_wp2_with fail
  refine (ref_cut_32 _ _ (by first | omega | exact (u64_rng _).1)).mono ?_; rintro e w' ⟨rfl, rfl⟩
  go_wp2_with fail
  go_ret2
  exact ⟨ret_two (by first | rfl | (rw [IntKind.wrap_u64, Int.emod_emod_of_dvd _ (by decide)]) | (rw [IntKind.wrap_u64]; omega)) rfl, 0, rfl⟩

set_option maxRecDepth 100000 in
set_option maxHeartbeats 2000000 in
theorem refd_no_lsh_32 (a b x y : Int) (off : Int) (w : World) (ca : refCut32 a x) (cb : refCut32 b y) (hx : 0 ≤ x) (hx' : x ≤ 4294967295) (hy : 0 ≤ y) (hy' : y ≤ 4294967295) (ho : (off != 0) = true) :
    Calls Try.prog 36 #[.int .u8 96, .bool false, .int .i16 off, .int .u64 a, .int .u64 b] w (Did 0 1 w) := by
  have CA := Lib.hid ca
  have CB := Lib.hid cb
  clear ca cb
  go_enter Try.func36, Try.ntmps36
  go_wp2_with fail
  refine (CA.out _).mono ?_; rintro e w' ⟨rfl, rfl⟩
  go_wp2_with fail
  refine (CB.out _).mono ?_; rintro e w' ⟨rfl, rfl⟩
  go_wp2_with fail
  go_ret2
  exact ⟨rfl, 0, rfl⟩

set_option maxRecDepth 100000 in
set_option maxHeartbeats 2000000 in
theorem refd_rsh_32 (a b x y : Int) (w : World) (ca : refCut32 a x) (cb : refCut32 b y) (hx : 0 ≤ x) (hx' : x ≤ 4294967295) (hy : 0 ≤ y) (hy' : y ≤ 4294967295) :
    Calls Try.prog 36 #[.int .u8 112, .bool false, .int .i16 0, .int .u64 a, .int .u64 b] w (Did (aluZ false 112 0 x y % 4294967296) 0 w) := by
  have hz : aluZ false 112 0 x y = x / 2 ^ (y % 32).toNat := rfl
  rw [hz]
  clear hz
  have q0 := shr_range x (y % 32).toNat hx
  obtain ⟨q1, q2⟩ := q0
  have CA := Lib.hid ca
  have CB := Lib.hid cb
  clear ca cb
  go_enter Try.func36, Try.ntmps36
  go_wp2_with fail
  refine (CA.out _).mono ?_; rintro e w' ⟨rfl, rfl⟩
  go_wp2_with fail
  refine (CB.out _).mono ?_; rintro e w' ⟨rfl, rfl⟩
  go_wp2_with fail
  refine (ref_cut_32 _ _ (by first | omega | exact (u64_rng _).1)).mono ?_; rintro e w' ⟨rfl, rfl⟩
  go_wp2_with fail
  go_ret2
  exact ⟨ret_two (by first | rfl | (rw [IntKind.wrap_u64, Int.emod_emod_of_dvd _ (by decide)]) | (rw [IntKind.wrap_u64]; omega)) rfl, 0, rfl⟩

set_option maxRecDepth 100000 in
set_option maxHeartbeats 2000000 in
theorem refd_no_rsh_32 (a b x y : Int) (off : Int) (w : World) (ca : refCut32 a x) (cb : refCut32 b y) (hx : 0 ≤ x) (hx' : x ≤ 4294967295) (hy : 0 ≤ y) (hy' : y ≤ 4294967295) (ho : (off != 0) = true) :
    Calls Try.prog 36 #[.int .u8 112, .bool false, .int .i16 off, .int .u64 a, .int .u64 b] w (Did 0 1 w) := by
  have CA := Lib.hid ca
  have CB := Lib.hid cb
  clear ca cb
  go_enter Try.func36, Try.ntmps36
  go_wp2_with fail
  refine (CA.out _).mono ?_; rintro e w' ⟨rfl, rfl⟩
  go_wp2_with fail
  refine (CB.out _).mono ?_; rintro e w' ⟨rfl, rfl⟩
  go_wp2_with fail
  go_ret2
  exact ⟨rfl, 0, rfl⟩

set_option maxRecDepth 100000 in
set_option maxHeartbeats 2000000 in
theorem refd_neg_32 (a b x y : Int) (w : World) (ca : refCut32 a x) (cb : refCut32 b y) (hx : 0 ≤ x) (hx' : x ≤ 4294967295) (hy : 0 ≤ y) (hy' : y ≤ 4294967295) :
    Calls Try.prog 36 #[.int .u8 128, .bool false, .int .i16 0, .int .u64 a, .int .u64 b] w (Did (aluZ false 128 0 x y % 4294967296) 0 w) := by
  have hz : aluZ false 128 0 x y = -x := rfl
  rw [hz]
  clear hz
  have CA := Lib.hid ca
  have CB := Lib.hid cb
  clear ca cb
  go_enter Try.func36, Try.ntmps36
  go_wp2_with fail
  refine (CA.out _).mono ?_; rintro e w' ⟨rfl, rfl⟩
  go_wp2_with fail
  refine (CB.out _).mono ?_; rintro e w' ⟨rfl, rfl⟩
  go_wp2_with fail
  refine (ref_cut_32 _ _ (by first | omega | exact (u64_rng _).1)).mono ?_; rintro e w' ⟨rfl, rfl⟩
  go_wp2_with fail
  go_ret2
  exact ⟨ret_two (by first | rfl | (rw [IntKind.wrap_u64, Int.emod_emod_of_dvd _ (by decide)]) | (rw [IntKind.wrap_u64]; omega)) rfl, 0, rfl⟩

set_option maxRecDepth 100000 in
set_option maxHeartbeats 2000000 in
theorem refd_no_neg_32 (a b x y : Int) (off : Int) (w : World) (ca : refCut32 a x) (cb : refCut32 b y) (hx : 0 ≤ x) (hx' : x ≤ 4294967295) (hy : 0 ≤ y) (hy' : y ≤ 4294967295) (ho : (off != 0) = true) :
    Calls Try.prog 36 #[.int .u8 128, .bool false, .int .i16 off, .int .u64 a, .int .u64 b] w (Did 0 1 w) := by
  have CA := Lib.hid ca
  have CB := Lib.hid cb
  clear ca cb
  go_enter Try.func36, Try.ntmps36
  go_wp2_with fail
  refine (CA.out _).mono ?_; rintro e w' ⟨rfl, rfl⟩
  go_wp2_with fail
  refine (CB.out _).mono ?_; rintro e w' ⟨rfl, rfl⟩
  go_wp2_with fail
  go_ret2
  exact ⟨rfl, 0, rfl⟩

set_option maxRecDepth 100000 in
set_option maxHeartbeats 2000000 in
theorem refd_arsh_p_32 (a b x y : Int) (w : World) (ca : refCut32 a x) (cb : refCut32 b y) (hx : 0 ≤ x) (hx' : x ≤ 4294967295) (hy : 0 ≤ y) (hy' : y ≤ 4294967295) (hc : x * 2 < 4294967296) :
    Calls Try.prog 36 #[.int .u8 192, .bool false, .int .i16 0, .int .u64 a, .int .u64 b] w (Did (aluZ false 192 0 x y % 4294967296) 0 w) := by
  have hn := Lib.hid fun w => ref_neg_32 x false w (beq_eq_false_iff_ne.mpr (by omega))
  have q0 := shr_range x (y % 32).toNat hx
  obtain ⟨q1, q2⟩ := q0
  have hz : aluZ false 192 0 x y = wrap32 x / 2 ^ (y % 32).toNat := rfl
  rw [hz]
  clear hz
  have hw : wrap32 x = x := by unfold wrap32; omega
  rw [hw]
  clear hw hc
  have CA := Lib.hid ca
  have CB := Lib.hid cb
  clear ca cb
  go_enter Try.func36, Try.ntmps36
  go_wp2_with fail
  refine (CA.out _).mono ?_; rintro e w' ⟨rfl, rfl⟩
  go_wp2_with fail
  refine (CB.out _).mono ?_; rintro e w' ⟨rfl, rfl⟩
  go_wp2_with fail
  refine (hn.out _).mono ?_; rintro e w' ⟨rfl, rfl⟩
  go_wp2_with fail
  refine (ref_cut_32 _ _ (by first | omega | exact (u64_rng _).1)).mono ?_; rintro e w' ⟨rfl, rfl⟩
  go_wp2_with fail
  go_ret2
  exact ⟨rfl, 0, rfl⟩

set_option maxRecDepth 100000 in
set_option maxHeartbeats 2000000 in
theorem refd_no_arsh_p_32 (a b x y : Int) (off : Int) (w : World) (ca : refCut32 a x) (cb : refCut32 b y) (hx : 0 ≤ x) (hx' : x ≤ 4294967295) (hy : 0 ≤ y) (hy' : y ≤ 4294967295) (hc : x * 2 < 4294967296) (ho : (off != 0) = true) :
    Calls Try.prog 36 #[.int .u8 192, .bool false, .int .i16 off, .int .u64 a, .int .u64 b] w (Did 0 1 w) := by
  have hn := Lib.hid fun w => ref_neg_32 x false w (beq_eq_false_iff_ne.mpr (by omega))
  have CA := Lib.hid ca
  have CB := Lib.hid cb
  clear ca cb
  go_enter Try.func36, Try.ntmps36
  go_wp2_with fail
  refine (CA.out _).mono ?_; rintro e w' ⟨rfl, rfl⟩
  go_wp2_with fail
  refine (CB.out _).mono ?_; rintro e w' ⟨rfl, rfl⟩
  go_wp2_with fail
  refine (hn.out _).mono ?_; rintro e w' ⟨rfl, rfl⟩
  go_wp2_with fail
  go_ret2
  exact ⟨rfl, 0, rfl⟩

set_option maxRecDepth 100000 in
set_option maxHeartbeats 2000000 in
theorem refd_arsh_n_32 (a b x y : Int) (w : World) (ca : refCut32 a x) (cb : refCut32 b y) (hx : 0 ≤ x) (hx' : x ≤ 4294967295) (hy : 0 ≤ y) (hy' : y ≤ 4294967295) (hc : ¬ x * 2 < 4294967296) :
    Calls Try.prog 36 #[.int .u8 192, .bool false, .int .i16 0, .int .u64 a, .int .u64 b] w (Did (aluZ false 192 0 x y % 4294967296) 0 w) := by
  have hn := Lib.hid fun w => ref_neg_32 x true w (beq_iff_eq.mpr (by omega))
  have q0 := shr_range x (y % 32).toNat hx
  obtain ⟨q1, q2⟩ := q0
  have hz : aluZ false 192 0 x y = wrap32 x / 2 ^ (y % 32).toNat := rfl
  rw [hz]
  clear hz
  have A1 := Lib.hid (arsh_neg_32 x y hx hx' hc)
  have CA := Lib.hid ca
  have CB := Lib.hid cb
  clear ca cb
  go_enter Try.func36, Try.ntmps36
  go_wp2_with fail
  refine (CA.out _).mono ?_; rintro e w' ⟨rfl, rfl⟩
  go_wp2_with fail
  refine (CB.out _).mono ?_; rintro e w' ⟨rfl, rfl⟩
  go_wp2_with fail
  refine (hn.out _).mono ?_; rintro e w' ⟨rfl, rfl⟩
  go_wp2_with fail
  refine (ref_cut_32 _ _ (by decide)).mono ?_; rintro e w' ⟨rfl, rfl⟩
  go_wp2_with fail
  refine (ref_cut_32 _ _ (by first | omega | exact (u64_rng _).1)).mono ?_; rintro e w' ⟨rfl, rfl⟩
  go_wp2_with fail
  go_ret2
  exact ⟨ret_two A1.out rfl, 0, rfl⟩

set_option maxRecDepth 100000 in
set_option maxHeartbeats 2000000 in
theorem refd_no_arsh_n_32 (a b x y : Int) (off : Int) (w : World) (ca : refCut32 a x) (cb : refCut32 b y) (hx : 0 ≤ x) (hx' : x ≤ 4294967295) (hy : 0 ≤ y) (hy' : y ≤ 4294967295) (hc : ¬ x * 2 < 4294967296) (ho : (off != 0) = true) :
    Calls Try.prog 36 #[.int .u8 192, .bool false, .int .i16 off, .int .u64 a, .int .u64 b] w (Did 0 1 w) := by
  have hn := Lib.hid fun w => ref_neg_32 x true w (beq_iff_eq.mpr (by omega))
  have CA := Lib.hid ca
  have CB := Lib.hid cb
  clear ca cb
  go_enter Try.func36, Try.ntmps36
  go_wp2_with fail
  refine (CA.out _).mono ?_; rintro e w' ⟨rfl, rfl⟩
  go_wp2_with fail
  refine (CB.out _).mono ?_; rintro e w' ⟨rfl, rfl⟩
  go_wp2_with fail
  refine (hn.out _).mono ?_; rintro e w' ⟨rfl, rfl⟩
  go_wp2_with fail
  refine (ref_cut_32 _ _ (by decide)).mono ?_; rintro e w' ⟨rfl, rfl⟩
  go_wp2_with fail
  go_ret2
  exact ⟨rfl, 0, rfl⟩

set_option maxRecDepth 100000 in
set_option maxHeartbeats 2000000 in
theorem refd_mov0_32 (a b x y : Int) (w : World) (ca : refCut32 a x) (cb : refCut32 b y) (hx : 0 ≤ x) (hx' : x ≤ 4294967295) (hy : 0 ≤ y) (hy' : y ≤ 4294967295) :
    Calls Try.prog 36 #[.int .u8 176, .bool false, .int .i16 0, .int .u64 a, .int .u64 b] w (Did (aluZ false 176 0 x y % 4294967296) 0 w) := by
  have hz : aluZ false 176 0 x y = y := signW_0 y
  rw [hz]
  clear hz
  have CA := Lib.hid ca
  have CB := Lib.hid cb
  clear ca cb
  go_enter Try.func36, Try.ntmps36
  go_wp2_with fail
  refine (CA.out _).mono ?_; rintro e w' ⟨rfl, rfl⟩
  go_wp2_with fail
  refine (CB.out _).mono ?_; rintro e w' ⟨rfl, rfl⟩
  go_wp2_with fail
  refine (ref_cut_32 _ _ (by first | omega | exact (u64_rng _).1)).mono ?_; rintro e w' ⟨rfl, rfl⟩
  go_wp2_with fail
  go_ret2
  exact ⟨rfl, 0, rfl⟩

set_option maxRecDepth 100000 in
set_option maxHeartbeats 2000000 in
theorem refd_mov8_32 (a b x y : Int) (w : World) (ca : refCut32 a x) (cb : refCut32 b y) (hx : 0 ≤ x) (hx' : x ≤ 4294967295) (hy : 0 ≤ y) (hy' : y ≤ 4294967295) :
    Calls Try.prog 36 #[.int .u8 176, .bool false, .int .i16 8, .int .u64 a, .int .u64 b] w (Did (aluZ false 176 8 x y % 4294967296) 0 w) := by
  have hz : aluZ false 176 8 x y = signW y 8 := rfl
  rw [hz]
  clear hz
  obtain ⟨s0, s1⟩ := signW_range y 8 hy (by omega)
  have CA := Lib.hid ca
  have CB := Lib.hid cb
  clear ca cb
  go_enter Try.func36, Try.ntmps36
  go_wp2_with fail
  refine (CA.out _).mono ?_; rintro e w' ⟨rfl, rfl⟩
  go_wp2_with fail
  refine (CB.out _).mono ?_; rintro e w' ⟨rfl, rfl⟩
  go_wp2_with fail
  refine (ref_sign _ _ _ (by omega) (by omega)).mono ?_; rintro e w' ⟨rfl, rfl⟩
  go_wp2_with fail
  refine (ref_cut_32 _ _ (by omega)).mono ?_; rintro e w' ⟨rfl, rfl⟩
  go_wp2_with fail
  go_ret2
  exact ⟨rfl, 0, rfl⟩

set_option maxRecDepth 100000 in
set_option maxHeartbeats 2000000 in
theorem refd_mov16_32 (a b x y : Int) (w : World) (ca : refCut32 a x) (cb : refCut32 b y) (hx : 0 ≤ x) (hx' : x ≤ 4294967295) (hy : 0 ≤ y) (hy' : y ≤ 4294967295) :
    Calls Try.prog 36 #[.int .u8 176, .bool false, .int .i16 16, .int .u64 a, .int .u64 b] w (Did (aluZ false 176 16 x y % 4294967296) 0 w) := by
  have hz : aluZ false 176 16 x y = signW y 16 := rfl
  rw [hz]
  clear hz
  obtain ⟨s0, s1⟩ := signW_range y 16 hy (by omega)
  have CA := Lib.hid ca
  have CB := Lib.hid cb
  clear ca cb
  go_enter Try.func36, Try.ntmps36
  go_wp2_with fail
  refine (CA.out _).mono ?_; rintro e w' ⟨rfl, rfl⟩
  go_wp2_with fail
  refine (CB.out _).mono ?_; rintro e w' ⟨rfl, rfl⟩
  go_wp2_with fail
  refine (ref_sign _ _ _ (by omega) (by omega)).mono ?_; rintro e w' ⟨rfl, rfl⟩
  go_wp2_with fail
  refine (ref_cut_32 _ _ (by omega)).mono ?_; rintro e w' ⟨rfl, rfl⟩
  go_wp2_with fail
  go_ret2
  exact ⟨rfl, 0, rfl⟩

set_option maxRecDepth 100000 in
set_option maxHeartbeats 2000000 in
theorem refd_no_mov_32 (a b x y : Int) (off : Int) (w : World) (ca : refCut32 a x) (cb : refCut32 b y) (hx : 0 ≤ x) (hx' : x ≤ 4294967295) (hy : 0 ≤ y) (hy' : y ≤ 4294967295) (ho : (off != 0) = true) (h8 : (off == 8) = false) (h16 : (off == 16) = false) :
    Calls Try.prog 36 #[.int .u8 176, .bool false, .int .i16 off, .int .u64 a, .int .u64 b] w (Did 0 1 w) := by
  have CA := Lib.hid ca
  have CB := Lib.hid cb
  clear ca cb
  go_enter Try.func36, Try.ntmps36
  go_wp2_with fail
  refine (CA.out _).mono ?_; rintro e w' ⟨rfl, rfl⟩
  go_wp2_with fail
  refine (CB.out _).mono ?_; rintro e w' ⟨rfl, rfl⟩
  go_wp2_with fail
  all_goals go_ret2
  all_goals exact ⟨rfl, 0, rfl⟩

set_option maxRecDepth 100000 in
set_option maxHeartbeats 2000000 in
theorem refd_div0_32 (a b x y : Int) (w : World) (ca : refCut32 a x) (cb : refCut32 b y) (hx : 0 ≤ x) (hx' : x ≤ 4294967295) (hy : 0 ≤ y) (hy' : y ≤ 4294967295) :
    Calls Try.prog 36 #[.int .u8 48, .bool false, .int .i16 0, .int .u64 a, .int .u64 b] w (Did (aluZ false 48 0 x y % 4294967296) 0 w) := by
  have hp := Lib.hid fun w => ref_parts_u_32 x y w hx hx' hy hy'
  have CA := Lib.hid ca
  have CB := Lib.hid cb
  clear ca cb
  go_enter Try.func36, Try.ntmps36
  go_wp2_with fail
  refine (CA.out _).mono ?_; rintro e w' ⟨rfl, rfl⟩
  go_wp2_with fail
  refine (CB.out _).mono ?_; rintro e w' ⟨rfl, rfl⟩
  go_wp2_with fail
  refine (hp.out _).mono ?_; rintro e w' ⟨rfl, n, rfl⟩
  go_wp2_with fail
  go_ret2
  exact ⟨rfl, _, rfl⟩

set_option maxRecDepth 100000 in
set_option maxHeartbeats 2000000 in
theorem refd_div1_32 (a b x y : Int) (w : World) (ca : refCut32 a x) (cb : refCut32 b y) (hx : 0 ≤ x) (hx' : x ≤ 4294967295) (hy : 0 ≤ y) (hy' : y ≤ 4294967295) :
    Calls Try.prog 36 #[.int .u8 48, .bool false, .int .i16 1, .int .u64 a, .int .u64 b] w (Did (aluZ false 48 1 x y % 4294967296) 0 w) := by
  have hp := Lib.hid fun w => ref_parts_1_32 x y w hx hx' hy hy'
  have CA := Lib.hid ca
  have CB := Lib.hid cb
  clear ca cb
  go_enter Try.func36, Try.ntmps36
  go_wp2_with fail
  refine (CA.out _).mono ?_; rintro e w' ⟨rfl, rfl⟩
  go_wp2_with fail
  refine (CB.out _).mono ?_; rintro e w' ⟨rfl, rfl⟩
  go_wp2_with fail
  refine (hp.out _).mono ?_; rintro e w' ⟨rfl, n, rfl⟩
  go_wp2_with fail
  go_ret2
  exact ⟨rfl, _, rfl⟩

set_option maxRecDepth 100000 in
set_option maxHeartbeats 2000000 in
theorem refd_no_div_32 (a b x y : Int) (off : Int) (w : World) (ca : refCut32 a x) (cb : refCut32 b y) (hx : 0 ≤ x) (hx' : x ≤ 4294967295) (hy : 0 ≤ y) (hy' : y ≤ 4294967295) (ho : (off != 0) = true) (h1 : (off != 1) = true) :
    Calls Try.prog 36 #[.int .u8 48, .bool false, .int .i16 off, .int .u64 a, .int .u64 b] w (Did 0 1 w) := by
  have CA := Lib.hid ca
  have CB := Lib.hid cb
  clear ca cb
  go_enter Try.func36, Try.ntmps36
  go_wp2_with fail
  refine (CA.out _).mono ?_; rintro e w' ⟨rfl, rfl⟩
  go_wp2_with fail
  refine (CB.out _).mono ?_; rintro e w' ⟨rfl, rfl⟩
  go_wp2_with fail
  go_ret2
  exact ⟨rfl, 0, rfl⟩

set_option maxRecDepth 100000 in
set_option maxHeartbeats 2000000 in
theorem refd_mod0_32 (a b x y : Int) (w : World) (ca : refCut32 a x) (cb : refCut32 b y) (hx : 0 ≤ x) (hx' : x ≤ 4294967295) (hy : 0 ≤ y) (hy' : y ≤ 4294967295) :
    Calls Try.prog 36 #[.int .u8 144, .bool false, .int .i16 0, .int .u64 a, .int .u64 b] w (Did (aluZ false 144 0 x y % 4294967296) 0 w) := by
  have hp := Lib.hid fun w => ref_parts_u_32 x y w hx hx' hy hy'
  have CA := Lib.hid ca
  have CB := Lib.hid cb
  clear ca cb
  go_enter Try.func36, Try.ntmps36
  go_wp2_with fail
  refine (CA.out _).mono ?_; rintro e w' ⟨rfl, rfl⟩
  go_wp2_with fail
  refine (CB.out _).mono ?_; rintro e w' ⟨rfl, rfl⟩
  go_wp2_with fail
  refine (hp.out _).mono ?_; rintro e w' ⟨rfl, n, rfl⟩
  go_wp2_with fail
  go_ret2
  exact ⟨rfl, _, rfl⟩

set_option maxRecDepth 100000 in
set_option maxHeartbeats 2000000 in
theorem refd_mod1_32 (a b x y : Int) (w : World) (ca : refCut32 a x) (cb : refCut32 b y) (hx : 0 ≤ x) (hx' : x ≤ 4294967295) (hy : 0 ≤ y) (hy' : y ≤ 4294967295) :
    Calls Try.prog 36 #[.int .u8 144, .bool false, .int .i16 1, .int .u64 a, .int .u64 b] w (Did (aluZ false 144 1 x y % 4294967296) 0 w) := by
  have hp := Lib.hid fun w => ref_parts_1_32 x y w hx hx' hy hy'
  have CA := Lib.hid ca
  have CB := Lib.hid cb
  clear ca cb
  go_enter Try.func36, Try.ntmps36
  go_wp2_with fail
  refine (CA.out _).mono ?_; rintro e w' ⟨rfl, rfl⟩
  go_wp2_with fail
  refine (CB.out _).mono ?_; rintro e w' ⟨rfl, rfl⟩
  go_wp2_with fail
  refine (hp.out _).mono ?_; rintro e w' ⟨rfl, n, rfl⟩
  go_wp2_with fail
  go_ret2
  exact ⟨rfl, _, rfl⟩

set_option maxRecDepth 100000 in
set_option maxHeartbeats 2000000 in
theorem refd_no_mod_32 (a b x y : Int) (off : Int) (w : World) (ca : refCut32 a x) (cb : refCut32 b y) (hx : 0 ≤ x) (hx' : x ≤ 4294967295) (hy : 0 ≤ y) (hy' : y ≤ 4294967295) (ho : (off != 0) = true) (h1 : (off != 1) = true) :
    Calls Try.prog 36 #[.int .u8 144, .bool false, .int .i16 off, .int .u64 a, .int .u64 b] w (Did 0 1 w) := by
  have CA := Lib.hid ca
  have CB := Lib.hid cb
  clear ca cb
  go_enter Try.func36, Try.ntmps36
  go_wp2_with fail
  refine (CA.out _).mono ?_; rintro e w' ⟨rfl, rfl⟩
  go_wp2_with fail
  refine (CB.out _).mono ?_; rintro e w' ⟨rfl, rfl⟩
  go_wp2_with fail
  go_ret2
  exact ⟨rfl, 0, rfl⟩

set_option maxRecDepth 100000 in
set_option maxHeartbeats 2000000 in
theorem refd_none_32 (op off : Int) (a b x y : Int) (w : World) (ca : refCut32 a x) (cb : refCut32 b y) (hx : 0 ≤ x) (hx' : x ≤ 4294967295) (hy : 0 ≤ y) (hy' : y ≤ 4294967295) (k0 : (op == 0) = false) (k16 : (op == 16) = false) (k32 : (op == 32) = false) (k64 : (op == 64) = false) (k80 : (op == 80) = false) (k160 : (op == 160) = false) (k96 : (op == 96) = false) (k112 : (op == 112) = false) (k192 : (op == 192) = false) (k128 : (op == 128) = false) (k176 : (op == 176) = false) (k48 : (op == 48) = false) (k144 : (op == 144) = false) :
    Calls Try.prog 36 #[.int .u8 op, .bool false, .int .i16 off, .int .u64 a, .int .u64 b] w (Did 0 1 w) := by
  have CA := Lib.hid ca
  have CB := Lib.hid cb
  clear ca cb
  go_enter Try.func36, Try.ntmps36
  go_wp2_with fail
  refine (CA.out _).mono ?_; rintro e w' ⟨rfl, rfl⟩
  go_wp2_with fail
  refine (CB.out _).mono ?_; rintro e w' ⟨rfl, rfl⟩
  go_wp2_with fail
  go_ret2
  exact ⟨rfl, 0, rfl⟩

end Go.Proofs.Ytfepokiibdkoeaa


/-
  The document's own Do, of whatever op and numbers: aluV, and the error aluE.
  Conditions: the numbers fit their kinds.
-/
namespace Go.Proofs.Ytfepokiibdkoeaa
open Go.RowKit
set_option linter.unusedVariables false

theorem refdo_32 (op off a b : Int) (w : World) (ha : 0 ≤ a) (ha' : a ≤ 18446744073709551615) (hb : 0 ≤ b) (hb' : b ≤ 18446744073709551615) :
    Calls Try.prog 36 #[.int .u8 op, .bool false, .int .i16 off, .int .u64 a, .int .u64 b] w (Did (aluV false op off a b) (aluE false op off) w) := by
  have ca : refCut32 a (a % 4294967296) := fun w => ref_cut_32 a w ha
  have cb : refCut32 b (b % 4294967296) := fun w => ref_cut_32 b w hb
  cases hf : aluFits op false off
  · have e1 : aluV false op off a b = 0 := by unfold aluV; rw [hf]; rfl
    have e2 : aluE false op off = 1 := by unfold aluE; rw [hf]; rfl
    rw [e1, e2]
    rcases op_cases op with h | h | h | h
    · have h01 : (off == 0 || off == 1) = false := by rw [← hf]; unfold aluFits; rw [if_pos h]
      simp at h01
      rcases h with rfl | rfl
      · exact refd_no_div_32 a b (a % 4294967296) (b % 4294967296) off w ca cb (by omega) (by omega) (by omega) (by omega) (ne_true h01.1) (ne_true h01.2)
      · exact refd_no_mod_32 a b (a % 4294967296) (b % 4294967296) off w ca cb (by omega) (by omega) (by omega) (by omega) (ne_true h01.1) (ne_true h01.2)
    · subst h
      have h01 : (off == 0 || off == 8 || off == 16 || (off == 32 && false)) = false := hf
      simp at h01
      exact refd_no_mov_32 a b (a % 4294967296) (b % 4294967296) off w ca cb (by omega) (by omega) (by omega) (by omega) (ne_true h01.1.1) (eq_false h01.1.2) (eq_false h01.2)
    · have h0 : (off == 0) = false := by rw [← hf]; unfold aluFits; rw [if_neg (by omega), if_neg (by omega), if_pos h]
      have hn : (off != 0) = true := ne_true (by simpa using h0)
      rcases h with rfl | rfl | rfl | rfl | rfl | rfl | rfl | rfl | rfl | rfl
      · exact refd_no_add_32 a b (a % 4294967296) (b % 4294967296) off w ca cb (by omega) (by omega) (by omega) (by omega) hn
      · exact refd_no_sub_32 a b (a % 4294967296) (b % 4294967296) off w ca cb (by omega) (by omega) (by omega) (by omega) hn
      · exact refd_no_mul_32 a b (a % 4294967296) (b % 4294967296) off w ca cb (by omega) (by omega) (by omega) (by omega) hn
      · exact refd_no_or_32 a b (a % 4294967296) (b % 4294967296) off w ca cb (by omega) (by omega) (by omega) (by omega) hn
      · exact refd_no_and_32 a b (a % 4294967296) (b % 4294967296) off w ca cb (by omega) (by omega) (by omega) (by omega) hn
      · exact refd_no_xor_32 a b (a % 4294967296) (b % 4294967296) off w ca cb (by omega) (by omega) (by omega) (by omega) hn
      · exact refd_no_lsh_32 a b (a % 4294967296) (b % 4294967296) off w ca cb (by omega) (by omega) (by omega) (by omega) hn
      · exact refd_no_rsh_32 a b (a % 4294967296) (b % 4294967296) off w ca cb (by omega) (by omega) (by omega) (by omega) hn
      · by_cases hc : a % 4294967296 * 2 < 4294967296
        · exact refd_no_arsh_p_32 a b (a % 4294967296) (b % 4294967296) off w ca cb (by omega) (by omega) (by omega) (by omega) hc hn
        · exact refd_no_arsh_n_32 a b (a % 4294967296) (b % 4294967296) off w ca cb (by omega) (by omega) (by omega) (by omega) hc hn
      · exact refd_no_neg_32 a b (a % 4294967296) (b % 4294967296) off w ca cb (by omega) (by omega) (by omega) (by omega) hn
    · obtain ⟨⟨a1, a2, a3, a4, a5, a6, a7⟩, a8, a9, a10, a11, a12, a13⟩ := h
      exact refd_none_32 op off a b (a % 4294967296) (b % 4294967296) w ca cb (by omega) (by omega) (by omega) (by omega) (eq_false a1) (eq_false a2) (eq_false a3) (eq_false a4) (eq_false a5) (eq_false a6) (eq_false a7) (eq_false a8) (eq_false a9) (eq_false a10) (eq_false a13) (eq_false a11) (eq_false a12)
  · have e1 : aluV false op off a b = aluZ false op off (a % 4294967296) (b % 4294967296) % 4294967296 := by unfold aluV; rw [hf, if_pos rfl]; rfl
    have e2 : aluE false op off = 0 := by unfold aluE; rw [hf]; rfl
    rw [e1, e2]
    rcases fits_ops hf with ⟨rfl, rfl⟩ | ⟨rfl, rfl⟩ | ⟨rfl, rfl⟩ | ⟨rfl, rfl⟩ | ⟨rfl, rfl⟩ | ⟨rfl, rfl⟩ | ⟨rfl, rfl⟩ | ⟨rfl, rfl⟩ | ⟨rfl, rfl⟩ | ⟨rfl, rfl⟩ | ⟨rfl, rfl | rfl | rfl | ⟨rfl, hw⟩⟩ | ⟨rfl, rfl | rfl⟩ | ⟨rfl, rfl | rfl⟩
    · exact refd_add_32 a b (a % 4294967296) (b % 4294967296) w ca cb (by omega) (by omega) (by omega) (by omega)
    · exact refd_sub_32 a b (a % 4294967296) (b % 4294967296) w ca cb (by omega) (by omega) (by omega) (by omega)
    · exact refd_mul_32 a b (a % 4294967296) (b % 4294967296) w ca cb (by omega) (by omega) (by omega) (by omega)
    · exact refd_or_32 a b (a % 4294967296) (b % 4294967296) w ca cb (by omega) (by omega) (by omega) (by omega)
    · exact refd_and_32 a b (a % 4294967296) (b % 4294967296) w ca cb (by omega) (by omega) (by omega) (by omega)
    · exact refd_xor_32 a b (a % 4294967296) (b % 4294967296) w ca cb (by omega) (by omega) (by omega) (by omega)
    · exact refd_lsh_32 a b (a % 4294967296) (b % 4294967296) w ca cb (by omega) (by omega) (by omega) (by omega)
    · exact refd_rsh_32 a b (a % 4294967296) (b % 4294967296) w ca cb (by omega) (by omega) (by omega) (by omega)
    · by_cases hc : a % 4294967296 * 2 < 4294967296
      · exact refd_arsh_p_32 a b (a % 4294967296) (b % 4294967296) w ca cb (by omega) (by omega) (by omega) (by omega) hc
      · exact refd_arsh_n_32 a b (a % 4294967296) (b % 4294967296) w ca cb (by omega) (by omega) (by omega) (by omega) hc
    · exact refd_neg_32 a b (a % 4294967296) (b % 4294967296) w ca cb (by omega) (by omega) (by omega) (by omega)
    · exact refd_mov0_32 a b (a % 4294967296) (b % 4294967296) w ca cb (by omega) (by omega) (by omega) (by omega)
    · exact refd_mov8_32 a b (a % 4294967296) (b % 4294967296) w ca cb (by omega) (by omega) (by omega) (by omega)
    · exact refd_mov16_32 a b (a % 4294967296) (b % 4294967296) w ca cb (by omega) (by omega) (by omega) (by omega)
    · cases hw
    · exact refd_div0_32 a b (a % 4294967296) (b % 4294967296) w ca cb (by omega) (by omega) (by omega) (by omega)
    · exact refd_div1_32 a b (a % 4294967296) (b % 4294967296) w ca cb (by omega) (by omega) (by omega) (by omega)
    · exact refd_mod0_32 a b (a % 4294967296) (b % 4294967296) w ca cb (by omega) (by omega) (by omega) (by omega)
    · exact refd_mod1_32 a b (a % 4294967296) (b % 4294967296) w ca cb (by omega) (by omega) (by omega) (by omega)

theorem refdo_any (op off a b : Int) (wide : Bool) (w : World) (ha : 0 ≤ a) (ha' : a ≤ 18446744073709551615) (hb : 0 ≤ b) (hb' : b ≤ 18446744073709551615) :
    Calls Try.prog 36 #[.int .u8 op, .bool wide, .int .i16 off, .int .u64 a, .int .u64 b] w (Did (aluV wide op off a b) (aluE wide op off) w) := by
  cases wide
  · exact refdo_32 op off a b w ha ha' hb hb'
  · exact refdo_64 op off a b w ha ha' hb hb'

end Go.Proofs.Ytfepokiibdkoeaa

