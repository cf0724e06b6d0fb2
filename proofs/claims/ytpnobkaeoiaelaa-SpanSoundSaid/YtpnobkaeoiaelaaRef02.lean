/-
  The document's own answers of layer 2, part by part: lowest bits, signed numbers, division.
  Conditions: the numbers fit their kinds.
-/
import Derived.Test.YtpnobkaeoiaelaaAluDid
namespace Go.Proofs.Ytpnobkaeoiaelaa
open Go.RowKit
set_option linter.unusedVariables false

theorem ref_cut_64 (n : Int) (w : World) (h : 0 ≤ n) (h' : n ≤ 18446744073709551615) :
    Calls Try.prog 30 #[.int .u64 n, .int .i64 64] w fun e w' => e = .returned (.int .u64 (n % 18446744073709551616)) ∧ w = w' := by
  go_enter Try.func30, Try.ntmps30
  go_wp2
  go_ret
  exact ⟨ret_int (by omega), rfl⟩
theorem ref_cut_32 (n : Int) (w : World) (h : 0 ≤ n) :
    Calls Try.prog 30 #[.int .u64 n, .int .i64 32] w fun e w' => e = .returned (.int .u64 (n % 4294967296)) ∧ w = w' := by
  go_enter Try.func30, Try.ntmps30
  go_wp2
  go_ret
  exact ⟨ret_int (by omega), rfl⟩
theorem ref_cut_any (n k : Int) (w : World) (h : 0 ≤ n) (h' : n ≤ 18446744073709551615) (h1 : 1 ≤ k) (h2 : k ≤ 64) :
    Calls Try.prog 30 #[.int .u64 n, .int .i64 k] w fun e w' => e = .returned (.int .u64 (n % 2 ^ k.toNat)) ∧ w = w' := by
  by_cases hk : k = 64
  · subst hk; exact ref_cut_64 n w h h'
  · have k1 : (k == 64) = false := beq_eq_false_iff_ne.mpr hk
    have e0 := pow_lt_64 k.toNat (by omega)
    have hp := (pow_le_64 k.toNat (by omega)).1
    generalize hg : (2 : Int) ^ k.toNat = P at *
    have e : IntKind.u64.wrap P = P := by rw [IntKind.wrap_u64, e0]
    clear e0 hk
    go_enter Try.func30, Try.ntmps30
    go_wp2
    go_ret
    exact ⟨rfl, rfl⟩

/-- A number's lowest bits, signed, by comparing. -/
theorem sgn_split (a k : Int) (h1 : 1 ≤ k) : (a % 2 ^ k.toNat / 2 ^ (k.toNat - 1) = 0 → sgnP (2 ^ k.toNat) a = a % 2 ^ k.toNat) ∧ (¬ a % 2 ^ k.toNat / 2 ^ (k.toNat - 1) = 0 → sgnP (2 ^ k.toNat) a = a % 2 ^ k.toNat - 2 ^ k.toNat) := by
  have hs : (2 : Int) ^ k.toNat = 2 ^ (k.toNat - 1) * 2 := by rw [← Int.pow_succ, show (k.toNat - 1).succ = k.toNat by omega]
  have hH := two_pow_pos (k.toNat - 1)
  have h0 := Int.emod_nonneg a (b := 2 ^ k.toNat) (by omega)
  unfold sgnP
  rw [hs] at *
  generalize (2 : Int) ^ (k.toNat - 1) = H at *
  generalize a % (H * 2) = x at *
  constructor
  · intro h
    have h3 : x < H := by
      by_cases h3 : x < H
      · exact h3
      · have := (Int.le_ediv_iff_mul_le hH).mpr (show 1 * H ≤ x by omega)
        omega
    rw [if_pos (by omega)]
  · intro h
    have h3 : H ≤ x := by
      by_cases h3 : x < H
      · exact absurd (Int.ediv_eq_zero_of_lt h0 h3) h
      · omega
    rw [if_neg (by omega)]

set_option maxHeartbeats 1000000 in
theorem ref_sign (n k : Int) (w : World) (h : 0 ≤ n) (h' : n ≤ 18446744073709551615) :
    Calls Try.prog 31 #[.int .u64 n, .int .i64 k] w fun e w' => e = .returned (.int .u64 (signW n k)) ∧ w = w' := by
  by_cases h1 : 1 ≤ k
  · by_cases h2 : k ≤ 64
    · by_cases hk : k = 64
      · subst hk
        rw [signW_64]
        by_cases hz : n % 18446744073709551616 / 9223372036854775808 = 0
        all_goals
          have hz2 := hz
          clear hz
          go_enter Try.func31, Try.ntmps31
          go_wp2_with (go_at_call 30; refine (ref_cut_64 _ _ (by omega) (by omega)).mono ?_; rintro e w' ⟨rfl, rfl⟩)
          go_ret
          exact ⟨rfl, rfl⟩
      · have k1 : (k == 64) = false := beq_eq_false_iff_ne.mpr hk
        obtain ⟨s1, s2⟩ := sgn_split n k h1
        have hc := Lib.hid fun w => ref_cut_any n k w h h' h1 h2
        have e0 := pow_lt_64 k.toNat (by omega)
        have es : signW n k = sgnP (2 ^ k.toNat) n % 18446744073709551616 := by unfold signW; rw [if_pos ⟨h1, h2⟩]
        have h0 := Int.emod_nonneg n (b := 2 ^ k.toNat) (by have := two_pow_pos k.toNat; omega)
        have hl := Int.emod_lt_of_pos n (two_pow_pos k.toNat)
        have hp := pow_le_64 k.toNat (by omega)
        rw [es]
        by_cases hz : n % 2 ^ k.toNat / 2 ^ (k.toNat - 1) = 0
        · have hz1 : (n % 2 ^ k.toNat / 2 ^ (k.toNat - 1) == 0) = true := beq_iff_eq.mpr hz
          rw [s1 hz]
          have e9 := Lib.hid (show n % 2 ^ k.toNat = n % 2 ^ k.toNat % 18446744073709551616 by omega)
          clear s1 s2 es hk hz e0 hp
          go_enter Try.func31, Try.ntmps31
          go_wp2_with (go_at_call 30; refine (hc.out _).mono ?_; rintro e w' ⟨rfl, rfl⟩)
          go_ret
          exact ⟨ret_int e9.out, rfl⟩
        · have hz1 : (n % 2 ^ k.toNat / 2 ^ (k.toNat - 1) == 0) = false := beq_eq_false_iff_ne.mpr hz
          rw [s2 hz]
          have e9 := Lib.hid (show IntKind.u64.wrap (n % 2 ^ k.toNat - IntKind.u64.wrap (2 ^ k.toNat)) = (n % 2 ^ k.toNat - 2 ^ k.toNat) % 18446744073709551616 by rw [IntKind.wrap_u64, IntKind.wrap_u64, e0])
          clear s1 s2 es hk hz e0 hp hl
          go_enter Try.func31, Try.ntmps31
          go_wp2_with (go_at_call 30; refine (hc.out _).mono ?_; rintro e w' ⟨rfl, rfl⟩)
          go_ret
          exact ⟨ret_int e9.out, rfl⟩
    · go_enter Try.func31, Try.ntmps31
      go_wp2
      go_ret
      exact ⟨ret_int (by unfold signW; rw [if_neg (by omega)]), rfl⟩
  · go_enter Try.func31, Try.ntmps31
    go_wp2
    go_ret
    exact ⟨ret_int (by unfold signW; rw [if_neg (by omega)]), rfl⟩

end Go.Proofs.Ytpnobkaeoiaelaa
