/-
  P2.2: bits that are moved up and down again are the lowest ones, and moved down with their sign are the number by powers of two, rounded down.
  Conditions: none beyond the row's own.
-/
import Derived.Test.YthafidhcmahomaaAluShown
namespace Go.Proofs.Ythafidhcmahomaa
open Go.RowKit
set_option linter.unusedVariables false

set_option maxHeartbeats 1000000 in
theorem moves_walk (wide : Bool) (a by_ : Int) (w : World) (ha : 0 ≤ a ∧ a ≤ 18446744073709551615) (hb : 0 ≤ by_ ∧ by_ ≤ 255) :
    Calls Try.prog 9 #[.bool wide, .int .u64 a, .int .u8 by_] w fun e w' => e = .returned (.bool true) ∧ Below w.heap.size w w' := by
  obtain ⟨b1, b2⟩ := hb
  obtain ⟨a1, a2⟩ := ha
  refine Calls.mono ?_ fun e w' => Yes.below
  cases wide
  · have n0 : 0 ≤ by_ % 32 := by omega
    have n1 : by_ % 32 < 32 := by omega
    have l1 := moves_low false a (by_ % 32) n0 n1
    have l2 := moves_left false a (by_ % 32) n0 n1
    have l3 := moves_more false a (by_ % 32) n0 n1
    have hp := pow_le_64 (32 - by_ % 32).toNat (by omega)
    have e0 : IntKind.u64.wrap (IntKind.u64.wrap (2 ^ (32 - by_ % 32).toNat) - 1) = 2 ^ (32 - by_ % 32).toNat - 1 := by
      rw [IntKind.wrap_u64, IntKind.wrap_u64]; omega
    have e1 : bits .and .u64 a (2 ^ (32 - by_ % 32).toNat - 1) = a % 2 ^ (32 - by_ % 32).toNat := and_mask a _ (by omega) a1 a2
    have e2 : IntKind.u64.wrap (2 ^ (by_ % 32).toNat) = 2 ^ (by_ % 32).toNat := by
      rw [IntKind.wrap_u64]; exact pow_lt_64 _ (by omega)
    replace l1 : _ = a % 2 ^ (32 - by_ % 32).toNat := l1
    rw [← e0] at e1
    rw [← l1] at e1
    rw [← e2] at l2
    clear e0 e2 l1 hp
    replace l3 : aluV false 96 0 a (by_ % 32 + 32) = aluV false 96 0 a (by_ % 32) := l3
    generalize hx : aluV false 96 0 a (by_ % 32) = x at e1 l3
    generalize hy : aluV false 112 0 x (by_ % 32) = y at e1
    generalize hs : aluV false 192 0 a (by_ % 32) = s at l2
    generalize hu : aluV false 96 0 s (by_ % 32) = u at l2
    generalize hl : aluV false 16 0 a u = l at l2
    have x0 : 0 ≤ x := by rw [← hx]; exact (aluV_range _ _ _ _ _).1
    have s0 : 0 ≤ s := by rw [← hs]; exact (aluV_range _ _ _ _ _).1
    have u0 : 0 ≤ u := by rw [← hu]; exact (aluV_range _ _ _ _ _).1
    have h1 := Lib.hid fun w => did_to w a1 n0 hx (k := 0) rfl
    have h2 := Lib.hid fun w => did_to w x0 n0 hy (k := 0) rfl
    have h3 := Lib.hid fun w => did_to w a1 n0 hs (k := 0) rfl
    have h4 := Lib.hid fun w => did_to w s0 n0 hu (k := 0) rfl
    have h5 := Lib.hid fun w => did_to w a1 u0 hl (k := 0) rfl
    have h6 := Lib.hid fun w => did_to (b := by_ % 32 + 32) w a1 (by omega) l3 (k := 0) rfl
    clear hx hy hs hu hl l3
    go_enter Try.func9, Try.ntmps9
    go_wp2_with fail
    refine (shown_true _).mono ?_; rintro e w' ⟨rfl, m0, rfl⟩
    go_wp2_with fail
    refine (h1.out _).mono ?_; rintro e w' ⟨rfl, m1, rfl⟩
    go_wp2_with fail
    refine (h2.out _).mono ?_; rintro e w' ⟨rfl, m2, rfl⟩
    go_wp2_with fail
    refine (h3.out _).mono ?_; rintro e w' ⟨rfl, m3, rfl⟩
    go_wp2_with fail
    refine (h4.out _).mono ?_; rintro e w' ⟨rfl, m4, rfl⟩
    go_wp2_with fail
    refine (h5.out _).mono ?_; rintro e w' ⟨rfl, m5, rfl⟩
    go_wp2_with fail
    refine (h6.out _).mono ?_; rintro e w' ⟨rfl, m6, rfl⟩
    go_wp2_with fail
    go_ret
    exact ⟨rfl, _, rfl⟩
  · have n0 : 0 ≤ by_ % 64 := by omega
    have n1 : by_ % 64 < 64 := by omega
    have l1 := moves_low true a (by_ % 64) n0 n1
    have l2 := moves_left true a (by_ % 64) n0 n1
    have l3 := moves_more true a (by_ % 64) n0 n1
    have hp := pow_le_64 (64 - by_ % 64).toNat (by omega)
    have e0 : IntKind.u64.wrap (IntKind.u64.wrap (2 ^ (64 - by_ % 64).toNat) - 1) = 2 ^ (64 - by_ % 64).toNat - 1 := by
      rw [IntKind.wrap_u64, IntKind.wrap_u64]; omega
    have e1 : bits .and .u64 a (2 ^ (64 - by_ % 64).toNat - 1) = a % 2 ^ (64 - by_ % 64).toNat := and_mask a _ (by omega) a1 a2
    have e2 : IntKind.u64.wrap (2 ^ (by_ % 64).toNat) = 2 ^ (by_ % 64).toNat := by
      rw [IntKind.wrap_u64]; exact pow_lt_64 _ (by omega)
    replace l1 : _ = a % 2 ^ (64 - by_ % 64).toNat := l1
    rw [← e0] at e1
    rw [← l1] at e1
    rw [← e2] at l2
    clear e0 e2 l1 hp
    replace l3 : aluV true 96 0 a (by_ % 64 + 64) = aluV true 96 0 a (by_ % 64) := l3
    generalize hx : aluV true 96 0 a (by_ % 64) = x at e1 l3
    generalize hy : aluV true 112 0 x (by_ % 64) = y at e1
    generalize hs : aluV true 192 0 a (by_ % 64) = s at l2
    generalize hu : aluV true 96 0 s (by_ % 64) = u at l2
    generalize hl : aluV true 16 0 a u = l at l2
    have x0 : 0 ≤ x := by rw [← hx]; exact (aluV_range _ _ _ _ _).1
    have s0 : 0 ≤ s := by rw [← hs]; exact (aluV_range _ _ _ _ _).1
    have u0 : 0 ≤ u := by rw [← hu]; exact (aluV_range _ _ _ _ _).1
    have h1 := Lib.hid fun w => did_to w a1 n0 hx (k := 0) rfl
    have h2 := Lib.hid fun w => did_to w x0 n0 hy (k := 0) rfl
    have h3 := Lib.hid fun w => did_to w a1 n0 hs (k := 0) rfl
    have h4 := Lib.hid fun w => did_to w s0 n0 hu (k := 0) rfl
    have h5 := Lib.hid fun w => did_to w a1 u0 hl (k := 0) rfl
    have h6 := Lib.hid fun w => did_to (b := by_ % 64 + 64) w a1 (by omega) l3 (k := 0) rfl
    clear hx hy hs hu hl l3
    go_enter Try.func9, Try.ntmps9
    go_wp2_with fail
    refine (shown_true _).mono ?_; rintro e w' ⟨rfl, m0, rfl⟩
    go_wp2_with fail
    refine (h1.out _).mono ?_; rintro e w' ⟨rfl, m1, rfl⟩
    go_wp2_with fail
    refine (h2.out _).mono ?_; rintro e w' ⟨rfl, m2, rfl⟩
    go_wp2_with fail
    refine (h3.out _).mono ?_; rintro e w' ⟨rfl, m3, rfl⟩
    go_wp2_with fail
    refine (h4.out _).mono ?_; rintro e w' ⟨rfl, m4, rfl⟩
    go_wp2_with fail
    refine (h5.out _).mono ?_; rintro e w' ⟨rfl, m5, rfl⟩
    go_wp2_with fail
    refine (h6.out _).mono ?_; rintro e w' ⟨rfl, m6, rfl⟩
    go_wp2_with fail
    go_ret
    exact ⟨rfl, _, rfl⟩

end Go.Proofs.Ythafidhcmahomaa
