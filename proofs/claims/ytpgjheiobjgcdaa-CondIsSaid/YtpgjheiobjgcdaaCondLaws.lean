/-
  P3.1, P3.2: what Is, Not and Turned answer is the document's own; the walks of CondIs and CondNot.
  Conditions: none beyond the rows' own.
-/
import Derived.Test.YtpgjheiobjgcdaaCondShown
import Derived.Test.YtpgjheiobjgcdaaCondMath
import Derived.Test.YtpgjheiobjgcdaaRef03b
import Derived.Test.YtpgjheiobjgcdaaRef03Pair
namespace Go.Proofs.Ytpgjheiobjgcdaa
open Go.RowKit
set_option linter.unusedVariables false

/-- The document's own Is, of whatever op and numbers. -/
theorem ref_is_any (op : Int) (wide : Bool) (a b : Int) (w : World) (ha : 0 ≤ a ∧ a ≤ 18446744073709551615) (hb : 0 ≤ b ∧ b ≤ 18446744073709551615) :
    Calls Try.prog 10 #[.int .u8 op, .bool wide, .int .u64 a, .int .u64 b] w (Told (condV op wide a b) (condE op) w) := by
  cases hf : condFits op
  · have e : condE op = 1 := by unfold condE; rw [hf]; rfl
    rw [e, condV_none hf]
    cases wide
    · exact ref_is_none_32 op a b w ha hb hf
    · exact ref_is_none_64 op a b w ha hb hf
  · have e : condE op = 0 := by unfold condE; rw [hf]; rfl
    rw [e]
    unfold condV
    have ho : op = 0 ∨ op = 16 ∨ op = 80 ∨ op = 32 ∨ op = 48 ∨ op = 160 ∨ op = 176 ∨ op = 96 ∨ op = 112 ∨ op = 192 ∨ op = 208 ∨ op = 64 := by have h := fits_is hf; omega
    cases wide
    · exact ref_is_32 op a b w ha hb ho
    · have ea : a % aM true = a := Int.emod_eq_of_lt ha.1 (by show a < 18446744073709551616; omega)
      have eb : b % aM true = b := Int.emod_eq_of_lt hb.1 (by show b < 18446744073709551616; omega)
      rw [ea, eb]
      exact ref_is_64 op a b w ha hb ho

set_option maxHeartbeats 1000000 in
theorem is_walk (op : Int) (wide : Bool) (a b : Int) (w : World) (ha : 0 ≤ a ∧ a ≤ 18446744073709551615) (hb : 0 ≤ b ∧ b ≤ 18446744073709551615) :
    Calls Try.prog 3 #[.int .u8 op, .bool wide, .int .u64 a, .int .u64 b] w (Fine w) := by
  have h1 := Lib.hid fun w => is_any op wide a b w ha hb
  have h2 := Lib.hid fun w => ref_is_any op wide a b w ha hb
  generalize condV op wide a b = v at *
  generalize condE op = k at *
  clear ha hb
  go_enter Try.func3, Try.ntmps3
  go_wp2_with fail
  refine (h1.out _).mono ?_; rintro e w1 ⟨rfl, b1⟩
  go_wp2_with fail
  refine (h2.out _).mono ?_; rintro e w2 ⟨rfl, b2⟩
  go_wp2_with fail
  refine (cond_shown _).mono ?_; rintro e w3 ⟨rfl, b3⟩
  go_wp2_with fail
  go_ret
  exact ⟨rfl, below_next' (below_next' b1 b2) b3⟩

theorem not_pairs {op k : Int} (h : pairOf notPairs op = (k, true)) : (op = 16 ∧ k = 80) ∨ (op = 80 ∧ k = 16) ∨ (op = 32 ∧ k = 176) ∨ (op = 176 ∧ k = 32) ∨ (op = 48 ∧ k = 160) ∨ (op = 160 ∧ k = 48) ∨ (op = 96 ∧ k = 208) ∨ (op = 208 ∧ k = 96) ∨ (op = 112 ∧ k = 192) ∨ (op = 192 ∧ k = 112) := by
  simp only [notPairs, pairOf] at h
  repeat' (split at h)
  all_goals first | (have h' := (Prod.mk.inj h).2; cases h'; done) | (have h' := (Prod.mk.inj h).1; omega)
theorem turn_pairs {op k : Int} (h : pairOf turnPairs op = (k, true)) : (op = 16 ∧ k = 16) ∨ (op = 80 ∧ k = 80) ∨ (op = 64 ∧ k = 64) ∨ (op = 32 ∧ k = 160) ∨ (op = 160 ∧ k = 32) ∨ (op = 48 ∧ k = 176) ∨ (op = 176 ∧ k = 48) ∨ (op = 96 ∧ k = 192) ∨ (op = 192 ∧ k = 96) ∨ (op = 112 ∧ k = 208) ∨ (op = 208 ∧ k = 112) := by
  simp only [turnPairs, pairOf] at h
  by_cases h16 : (16 : Int) = op
  · rw [if_pos h16] at h; have h' := (Prod.mk.inj h).1; omega
  rw [if_neg h16, if_neg h16] at h
  by_cases h80 : (80 : Int) = op
  · rw [if_pos h80] at h; have h' := (Prod.mk.inj h).1; omega
  rw [if_neg h80, if_neg h80] at h
  by_cases h64 : (64 : Int) = op
  · rw [if_pos h64] at h; have h' := (Prod.mk.inj h).1; omega
  rw [if_neg h64, if_neg h64] at h
  by_cases h32 : (32 : Int) = op
  · rw [if_pos h32] at h; have h' := (Prod.mk.inj h).1; omega
  rw [if_neg h32] at h
  by_cases h160 : (160 : Int) = op
  · rw [if_pos h160] at h; have h' := (Prod.mk.inj h).1; omega
  rw [if_neg h160] at h
  by_cases h48 : (48 : Int) = op
  · rw [if_pos h48] at h; have h' := (Prod.mk.inj h).1; omega
  rw [if_neg h48] at h
  by_cases h176 : (176 : Int) = op
  · rw [if_pos h176] at h; have h' := (Prod.mk.inj h).1; omega
  rw [if_neg h176] at h
  by_cases h96 : (96 : Int) = op
  · rw [if_pos h96] at h; have h' := (Prod.mk.inj h).1; omega
  rw [if_neg h96] at h
  by_cases h192 : (192 : Int) = op
  · rw [if_pos h192] at h; have h' := (Prod.mk.inj h).1; omega
  rw [if_neg h192] at h
  by_cases h112 : (112 : Int) = op
  · rw [if_pos h112] at h; have h' := (Prod.mk.inj h).1; omega
  rw [if_neg h112] at h
  by_cases h208 : (208 : Int) = op
  · rw [if_pos h208] at h; have h' := (Prod.mk.inj h).1; omega
  rw [if_neg h208] at h
  have h' := (Prod.mk.inj h).2
  cases h'

set_option maxHeartbeats 2000000 in
theorem not_walk (op : Int) (wide : Bool) (a b : Int) (w : World) (ha : 0 ≤ a ∧ a ≤ 18446744073709551615) (hb : 0 ≤ b ∧ b ≤ 18446744073709551615) :
    Calls Try.prog 4 #[.int .u8 op, .bool wide, .int .u64 a, .int .u64 b] w (Fine w) := by
  have h1 : ∀ w, Calls _ _ _ _ _ := fun w => not_any op w
  have h2 : ∀ w, Calls _ _ _ _ _ := fun w => ref_not_any op w
  have h3 : ∀ w, Calls _ _ _ _ _ := fun w => turned_any op w
  have h4 : ∀ w, Calls _ _ _ _ _ := fun w => ref_turned_any op w
  have hn := @not_pairs op
  have ht := @turn_pairs op
  unfold Paired at h1 h2 h3 h4
  generalize pairOf notPairs op = n at *
  generalize pairOf turnPairs op = t at *
  obtain ⟨n, nb⟩ := n
  obtain ⟨t, tb⟩ := t
  have h5 := Lib.hid fun w => is_any op wide a b w ha hb
  have h6 := Lib.hid fun w => is_any n wide a b w ha hb
  have h7 := Lib.hid fun w => is_any t wide b a w hb ha
  have hn2 : nb = true → (condV op wide a b != condV n wide a b) = true := fun h => not_law op n (hn (by rw [h])) wide a b
  have ht2 : tb = true → condV op wide a b = condV t wide b a := fun h => turn_law op t (ht (by rw [h])) wide a b
  clear hn ht ha hb
  have H1 := Lib.hid h1
  have H2 := Lib.hid h2
  have H3 := Lib.hid h3
  have H4 := Lib.hid h4
  clear h1 h2 h3 h4
  generalize condV op wide a b = x at *
  generalize condV n wide a b = y at *
  generalize condV t wide b a = z at *
  generalize condE op = k1 at *
  generalize condE n = k2 at *
  generalize condE t = k3 at *
  have hh : (nb = false ∨ (nb = true ∧ x = true ∧ y = false) ∨ (nb = true ∧ x = false ∧ y = true)) ∧ (tb = false ∨ (tb = true ∧ z = x)) := by
    cases nb <;> cases tb <;> cases x <;> cases y <;> cases z <;> simp_all
  clear hn2 ht2
  obtain ⟨hn, ht⟩ := hh
  rcases hn with rfl | ⟨rfl, rfl, rfl⟩ | ⟨rfl, rfl, rfl⟩ <;> rcases ht with rfl | ⟨rfl, rfl⟩
  all_goals
    go_enter Try.func4, Try.ntmps4
    go_wp2_with fail
    refine (cond_shown _).mono ?_; rintro e w0 ⟨rfl, b0⟩
    go_wp2_with fail
    refine (H1.out _).mono ?_; rintro e w1 ⟨rfl, b1⟩
    go_wp2_with fail
    refine (H2.out _).mono ?_; rintro e w2 ⟨rfl, b2⟩
    go_wp2_with fail
    refine (H3.out _).mono ?_; rintro e w3 ⟨rfl, b3⟩
    go_wp2_with fail
    refine (H4.out _).mono ?_; rintro e w4 ⟨rfl, b4⟩
    go_wp2_with fail
    refine (h5.out _).mono ?_; rintro e w5 ⟨rfl, b5⟩
    go_wp2_with fail
    refine (h6.out _).mono ?_; rintro e w6 ⟨rfl, b6⟩
    go_wp2_with fail
    refine (h7.out _).mono ?_; rintro e w7 ⟨rfl, b7⟩
    go_wp2_with fail
    go_ret
    exact ⟨rfl, below_next' (below_next' (below_next' (below_next' (below_next' (below_next' (below_next' b0 b1) b2) b3) b4) b5) b6) b7⟩

end Go.Proofs.Ytpgjheiobjgcdaa
