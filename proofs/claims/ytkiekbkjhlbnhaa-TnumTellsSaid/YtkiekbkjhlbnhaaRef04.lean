/-
  The document's own answers of layer 4: bits, right, made.
  Conditions: none.
-/
import Derived.Test.YtkiekbkjhlbnhaaTnumPair
import Derived.Test.YtkiekbkjhlbnhaaTnumLaws
import Derived.LoopTactic
namespace Go.Proofs.Ytkiekbkjhlbnhaa
open Go.RowKit
set_option linter.unusedVariables false

theorem bit_int (n : BitVec 64) (i : Nat) : ((n.toNat : Int) / 2 ^ i % 2 == 1) = n.getLsbD i := by
  have e : (n.toNat : Int) / 2 ^ i % 2 = ((n.toNat / 2 ^ i % 2 : Nat) : Int) := by simp
  rw [e]
  show _ = n.toNat.testBit i
  rw [Nat.testBit_eq_decide_div_mod_eq]
  have h := Nat.mod_two_eq_zero_or_one (n.toNat / 2 ^ i)
  rcases h with h | h <;> simp [h]
theorem bit_says (n : BitVec 64) (i : Nat) (hi : i < 64) (w : World) : Calls Try.prog 31 #[uV n, .int .i64 i] w fun e w' => e = .returned (.bool (n.getLsbD i)) ∧ w = w' := by
  have e := bit_int n i
  have e1 : ((n.toNat : Int) / 2 ^ i).tmod 2 = (n.toNat : Int) / 2 ^ i % 2 := Int.tmod_eq_emod_of_nonneg (Int.ediv_nonneg (by omega) (by have := two_pow_pos i; omega))
  generalize n.getLsbD i = b at *
  go_enter Try.func31, Try.ntmps31
  go_wp2_with fail
  go_ret
  exact ⟨rfl, rfl⟩
theorem right_fail {t : Tn} {j : Nat} (hj : j < 64) (h1 : t.1.getLsbD j = true) (h2 : t.2.getLsbD j = true) : tR t = false := by
  rw [← Bool.not_eq_true, tR_iff]
  intro h
  have e := h j hj
  rw [h1, h2] at e
  cases e
theorem has_end {t : Tn} {n : BitVec 64} (h : ∀ k, k < 64 → t.2.getLsbD k = true ∨ t.1.getLsbD k = n.getLsbD k) : tH t n = tR t := by
  rw [Bool.eq_iff_iff, tH_iff, tR_iff]
  constructor
  · intro e i hi
    have e1 := e i hi
    have h1 := h i hi
    revert e1 h1
    generalize t.1.getLsbD i = u1
    generalize t.2.getLsbD i = u2
    generalize n.getLsbD i = u3
    cases u1 <;> cases u2 <;> cases u3 <;> simp
  · intro e i hi
    have e1 := e i hi
    have h1 := h i hi
    revert e1 h1
    generalize t.1.getLsbD i = u1
    generalize t.2.getLsbD i = u2
    generalize n.getLsbD i = u3
    cases u1 <;> cases u2 <;> cases u3 <;> simp
theorem has_fail {t : Tn} {n : BitVec 64} {j : Nat} (hj : j < 64) (h1 : t.2.getLsbD j = false) (h2 : t.1.getLsbD j = !n.getLsbD j) : tH t n = false := by
  rw [← Bool.not_eq_true, tH_iff]
  intro h
  have e := h j hj
  rw [h1, h2] at e
  revert e
  cases n.getLsbD j <;> simp
theorem within_end {a b : Tn} (h : ∀ k, k < 64 → b.2.getLsbD k = true ∨ (a.2.getLsbD k = false ∧ a.1.getLsbD k = b.1.getLsbD k)) : tW a b = tRR a b := by
  rw [Bool.eq_iff_iff, tW_iff, tRR_iff, tR_iff b]
  constructor
  · rintro ⟨ra, e⟩
    refine ⟨ra, fun i hi => ?_⟩
    obtain ⟨e1, e2⟩ := e i hi
    have h1 := h i hi
    revert e1 e2 h1
    generalize a.1.getLsbD i = u1
    generalize a.2.getLsbD i = u2
    generalize b.1.getLsbD i = u3
    generalize b.2.getLsbD i = u4
    cases u1 <;> cases u2 <;> cases u3 <;> cases u4 <;> simp
  · rintro ⟨ra, e⟩
    refine ⟨ra, fun i hi => ?_⟩
    have e0 := (tR_iff a).mp ra i hi
    have e1 := e i hi
    have h1 := h i hi
    revert e0 e1 h1
    generalize a.1.getLsbD i = u1
    generalize a.2.getLsbD i = u2
    generalize b.1.getLsbD i = u3
    generalize b.2.getLsbD i = u4
    cases u1 <;> cases u2 <;> cases u3 <;> cases u4 <;> simp
theorem within_fail {a b : Tn} {j : Nat} (hj : j < 64) (h1 : b.2.getLsbD j = false) (h2 : a.2.getLsbD j = true ∨ a.1.getLsbD j = !b.1.getLsbD j) : tW a b = false := by
  rw [← Bool.not_eq_true, tW_iff]
  rintro ⟨_, h⟩
  obtain ⟨e1, e2⟩ := h j hj
  rw [h1] at e1 e2
  revert e1 e2 h2
  generalize a.1.getLsbD j = u1
  generalize a.2.getLsbD j = u2
  generalize b.1.getLsbD j = u3
  cases u1 <;> cases u2 <;> cases u3 <;> simp

set_option maxHeartbeats 1000000 in
theorem rright_says (t : Tn) (w : World) : Calls Try.prog 14 #[tV t] w (Gives (.bool (tR t)) w) := by
  go_enter Try.func14, Try.ntmps14
  go_wp2_with fail
  go_loopw [3] (fun i wr => ∃ j : Nat, j ≤ 64 ∧ i = .int .i64 j ∧ Hid (∀ k, k < j → (t.1.getLsbD k && t.2.getLsbD k) = false) ∧ wr = w.alloc (.cells #[uV t.1, uV t.2] 24)) (fun i _ => 64 - (intOf i).toNat)
  case atStart => exact ⟨0, by omega, rfl, fun k hk => by omega, rfl⟩
  case round =>
    obtain ⟨j, hj, rfl, hk, rfl⟩ := hrel
    by_cases hlt : (j : Int) < 64
    · have hb : (t.1.getLsbD j = false) ∨ (t.1.getLsbD j = true ∧ t.2.getLsbD j = false) ∨ (t.1.getLsbD j = true ∧ t.2.getLsbD j = true) := by
        cases t.1.getLsbD j <;> cases t.2.getLsbD j <;> simp
      rcases hb with h1 | ⟨h1, h2⟩ | ⟨h1, h2⟩
      · have HN : Hid (∀ k, k < j + 1 → (t.1.getLsbD k && t.2.getLsbD k) = false) := fun k hk2 => by
          rcases Nat.lt_or_ge k j with h | h
          · exact hk.out k h
          · rw [show k = j by omega, h1]; rfl
        have C1 := Lib.hid h1
        clear h1 hk
        go_wp2_with (go_at_call 31; refine (bit_says _ j (by omega) _).mono ?_; rintro e w' ⟨rfl, rfl⟩; rw [C1.out])
        go_round
        case rel => exact ⟨j + 1, by omega, by go_num, HN, trivial⟩
        case measure => simp [intOf]; omega
      · have HN : Hid (∀ k, k < j + 1 → (t.1.getLsbD k && t.2.getLsbD k) = false) := fun k hk2 => by
          rcases Nat.lt_or_ge k j with h | h
          · exact hk.out k h
          · rw [show k = j by omega, h1, h2]; rfl
        have C1 := Lib.hid h1
        have C2 := Lib.hid h2
        clear h1 h2 hk
        go_wp2_with (go_at_call 31; refine (bit_says _ j (by omega) _).mono ?_; rintro e w' ⟨rfl, rfl⟩; (first | rw [C1.out] | rw [C2.out]))
        go_round
        case rel => exact ⟨j + 1, by omega, by go_num, HN, trivial⟩
        case measure => simp [intOf]; omega
      · have HF := Lib.hid (right_fail (by omega) h1 h2)
        have C1 := Lib.hid h1
        have C2 := Lib.hid h2
        clear h1 h2 hk
        go_wp2_with (go_at_call 31; refine (bit_says _ j (by omega) _).mono ?_; rintro e w' ⟨rfl, rfl⟩; (first | rw [C1.out] | rw [C2.out]))
        go_ret
        exact ⟨end_bool HF.out.symm, below_alloc (Below.refl _ _) _⟩
    · have HT : Hid (tR t = true) := Lib.hid ((tR_iff t).mpr fun i hi => hk.out i (by omega))
      clear hk
      go_wp2_with fail
      go_ret
      exact ⟨end_bool HT.out.symm, below_alloc (Below.refl _ _) _⟩

set_option maxHeartbeats 2000000 in
theorem rhas_says (t : Tn) (n : BitVec 64) (w : World) : Calls Try.prog 17 #[tV t, uV n] w (Gives (.bool (tH t n)) w) := by
  go_enter Try.func17, Try.ntmps17
  go_wp2_with fail
  go_loopw [5] (fun i wr => ∃ j : Nat, j ≤ 64 ∧ i = .int .i64 j ∧ Hid (∀ k, k < j → t.2.getLsbD k = true ∨ t.1.getLsbD k = n.getLsbD k) ∧ wr = w.alloc (.cells #[uV t.1, uV t.2] 24)) (fun i _ => 64 - (intOf i).toNat)
  case atStart => exact ⟨0, by omega, rfl, fun k hk => by omega, rfl⟩
  case round =>
    obtain ⟨j, hj, rfl, hk, rfl⟩ := hrel
    by_cases hlt : (j : Int) < 64
    · have hb : (t.2.getLsbD j = true) ∨ (t.2.getLsbD j = false ∧ t.1.getLsbD j = n.getLsbD j) ∨ (t.2.getLsbD j = false ∧ t.1.getLsbD j = !n.getLsbD j) := by
        cases t.1.getLsbD j <;> cases t.2.getLsbD j <;> cases n.getLsbD j <;> simp
      rcases hb with h1 | ⟨h1, h2⟩ | ⟨h1, h2⟩
      · have HN : Hid (∀ k, k < j + 1 → t.2.getLsbD k = true ∨ t.1.getLsbD k = n.getLsbD k) := fun k hk2 => by
          rcases Nat.lt_or_ge k j with h | h
          · exact hk.out k h
          · rw [show k = j by omega]; exact .inl h1
        have C1 := Lib.hid h1
        clear h1 hk
        go_wp2_with (go_at_call 31; refine (bit_says _ j (by omega) _).mono ?_; rintro e w' ⟨rfl, rfl⟩; rw [C1.out])
        go_round
        case rel => exact ⟨j + 1, by omega, by go_num, HN, trivial⟩
        case measure => simp [intOf]; omega
      · have HN : Hid (∀ k, k < j + 1 → t.2.getLsbD k = true ∨ t.1.getLsbD k = n.getLsbD k) := fun k hk2 => by
          rcases Nat.lt_or_ge k j with h | h
          · exact hk.out k h
          · rw [show k = j by omega]; exact .inr h2
        have C1 := Lib.hid h1
        cases hn : n.getLsbD j
        all_goals
          rw [hn] at h2
          have C2 := Lib.hid h2
          have C3 := Lib.hid hn
          clear h1 h2 hk hn
          go_wp2_with (go_at_call 31; refine (bit_says _ j (by omega) _).mono ?_; rintro e w' ⟨rfl, rfl⟩; (first | rw [C1.out] | rw [C2.out] | rw [C3.out]))
          go_round
          case rel => exact ⟨j + 1, by omega, by go_num, HN, trivial⟩
          case measure => simp [intOf]; omega
      · have HF := Lib.hid (has_fail (by omega) h1 h2)
        have C1 := Lib.hid h1
        cases hn : n.getLsbD j
        all_goals
          rw [hn] at h2
          have C2 : Hid (t.1.getLsbD j = _) := Lib.hid h2
          have C3 := Lib.hid hn
          clear h1 h2 hk hn
          go_wp2_with (go_at_call 31; refine (bit_says _ j (by omega) _).mono ?_; rintro e w' ⟨rfl, rfl⟩; (first | rw [C1.out] | rw [C2.out] | rw [C3.out]))
          go_ret
          exact ⟨end_bool HF.out.symm, below_alloc (Below.refl _ _) _⟩
    · have HT : Hid (tH t n = tR t) := Lib.hid (has_end fun i hi => hk.out i (by omega))
      have HR := Lib.hid (rright_says t)
      clear hk
      go_wp2_with fail
      refine (HR.out _).mono ?_; rintro e w2 ⟨rfl, b2⟩
      go_wp2_with fail
      go_ret
      exact ⟨end_bool HT.out.symm, below_next' (below_alloc (Below.refl _ _) _) b2⟩

end Go.Proofs.Ytkiekbkjhlbnhaa
