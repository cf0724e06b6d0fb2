/-
  The document's own Meet of layer 4.
  Conditions: none.
-/
import Derived.Test.YtkiekbkjhlbnhaaRef04b
import Derived.Test.YtkiekbkjhlbnhaaTnumJoin
namespace Go.Proofs.Ytkiekbkjhlbnhaa
open Go.RowKit
set_option linter.unusedVariables false

theorem mok_fail {a b : Tn} {j : Nat} (hj : j < 64) (h1 : a.2.getLsbD j = false) (h2 : b.2.getLsbD j = false) (h3 : a.1.getLsbD j = !b.1.getLsbD j) : tMok a b = false := by
  cases hr : tRR a b
  · unfold tMok; rw [hr]; rfl
  · obtain ⟨ra, rb⟩ := (tRR_iff a b).mp hr
    rw [← Bool.not_eq_true, mok_iff ra rb]
    intro h
    have e := h j hj
    rw [h1, h2, h3] at e
    revert e
    cases b.1.getLsbD j <;> simp
theorem mok_end {a b : Tn} (hr : tRR a b = true) (h : ∀ k, k < 64 → a.2.getLsbD k = true ∨ b.2.getLsbD k = true ∨ a.1.getLsbD k = b.1.getLsbD k) : tMok a b = true := by
  obtain ⟨ra, rb⟩ := (tRR_iff a b).mp hr
  rw [mok_iff ra rb]
  intro i hi
  have h1 := h i hi
  revert h1
  generalize a.1.getLsbD i = u1
  generalize a.2.getLsbD i = u2
  generalize b.1.getLsbD i = u3
  generalize b.2.getLsbD i = u4
  cases u1 <;> cases u2 <;> cases u3 <;> cases u4 <;> simp

set_option maxHeartbeats 1000000 in
theorem rmeet_no (a b : Tn) (w : World) (hr : tRR a b = false) : Calls Try.prog 11 #[tV a, tV b] w (Gives (tBV (0#64, 0#64) false) w) := by
  have hx := Lib.hid (Trio.new a b w)
  have h1 := Lib.hid (rboth_says a b)
  rw [hr] at h1
  clear hr
  go_enter Try.func11, Try.ntmps11
  go_wp2_with fail
  refine (h1.out _).mono ?_; rintro e w1 ⟨rfl, b1⟩
  have x1 := hx.out.after b1
  obtain ⟨c0, c1⟩ := x1.2.cells
  obtain ⟨f0, f1⟩ := x1.2.free
  have X1 := Lib.hid (x1.set (0#64, 0#64))
  clear x1 hx b1
  go_wp2_with fail
  exact bodyPost_ret (v := tBV (0#64, 0#64) false) (by simp [results, Try.results11, go_sem, c0, c1]) rfl ⟨rfl, X1.out.1.1⟩

set_option maxHeartbeats 2000000 in
theorem rmeet_yes (a b : Tn) (w : World) (hr : tRR a b = true) : Calls Try.prog 11 #[tV a, tV b] w (Gives (tBV (tM a b) (tMok a b)) w) := by
  have hx := Lib.hid (Trio.new a b w)
  have h1 := Lib.hid (rboth_says a b)
  have HR := Lib.hid hr
  rw [hr] at h1
  clear hr
  go_enter Try.func11, Try.ntmps11
  go_wp2_with fail
  refine (h1.out _).mono ?_; rintro e w1 ⟨rfl, b1⟩
  have X1 := Lib.hid (hx.out.after b1)
  clear hx b1 h1
  go_wp2_with fail
  go_loopw [6] (fun i wr => ∃ j : Nat, j ≤ 64 ∧ i = .int .i64 j ∧ Hid (∀ k, k < j → a.2.getLsbD k = true ∨ b.2.getLsbD k = true ∨ a.1.getLsbD k = b.1.getLsbD k) ∧ Hid (Trio a b (0#64, 0#64) w wr)) (fun i _ => 64 - (intOf i).toNat)
  case atStart => exact ⟨0, by omega, rfl, fun k hk => by omega, X1⟩
  case round =>
    obtain ⟨j, hj, rfl, hk, X⟩ := hrel
    obtain ⟨p0, p1, p2, p3⟩ := X.out.1.cells
    by_cases hlt : (j : Int) < 64
    · have hb : (a.2.getLsbD j = true) ∨ (a.2.getLsbD j = false ∧ b.2.getLsbD j = true) ∨ (a.2.getLsbD j = false ∧ b.2.getLsbD j = false ∧ a.1.getLsbD j = b.1.getLsbD j) ∨ (a.2.getLsbD j = false ∧ b.2.getLsbD j = false ∧ a.1.getLsbD j = !b.1.getLsbD j) := by
        cases a.1.getLsbD j <;> cases b.2.getLsbD j <;> cases a.2.getLsbD j <;> cases b.1.getLsbD j <;> simp
      rcases hb with h1 | ⟨h1, h2⟩ | ⟨h1, h2, h3⟩ | ⟨h1, h2, h3⟩
      · have HN : Hid (∀ k, k < j + 1 → a.2.getLsbD k = true ∨ b.2.getLsbD k = true ∨ a.1.getLsbD k = b.1.getLsbD k) := fun k hk2 => by
          rcases Nat.lt_or_ge k j with h | h
          · exact hk.out k h
          · rw [show k = j by omega]; exact .inl h1
        have C1 := Lib.hid h1
        clear h1 hk
        go_wp2_with fail
        go_quiet ((go_at_call 31; exact Calls.quiet_of_same (bit_to (by first | exact C1.out) (by omega) _)))
        go_wp2_with fail
        go_round
        case rel => exact ⟨j + 1, by omega, by go_num, HN, X.out.after (below_drewN (Below.refl _ _) nq)⟩
        case measure => simp [intOf]; omega
      · have HN : Hid (∀ k, k < j + 1 → a.2.getLsbD k = true ∨ b.2.getLsbD k = true ∨ a.1.getLsbD k = b.1.getLsbD k) := fun k hk2 => by
          rcases Nat.lt_or_ge k j with h | h
          · exact hk.out k h
          · rw [show k = j by omega]; exact .inr (.inl h2)
        have C1 := Lib.hid h1
        have C2 := Lib.hid h2
        clear h1 h2 hk
        go_wp2_with fail
        go_quiet ((go_at_call 31; exact Calls.quiet_of_same (bit_to (by first | exact C1.out | exact C2.out) (by omega) _)))
        go_wp2_with fail
        go_round
        case rel => exact ⟨j + 1, by omega, by go_num, HN, X.out.after (below_drewN (Below.refl _ _) nq)⟩
        case measure => simp [intOf]; omega
      · have HN : Hid (∀ k, k < j + 1 → a.2.getLsbD k = true ∨ b.2.getLsbD k = true ∨ a.1.getLsbD k = b.1.getLsbD k) := fun k hk2 => by
          rcases Nat.lt_or_ge k j with h | h
          · exact hk.out k h
          · rw [show k = j by omega]; exact .inr (.inr h3)
        have C1 := Lib.hid h1
        have C2 := Lib.hid h2
        cases hn : b.1.getLsbD j
        all_goals
          rw [hn] at h3
          have C3 := Lib.hid h3
          have C4 := Lib.hid hn
          clear h1 h2 h3 hk hn
          go_wp2_with fail
          go_quiet ((go_at_call 31; exact Calls.quiet_of_same (bit_to (by first | exact C1.out | exact C2.out | exact C3.out | exact C4.out) (by omega) _)))
          go_wp2_with fail
          go_round
          case rel => exact ⟨j + 1, by omega, by go_num, HN, X.out.after (below_drewN (Below.refl _ _) nq)⟩
          case measure => simp [intOf]; omega
      · have HF := Lib.hid (mok_fail (by omega) h1 h2 h3)
        have HF2 : Hid (tM a b = (0#64, 0#64)) := Lib.hid (by unfold tM; rw [if_neg (by rw [HF.out]; decide)])
        have C1 := Lib.hid h1
        have C2 := Lib.hid h2
        obtain ⟨c0, c1⟩ := X.out.2.cells
        obtain ⟨f0, f1⟩ := X.out.2.free
        cases hn : b.1.getLsbD j
        all_goals
          rw [hn] at h3
          have C3 : Hid (a.1.getLsbD j = _) := Lib.hid h3
          have C4 := Lib.hid hn
          clear h1 h2 h3 hk hn
          go_wp2_with fail
          go_quiet ((go_at_call 31; exact Calls.quiet_of_same (bit_to (by first | exact C1.out | exact C2.out | exact C3.out | exact C4.out) (by omega) _)))
          have X5 := Lib.hid ((X.out.after (below_drewN (Below.refl _ _) nq)).set (0#64, 0#64))
          go_wp2_with fail
          rw [HF.out, HF2.out]
          exact bodyPost_ret (v := tBV (0#64, 0#64) false) (by simp [results, Try.results11, go_sem, c0, c1]) rfl ⟨rfl, X5.out.1.1⟩
    · have HT := Lib.hid (mok_end HR.out fun i hi => hk.out i (by omega))
      have HT2 : Hid (tMade (a.1 ||| b.1) (a.2 &&& b.2) = tM a b) := Lib.hid (by unfold tM; rw [if_pos HT.out])
      have HM := Lib.hid rmade_says
      clear hk
      go_wp2_with fail
      simp only [bv_and, bv_or]
      refine (HM.out _ _ _).mono ?_; rintro e w2 ⟨rfl, b2⟩
      rw [HT2.out]
      have x2 := X.out.after b2
      clear p0 p1 p2 p3 b2 HT2 HM HR X1 X
      generalize tM a b = t at *
      obtain ⟨c0, c1⟩ := x2.2.cells
      obtain ⟨f0, f1⟩ := x2.2.free
      have X2 := Lib.hid (x2.set t)
      clear x2
      go_wp2_with fail
      exact bodyPost_ret (v := tBV t true) (by simp [results, Try.results11, go_sem, c0, c1]) rfl ⟨by rw [HT.out], X2.out.1.1⟩

theorem rmeet_says (a b : Tn) (w : World) : Calls Try.prog 11 #[tV a, tV b] w (Gives (tBV (tM a b) (tMok a b)) w) := by
  cases hr : tRR a b
  · have e : tMok a b = false := by unfold tMok; rw [hr]; rfl
    have e2 : tM a b = (0#64, 0#64) := by unfold tM; rw [if_neg (by rw [e]; decide)]
    rw [e, e2]
    exact rmeet_no a b w hr
  · exact rmeet_yes a b w hr

end Go.Proofs.Ytkiekbkjhlbnhaa
