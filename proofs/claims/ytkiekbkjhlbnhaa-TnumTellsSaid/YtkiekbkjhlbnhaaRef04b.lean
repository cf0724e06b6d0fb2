/-
  The document's own answers of layer 4: both, Within, made.
  Conditions: none.
-/
import Derived.Test.YtkiekbkjhlbnhaaRef04
import Derived.Test.YtkiekbkjhlbnhaaTnumMul
namespace Go.Proofs.Ytkiekbkjhlbnhaa
open Go.RowKit
set_option linter.unusedVariables false

/-- A bit that is known, asked for behind draws. -/
theorem bit_to {n : BitVec 64} {i : Nat} {b : Bool} (h : n.getLsbD i = b) (hi : i < 64) (w : World) : Calls Try.prog 31 #[uV n, .int .i64 i] w fun e w' => e = .returned (.bool b) ∧ w' = w :=
  (bit_says n i hi w).mono fun e w' ⟨h1, h2⟩ => ⟨by rw [← h]; exact h1, h2.symm⟩
theorem below_draws {w u : World} (h : Below w.heap.size w u) (n : Nat) : Below w.heap.size w (u.drewN n) := below_drewN h n

theorem rboth_says (a b : Tn) (w : World) : Calls Try.prog 30 #[tV a, tV b] w (Gives (.bool (tRR a b)) w) := by
  have h1 := Lib.hid (rright_says a)
  have h2 := Lib.hid (rright_says b)
  have hx := Lib.hid (Pair.new a b w)
  unfold tRR
  cases ha : tR a
  · rw [ha] at h1
    clear ha
    generalize tR b = y at *
    go_enter Try.func30, Try.ntmps30
    go_wp2_with fail
    refine (h1.out _).mono ?_; rintro e w1 ⟨rfl, b1⟩
    go_wp2_with fail
    go_ret
    exact ⟨rfl, (hx.out.after b1).1⟩
  · rw [ha] at h1
    clear ha
    generalize tR b = y at *
    go_enter Try.func30, Try.ntmps30
    go_wp2_with fail
    refine (h1.out _).mono ?_; rintro e w1 ⟨rfl, b1⟩
    have x1 := hx.out.after b1
    obtain ⟨p0, p1, p2, p3⟩ := x1.cells
    have X1 := Lib.hid x1.1
    clear x1
    go_wp2_with fail
    refine (h2.out _).mono ?_; rintro e w2 ⟨rfl, b2⟩
    go_wp2_with fail
    go_ret
    exact ⟨rfl, below_next' X1.out b2⟩

set_option maxHeartbeats 2000000 in
theorem rwithin_says (a b : Tn) (w : World) : Calls Try.prog 19 #[tV a, tV b] w (Gives (.bool (tW a b)) w) := by
  have hx := Lib.hid (Pair.new a b w)
  go_enter Try.func19, Try.ntmps19
  go_wp2_with fail
  go_loopw [5] (fun i wr => ∃ j : Nat, j ≤ 64 ∧ i = .int .i64 j ∧ Hid (∀ k, k < j → b.2.getLsbD k = true ∨ (a.2.getLsbD k = false ∧ a.1.getLsbD k = b.1.getLsbD k)) ∧ Hid (Pair a b w wr)) (fun i _ => 64 - (intOf i).toNat)
  case atStart => exact ⟨0, by omega, rfl, fun k hk => by omega, hx⟩
  case round =>
    obtain ⟨j, hj, rfl, hk, X⟩ := hrel
    obtain ⟨p0, p1, p2, p3⟩ := X.out.cells
    by_cases hlt : (j : Int) < 64
    · have hb : (b.2.getLsbD j = true) ∨ (b.2.getLsbD j = false ∧ a.2.getLsbD j = true) ∨ (b.2.getLsbD j = false ∧ a.2.getLsbD j = false ∧ a.1.getLsbD j = b.1.getLsbD j) ∨ (b.2.getLsbD j = false ∧ a.2.getLsbD j = false ∧ a.1.getLsbD j = !b.1.getLsbD j) := by
        cases a.1.getLsbD j <;> cases b.2.getLsbD j <;> cases a.2.getLsbD j <;> cases b.1.getLsbD j <;> simp
      rcases hb with h1 | ⟨h1, h2⟩ | ⟨h1, h2, h3⟩ | ⟨h1, h2, h3⟩
      · have HN : Hid (∀ k, k < j + 1 → b.2.getLsbD k = true ∨ (a.2.getLsbD k = false ∧ a.1.getLsbD k = b.1.getLsbD k)) := fun k hk2 => by
          rcases Nat.lt_or_ge k j with h | h
          · exact hk.out k h
          · rw [show k = j by omega]; exact .inl h1
        have C1 := Lib.hid h1
        clear h1 hk
        go_wp2_with fail
        go_quiet ((go_at_call 31; exact Calls.quiet_of_same (bit_to (by first | exact C1.out) (by omega) _)))
        go_wp2_with fail
        go_round
        case rel => exact ⟨j + 1, by omega, by go_num, HN, X.out.after (below_drewN (Below.refl _ _) nq)⟩
        case measure => simp [intOf]; omega
      · have HF := Lib.hid (within_fail (a := a) (by omega) h1 (.inl h2))
        have C1 := Lib.hid h1
        have C2 := Lib.hid h2
        clear h1 h2 hk
        go_wp2_with fail
        go_quiet ((go_at_call 31; exact Calls.quiet_of_same (bit_to (by first | exact C1.out | exact C2.out) (by omega) _)))
        go_wp2_with fail
        go_ret
        exact ⟨end_bool HF.out.symm, below_draws X.out.1 _⟩
      · have HN : Hid (∀ k, k < j + 1 → b.2.getLsbD k = true ∨ (a.2.getLsbD k = false ∧ a.1.getLsbD k = b.1.getLsbD k)) := fun k hk2 => by
          rcases Nat.lt_or_ge k j with h | h
          · exact hk.out k h
          · rw [show k = j by omega]; exact .inr ⟨h2, h3⟩
        have C1 := Lib.hid h1
        have C2 := Lib.hid h2
        cases hn : b.1.getLsbD j
        all_goals
          rw [hn] at h3
          have C3 := Lib.hid h3
          have C4 := Lib.hid hn
          clear h1 h2 h3 hk hn
          go_wp2_with fail
          go_quiet ((go_at_call 31; exact Calls.quiet_of_same (bit_to (by first | exact C1.out | exact C2.out | exact C3.out | exact C4.out) (by omega) _)))
          go_wp2_with fail
          go_round
          case rel => exact ⟨j + 1, by omega, by go_num, HN, X.out.after (below_drewN (Below.refl _ _) nq)⟩
          case measure => simp [intOf]; omega
      · have HF := Lib.hid (within_fail (a := a) (by omega) h1 (.inr h3))
        have C1 := Lib.hid h1
        have C2 := Lib.hid h2
        cases hn : b.1.getLsbD j
        all_goals
          rw [hn] at h3
          have C3 : Hid (a.1.getLsbD j = _) := Lib.hid h3
          have C4 := Lib.hid hn
          clear h1 h2 h3 hk hn
          go_wp2_with fail
          go_quiet ((go_at_call 31; exact Calls.quiet_of_same (bit_to (by first | exact C1.out | exact C2.out | exact C3.out | exact C4.out) (by omega) _)))
          go_wp2_with fail
          go_ret
          exact ⟨end_bool HF.out.symm, below_draws X.out.1 _⟩
    · have HT : Hid (tW a b = tRR a b) := Lib.hid (within_end fun i hi => hk.out i (by omega))
      have HR := Lib.hid (rboth_says a b)
      clear hk
      go_wp2_with fail
      refine (HR.out _).mono ?_; rintro e w2 ⟨rfl, b2⟩
      go_wp2_with fail
      go_ret
      exact ⟨end_bool HT.out.symm, below_next' X.out.1 b2⟩

/-- A bit more. -/
theorem low_add (y : BitVec 64) (j : Nat) (h : y.getLsbD j = true) : IntKind.u64.wrap (((low y j).toNat : Int) + IntKind.u64.wrap (2 ^ j)) = ((low y (j + 1)).toNat : Int) := by
  have e1 : IntKind.u64.wrap (2 ^ j) = ((BitVec.twoPow 64 j).toNat : Int) := by
    rw [IntKind.wrap_u64, BitVec.toNat_twoPow]; simp
  rw [e1, low_succ, if_pos h, bv_add']
theorem low_same (y : BitVec 64) (j : Nat) (h : y.getLsbD j = false) : low y (j + 1) = low y j := by
  rw [low_succ, if_neg (by rw [h]; decide), BitVec.add_zero]

set_option maxHeartbeats 2000000 in
theorem rmade_says (v m : BitVec 64) (w : World) : Calls Try.prog 32 #[uV v, uV m] w (Gives (tV (tMade v m)) w) := by
  have hx := Lib.hid (show Pair (0#64, 0#64) (low (v &&& ~~~m) 0, m) w ((w.alloc (.cells #[.int .u64 0, .int .u64 0] 24)).alloc (.cells #[.int .u64 0, .int .u64 (m.toNat : Int)] 24)) by
    rw [low_none]; exact Pair.new (0#64, 0#64) (0#64, m) w)
  have hy : Hid (∀ j, j < 64 → (v &&& ~~~m).getLsbD j = (v.getLsbD j && !m.getLsbD j)) := Lib.hid fun j hj => andn_bit v m hj
  have hz : tMade v m = (low (v &&& ~~~m) 64, m) := by rw [low_all]; rfl
  rw [hz]
  clear hz
  generalize v &&& ~~~m = y at *
  go_enter Try.func32, Try.ntmps32
  go_wp2_with fail
  go_loopw [6] (fun i wr => ∃ j : Nat, j ≤ 64 ∧ i = .int .i64 j ∧ Hid (Pair (0#64, 0#64) (low y j, m) w wr)) (fun i _ => 64 - (intOf i).toNat)
  case atStart => exact ⟨0, by omega, rfl, hx⟩
  case round =>
    obtain ⟨j, hj, rfl, X⟩ := hrel
    obtain ⟨p0, p1, p2, p3⟩ := X.out.cells
    obtain ⟨f2, f3⟩ := X.out.2.2.free
    by_cases hlt : (j : Int) < 64
    · have e := hy.out j (by omega)
      have hb : (v.getLsbD j = false) ∨ (v.getLsbD j = true ∧ m.getLsbD j = true) ∨ (v.getLsbD j = true ∧ m.getLsbD j = false) := by
        cases v.getLsbD j <;> cases m.getLsbD j <;> simp
      rcases hb with h1 | ⟨h1, h2⟩ | ⟨h1, h2⟩
      · have HN := Lib.hid (low_same y j (by rw [e, h1]; rfl))
        have C1 := Lib.hid h1
        have XN : Hid (Pair (0#64, 0#64) (low y (j + 1), m) w wr) := by rw [HN.out]; exact X
        clear h1 e hy hx
        generalize low y j = l0 at *
        go_wp2_with (go_at_call 31; refine (bit_says _ j (by omega) _).mono ?_; rintro e w' ⟨rfl, rfl⟩; rw [C1.out])
        go_round
        case rel => exact ⟨j + 1, by omega, by go_num, XN⟩
        case measure => simp [intOf]; omega
      · have HN := Lib.hid (low_same y j (by rw [e, h1, h2]; rfl))
        have C1 := Lib.hid h1
        have C2 := Lib.hid h2
        have XN : Hid (Pair (0#64, 0#64) (low y (j + 1), m) w wr) := by rw [HN.out]; exact X
        clear h1 h2 e hy hx
        generalize low y j = l0 at *
        go_wp2_with (go_at_call 31; refine (bit_says _ j (by omega) _).mono ?_; rintro e w' ⟨rfl, rfl⟩; (first | rw [C1.out] | rw [C2.out]))
        go_round
        case rel => exact ⟨j + 1, by omega, by go_num, XN⟩
        case measure => simp [intOf]; omega
      · have hn := low_add y j (by rw [e, h1, h2]; rfl)
        have C1 := Lib.hid h1
        have C2 := Lib.hid h2
        clear h1 h2 e hy hx
        generalize hl1 : low y (j + 1) = l1 at *
        generalize hl0 : low y j = l0 at *
        clear hl0
        have HL := Lib.hid hl1
        clear hl1
        go_wp2_with (go_at_call 31; refine (bit_says _ j (by omega) _).mono ?_; rintro e w' ⟨rfl, rfl⟩; (first | rw [C1.out] | rw [C2.out]))
        go_still_tail 6, (by kernel_rfl)
        change wpList _ _ _ _ _ wr.drew
        have X2 := Lib.hid (X.out.after (Below.drew (Below.refl _ _)))
        clear X p0 p1 p2 p3 f2 f3
        generalize wr.drew = w2 at *
        obtain ⟨p0, p1, p2, p3⟩ := X2.out.cells
        obtain ⟨f2, f3⟩ := X2.out.2.2.free
        have X3 : Hid (Pair (0#64, 0#64) (l1, m) w (w2.setCell ⟨w.heap.size + 1, 0, none⟩ (uV l1))) := Lib.hid ⟨X2.out.1.setCell (by simp) _, X2.out.2.1.other _ (by omega), X2.out.2.2.set0 l1⟩
        go_wp2_with fail
        go_round
        case rel => exact ⟨j + 1, by omega, by go_num, by rw [HL.out]; exact X3⟩
        case measure => simp [intOf]; omega
    · have hj2 : j = 64 := by omega
      subst hj2
      obtain ⟨q0, q1⟩ := X.out.2.1.free
      clear hx hy
      generalize low y 64 = l at *
      have X2 : Hid (Below w.heap.size w ((wr.setCell ⟨w.heap.size, 0, none⟩ (uV l)).setCell ⟨w.heap.size, 1, none⟩ (uV m))) := Lib.hid ((X.out.1.setCell (Nat.le_refl _) _).setCell (Nat.le_refl _) _)
      go_wp2_with fail
      exact bodyPost_ret (v := tV (l, m)) (by simp [results, Try.results32, go_sem, p0, p1]) rfl ⟨rfl, X2.out⟩

end Go.Proofs.Ytkiekbkjhlbnhaa
