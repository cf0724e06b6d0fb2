/-
  The document's own And and Mul of layer 4.
  Conditions: none.
-/
import Derived.Test.YtkiekbkjhlbnhaaRef04c
import Derived.StillTailTactics
import Derived.Deep.RegionWith
namespace Go.Proofs.Ytkiekbkjhlbnhaa
open Go.RowKit
set_option linter.unusedVariables false

/-- The boxes of and, mul: both arguments, the result, what has come together so far. -/
theorem Quad.new (a b : Tn) (w : World) : Quad a b (0#64, 0#64) w (w.heap.size + 1 + 1 + 1) ((((w.alloc (.cells #[uV a.1, uV a.2] 24)).alloc (.cells #[uV b.1, uV b.2] 24)).alloc (.cells #[.int .u64 0, .int .u64 0] 24)).alloc (.cells #[.int .u64 0, .int .u64 0] 24)) :=
  ⟨(Trio.new a b w).alloc _, by omega, Box.new _ (0#64, 0#64) (by simp)⟩

set_option maxHeartbeats 2000000 in
theorem rmul_says (a b : Tn) (w : World) : Calls Try.prog 39 #[tV a, tV b] w (Gives (tV (tMulTo a b 64)) w) := by
  have hx := Lib.hid (Quad.new a b w)
  go_enter Try.func39, Try.ntmps39
  go_wp2_with fail
  go_loopw [6] (fun i wr => ∃ j : Nat, j ≤ 64 ∧ i = .int .i64 j ∧ Hid (Quad a b (tMulTo a b j) w (w.heap.size + 1 + 1 + 1) wr)) (fun i _ => 64 - (intOf i).toNat)
  case atStart => exact ⟨0, by omega, rfl, hx⟩
  case round =>
    obtain ⟨j, hj, rfl, X⟩ := hrel
    by_cases hlt : (j : Int) < 64
    · have ES := Lib.hid (show tMulTo a b (j + 1) = tStep a b j (tMulTo a b j) from rfl)
      unfold tStep at ES
      obtain ⟨p0, p1, p2, p3⟩ := X.out.1.1.cells
      obtain ⟨q0, q1⟩ := X.out.2.2.cells
      obtain ⟨f0, f1⟩ := X.out.2.2.free
      generalize tMulTo a b j = t at *
      have hb : (b.1.getLsbD j = true) ∨ (b.1.getLsbD j = false ∧ b.2.getLsbD j = true) ∨ (b.1.getLsbD j = false ∧ b.2.getLsbD j = false) := by
        cases b.1.getLsbD j <;> cases b.2.getLsbD j <;> simp
      rcases hb with h1 | ⟨h1, h2⟩ | ⟨h1, h2⟩
      · have C1 := Lib.hid h1
        have HA := Lib.hid (radd_says t (a.1 <<< j, a.2 <<< j))
        have ES2 := Lib.hid (show tMulTo a b (j + 1) = tAdd t (a.1 <<< j, a.2 <<< j) by rw [ES.out, if_pos h1])
        clear h1 ES hx
        have m1 := bv_shl' a.1 j
        have m2 := bv_shl' a.2 j
        generalize a.1 <<< j = s1 at *
        generalize a.2 <<< j = s2 at *
        go_wp2_with (go_at_call 31; refine (bit_says _ j (by omega) _).mono ?_; rintro e w' ⟨rfl, rfl⟩; rw [C1.out])
        go_still_tail 10, (by kernel_rfl)
        change wpList _ _ _ _ _ wr.drew
        have X2 := Lib.hid (X.out.after (Below.drew (Below.refl _ _)))
        clear X p0 p1 p2 p3 q0 q1 f0 f1
        generalize wr.drew = w2 at *
        go_wp2_with fail
        refine (HA.out _).mono ?_; rintro e w3 ⟨rfl, b3⟩
        have x3 := X2.out.after b3
        clear X2 b3 HA
        generalize tAdd t (s1, s2) = r at *
        obtain ⟨q0, q1⟩ := x3.2.2.cells
        obtain ⟨f0, f1⟩ := x3.2.2.free
        have X3 := Lib.hid (show Quad a b (tMulTo a b (j + 1)) w (w.heap.size + 1 + 1 + 1) ((w3.setCell ⟨w.heap.size + 1 + 1 + 1, 0, none⟩ (uV r.1)).setCell ⟨w.heap.size + 1 + 1 + 1, 1, none⟩ (uV r.2)) by rw [ES2.out]; exact x3.set r)
        clear x3 ES2
        go_wp2_with fail
        go_round
        case rel => exact ⟨j + 1, by omega, by go_num, X3⟩
        case measure => simp [intOf]; omega
      · have C1 := Lib.hid h1
        have C2 := Lib.hid h2
        have HA : Hid (∀ w, Calls Try.prog 38 #[tV t, .agg #[.int .u64 0, uV ((a.1 ||| a.2) <<< j)]] w (Gives (tV (tAdd t (0#64, (a.1 ||| a.2) <<< j))) w)) := Lib.hid (radd_says t (0#64, (a.1 ||| a.2) <<< j))
        have ES2 := Lib.hid (show tMulTo a b (j + 1) = tAdd t (0#64, (a.1 ||| a.2) <<< j) by rw [ES.out, if_neg (by rw [h1]; decide), if_pos h2])
        clear h1 h2 ES hx
        have m0 := bv_or a.1 a.2
        generalize a.1 ||| a.2 = m at *
        have m1 := bv_shl' m j
        generalize m <<< j = s1 at *
        go_wp2_with (go_at_call 31; refine (bit_says _ j (by omega) _).mono ?_; rintro e w' ⟨rfl, rfl⟩; (first | rw [C1.out] | rw [C2.out]))
        go_still_tail 9, (by kernel_rfl)
        change wpList _ _ _ _ _ wr.drew
        have X2 := Lib.hid (X.out.after (Below.drew (Below.refl _ _)))
        clear X p0 p1 p2 p3 q0 q1 f0 f1
        generalize wr.drew = w2 at *
        go_wp2_with fail
        refine (HA.out _).mono ?_; rintro e w3 ⟨rfl, b3⟩
        have x3 := X2.out.after b3
        clear X2 b3 HA
        generalize tAdd t (0#64, s1) = r at *
        obtain ⟨q0, q1⟩ := x3.2.2.cells
        obtain ⟨f0, f1⟩ := x3.2.2.free
        have X3 := Lib.hid (show Quad a b (tMulTo a b (j + 1)) w (w.heap.size + 1 + 1 + 1) ((w3.setCell ⟨w.heap.size + 1 + 1 + 1, 0, none⟩ (uV r.1)).setCell ⟨w.heap.size + 1 + 1 + 1, 1, none⟩ (uV r.2)) by rw [ES2.out]; exact x3.set r)
        clear x3 ES2
        go_wp2_with fail
        go_round
        case rel => exact ⟨j + 1, by omega, by go_num, X3⟩
        case measure => simp [intOf]; omega
      · have C1 := Lib.hid h1
        have C2 := Lib.hid h2
        have XN := Lib.hid (show Quad a b (tMulTo a b (j + 1)) w (w.heap.size + 1 + 1 + 1) wr by rw [ES.out, if_neg (by rw [h1]; decide), if_neg (by rw [h2]; decide)]; exact X.out)
        clear h1 h2 ES hx
        go_wp2_with (go_at_call 31; refine (bit_says _ j (by omega) _).mono ?_; rintro e w' ⟨rfl, rfl⟩; (first | rw [C1.out] | rw [C2.out]))
        go_round
        case rel => exact ⟨j + 1, by omega, by go_num, XN⟩
        case measure => simp [intOf]; omega
    · have hj2 : j = 64 := by omega
      subst hj2
      clear hx
      generalize tMulTo a b 64 = t at *
      obtain ⟨q0, q1⟩ := X.out.2.2.cells
      obtain ⟨c0, c1⟩ := X.out.1.2.cells
      obtain ⟨f0, f1⟩ := X.out.1.2.free
      have X2 := Lib.hid (X.out.1.set t)
      go_wp2_with fail
      exact bodyPost_ret (v := tV t) (by simp [results, Try.results39, go_sem, c0, c1]) rfl ⟨rfl, X2.out.1.1⟩

theorem Quad.set0 {a b t : Tn} {w u : World} {g : Nat} (h : Quad a b t w g u) (x : BitVec 64) : Quad a b (x, t.2) w g (u.setCell ⟨g, 0, none⟩ (uV x)) := by
  obtain ⟨⟨⟨h1, h2, h3⟩, h4⟩, h5, h6⟩ := h
  exact ⟨⟨⟨h1.setCell (by simp; omega) _, h2.other _ (by omega), h3.other _ (by omega)⟩, h4.other _ (by omega)⟩, h5, h6.set0 x⟩
theorem Quad.set1 {a b t : Tn} {w u : World} {g : Nat} (h : Quad a b t w g u) (x : BitVec 64) : Quad a b (t.1, x) w g (u.setCell ⟨g, 1, none⟩ (uV x)) := by
  obtain ⟨⟨⟨h1, h2, h3⟩, h4⟩, h5, h6⟩ := h
  exact ⟨⟨⟨h1.setCell (by simp; omega) _, h2.other _ (by omega), h3.other _ (by omega)⟩, h4.other _ (by omega)⟩, h5, h6.set1 x⟩
theorem tand_bit (a b : Tn) {i : Nat} (hi : i < 64) : (tAnd a b).1.getLsbD i = (a.1.getLsbD i && b.1.getLsbD i) ∧ (tAnd a b).2.getLsbD i = (((a.1.getLsbD i || a.2.getLsbD i) && (b.1.getLsbD i || b.2.getLsbD i)) && !(a.1.getLsbD i && b.1.getLsbD i)) := by
  unfold tAnd
  simp only [BitVec.getLsbD_and, BitVec.getLsbD_or, BitVec.getLsbD_not, hi, decide_true, Bool.true_and]
  exact ⟨trivial, trivial⟩

/-- What has come together of And, up to a place. -/
def andTo (a b : Tn) (j : Nat) : Tn := (low (tAnd a b).1 j, low (tAnd a b).2 j)

set_option maxHeartbeats 4000000 in
theorem rand_says (a b : Tn) (w : World) : Calls Try.prog 40 #[tV a, tV b] w (Gives (tV (tAnd a b)) w) := by
  have hx := Lib.hid (show Quad a b (andTo a b 0) w (w.heap.size + 1 + 1 + 1) _ by unfold andTo; rw [low_none, low_none]; exact Quad.new a b w)
  go_enter Try.func40, Try.ntmps40
  go_wp2_with fail
  go_loopw [6] (fun i wr => ∃ j : Nat, j ≤ 64 ∧ i = .int .i64 j ∧ Hid (Quad a b (andTo a b j) w (w.heap.size + 1 + 1 + 1) wr)) (fun i _ => 64 - (intOf i).toNat)
  case atStart => exact ⟨0, by omega, rfl, hx⟩
  case round =>
    obtain ⟨j, hj, rfl, X⟩ := hrel
    clear hx
    obtain ⟨p0, p1, p2, p3⟩ := X.out.1.1.cells
    obtain ⟨q0, q1⟩ := X.out.2.2.cells
    obtain ⟨f0, f1⟩ := X.out.2.2.free
    by_cases hlt : (j : Int) < 64
    · obtain ⟨y1, y2⟩ := tand_bit a b (i := j) (by omega)
      have hs : andTo a b (j + 1) = (low (tAnd a b).1 (j + 1), low (tAnd a b).2 (j + 1)) := rfl
      have hb : (a.1.getLsbD j = true ∧ b.1.getLsbD j = true) ∨ (a.1.getLsbD j = true ∧ b.1.getLsbD j = false ∧ b.2.getLsbD j = true) ∨ (a.1.getLsbD j = true ∧ b.1.getLsbD j = false ∧ b.2.getLsbD j = false) ∨
          (a.1.getLsbD j = false ∧ a.2.getLsbD j = true ∧ b.1.getLsbD j = true) ∨ (a.1.getLsbD j = false ∧ a.2.getLsbD j = true ∧ b.1.getLsbD j = false ∧ b.2.getLsbD j = true) ∨
          (a.1.getLsbD j = false ∧ a.2.getLsbD j = true ∧ b.1.getLsbD j = false ∧ b.2.getLsbD j = false) ∨ (a.1.getLsbD j = false ∧ a.2.getLsbD j = false) := by
        cases a.1.getLsbD j <;> cases a.2.getLsbD j <;> cases b.1.getLsbD j <;> cases b.2.getLsbD j <;> simp
      rcases hb with ⟨h1, h2⟩ | ⟨h1, h2, h3⟩ | ⟨h1, h2, h3⟩ | ⟨h1, h2, h3⟩ | ⟨h1, h2, h3, h4⟩ | ⟨h1, h2, h3, h4⟩ | ⟨h1, h2⟩
      · have hh := And.intro h1 h2
        have hv := low_add (tAnd a b).1 j (by rw [y1]; revert hh; cases a.1.getLsbD j <;> cases a.2.getLsbD j <;> cases b.1.getLsbD j <;> cases b.2.getLsbD j <;> simp)
        have hm := low_same (tAnd a b).2 j (by rw [y2]; revert hh; cases a.1.getLsbD j <;> cases a.2.getLsbD j <;> cases b.1.getLsbD j <;> cases b.2.getLsbD j <;> simp)
        rw [hm] at hs
        have e1 : (andTo a b j).1 = low (tAnd a b).1 j := rfl
        have e2 : (andTo a b j).2 = low (tAnd a b).2 j := rfl
        rw [← e1] at hv
        rw [← e2] at hs
        generalize low (tAnd a b).1 (j + 1) = l1 at *
        have HS := Lib.hid hs
        have C1 := Lib.hid h1
        have C2 := Lib.hid h2
        clear hm hs e1 e2 y1 y2 hh h1 h2
        generalize andTo a b j = t at *
        go_wp2_with (go_at_call 31; refine (bit_says _ j (by omega) _).mono ?_; rintro e w' ⟨rfl, rfl⟩; (first | rw [C1.out] | rw [C2.out]))
        go_still_tail 6, (by kernel_rfl)
        change wpList _ _ _ _ _ wr.drew
        have X2 := Lib.hid (X.out.after (Below.drew (Below.refl _ _)))
        clear X p0 p1 p2 p3 q0 q1 f0 f1
        generalize wr.drew = w2 at *
        obtain ⟨q0, q1⟩ := X2.out.2.2.cells
        obtain ⟨f0, f1⟩ := X2.out.2.2.free
        have X3 := Lib.hid (show Quad a b (andTo a b (j + 1)) w (w.heap.size + 1 + 1 + 1) (w2.setCell ⟨w.heap.size + 1 + 1 + 1, 0, none⟩ (uV l1)) by rw [HS.out]; exact X2.out.set0 l1)
        clear X2 HS
        go_wp2_with fail
        go_round
        case rel => exact ⟨j + 1, by omega, by go_num, X3⟩
        case measure => simp [intOf]; omega
      · have hh := And.intro h1 (And.intro h2 h3)
        have hv := low_same (tAnd a b).1 j (by rw [y1]; revert hh; cases a.1.getLsbD j <;> cases a.2.getLsbD j <;> cases b.1.getLsbD j <;> cases b.2.getLsbD j <;> simp)
        have hm := low_add (tAnd a b).2 j (by rw [y2]; revert hh; cases a.1.getLsbD j <;> cases a.2.getLsbD j <;> cases b.1.getLsbD j <;> cases b.2.getLsbD j <;> simp)
        rw [hv] at hs
        have e1 : (andTo a b j).1 = low (tAnd a b).1 j := rfl
        have e2 : (andTo a b j).2 = low (tAnd a b).2 j := rfl
        rw [← e2] at hm
        rw [← e1] at hs
        generalize low (tAnd a b).2 (j + 1) = l1 at *
        have HS := Lib.hid hs
        have C1 := Lib.hid h1
        have C2 := Lib.hid h2
        have C3 := Lib.hid h3
        clear hv hs e1 e2 y1 y2 hh h1 h2 h3
        generalize andTo a b j = t at *
        go_wp2_with (go_at_call 31; refine (bit_says _ j (by omega) _).mono ?_; rintro e w' ⟨rfl, rfl⟩; (first | rw [C1.out] | rw [C2.out] | rw [C3.out]))
        go_still_tail 6, (by kernel_rfl)
        change wpList _ _ _ _ _ wr.drew
        have X2 := Lib.hid (X.out.after (Below.drew (Below.refl _ _)))
        clear X p0 p1 p2 p3 q0 q1 f0 f1
        generalize wr.drew = w2 at *
        obtain ⟨q0, q1⟩ := X2.out.2.2.cells
        obtain ⟨f0, f1⟩ := X2.out.2.2.free
        have X3 := Lib.hid (show Quad a b (andTo a b (j + 1)) w (w.heap.size + 1 + 1 + 1) (w2.setCell ⟨w.heap.size + 1 + 1 + 1, 1, none⟩ (uV l1)) by rw [HS.out]; exact X2.out.set1 l1)
        clear X2 HS
        go_wp2_with fail
        go_round
        case rel => exact ⟨j + 1, by omega, by go_num, X3⟩
        case measure => simp [intOf]; omega
      · have hh := And.intro h1 (And.intro h2 h3)
        have hv := low_same (tAnd a b).1 j (by rw [y1]; revert hh; cases a.1.getLsbD j <;> cases a.2.getLsbD j <;> cases b.1.getLsbD j <;> cases b.2.getLsbD j <;> simp)
        have hm := low_same (tAnd a b).2 j (by rw [y2]; revert hh; cases a.1.getLsbD j <;> cases a.2.getLsbD j <;> cases b.1.getLsbD j <;> cases b.2.getLsbD j <;> simp)
        rw [hv, hm] at hs
        have XN := Lib.hid (show Quad a b (andTo a b (j + 1)) w (w.heap.size + 1 + 1 + 1) wr by rw [hs]; exact X.out)
        have C1 := Lib.hid h1
        have C2 := Lib.hid h2
        have C3 := Lib.hid h3
        clear hv hm hs y1 y2 hh h1 h2 h3
        generalize andTo a b j = t at *
        go_wp2_with (go_at_call 31; refine (bit_says _ j (by omega) _).mono ?_; rintro e w' ⟨rfl, rfl⟩; (first | rw [C1.out] | rw [C2.out] | rw [C3.out]))
        go_round
        case rel => exact ⟨j + 1, by omega, by go_num, XN⟩
        case measure => simp [intOf]; omega
      · have hh := And.intro h1 (And.intro h2 h3)
        have hv := low_same (tAnd a b).1 j (by rw [y1]; revert hh; cases a.1.getLsbD j <;> cases a.2.getLsbD j <;> cases b.1.getLsbD j <;> cases b.2.getLsbD j <;> simp)
        have hm := low_add (tAnd a b).2 j (by rw [y2]; revert hh; cases a.1.getLsbD j <;> cases a.2.getLsbD j <;> cases b.1.getLsbD j <;> cases b.2.getLsbD j <;> simp)
        rw [hv] at hs
        have e1 : (andTo a b j).1 = low (tAnd a b).1 j := rfl
        have e2 : (andTo a b j).2 = low (tAnd a b).2 j := rfl
        rw [← e2] at hm
        rw [← e1] at hs
        generalize low (tAnd a b).2 (j + 1) = l1 at *
        have HS := Lib.hid hs
        have C1 := Lib.hid h1
        have C2 := Lib.hid h2
        have C3 := Lib.hid h3
        clear hv hs e1 e2 y1 y2 hh h1 h2 h3
        generalize andTo a b j = t at *
        go_wp2_with (go_at_call 31; refine (bit_says _ j (by omega) _).mono ?_; rintro e w' ⟨rfl, rfl⟩; (first | rw [C1.out] | rw [C2.out] | rw [C3.out]))
        go_still_tail 6, (by kernel_rfl)
        change wpList _ _ _ _ _ wr.drew
        have X2 := Lib.hid (X.out.after (Below.drew (Below.refl _ _)))
        clear X p0 p1 p2 p3 q0 q1 f0 f1
        generalize wr.drew = w2 at *
        obtain ⟨q0, q1⟩ := X2.out.2.2.cells
        obtain ⟨f0, f1⟩ := X2.out.2.2.free
        have X3 := Lib.hid (show Quad a b (andTo a b (j + 1)) w (w.heap.size + 1 + 1 + 1) (w2.setCell ⟨w.heap.size + 1 + 1 + 1, 1, none⟩ (uV l1)) by rw [HS.out]; exact X2.out.set1 l1)
        clear X2 HS
        go_wp2_with fail
        go_round
        case rel => exact ⟨j + 1, by omega, by go_num, X3⟩
        case measure => simp [intOf]; omega
      · have hh := And.intro h1 (And.intro h2 (And.intro h3 h4))
        have hv := low_same (tAnd a b).1 j (by rw [y1]; revert hh; cases a.1.getLsbD j <;> cases a.2.getLsbD j <;> cases b.1.getLsbD j <;> cases b.2.getLsbD j <;> simp)
        have hm := low_add (tAnd a b).2 j (by rw [y2]; revert hh; cases a.1.getLsbD j <;> cases a.2.getLsbD j <;> cases b.1.getLsbD j <;> cases b.2.getLsbD j <;> simp)
        rw [hv] at hs
        have e1 : (andTo a b j).1 = low (tAnd a b).1 j := rfl
        have e2 : (andTo a b j).2 = low (tAnd a b).2 j := rfl
        rw [← e2] at hm
        rw [← e1] at hs
        generalize low (tAnd a b).2 (j + 1) = l1 at *
        have HS := Lib.hid hs
        have C1 := Lib.hid h1
        have C2 := Lib.hid h2
        have C3 := Lib.hid h3
        have C4 := Lib.hid h4
        clear hv hs e1 e2 y1 y2 hh h1 h2 h3 h4
        generalize andTo a b j = t at *
        go_wp2_with (go_at_call 31; refine (bit_says _ j (by omega) _).mono ?_; rintro e w' ⟨rfl, rfl⟩; (first | rw [C1.out] | rw [C2.out] | rw [C3.out] | rw [C4.out]))
        go_still_tail 6, (by kernel_rfl)
        change wpList _ _ _ _ _ wr.drew
        have X2 := Lib.hid (X.out.after (Below.drew (Below.refl _ _)))
        clear X p0 p1 p2 p3 q0 q1 f0 f1
        generalize wr.drew = w2 at *
        obtain ⟨q0, q1⟩ := X2.out.2.2.cells
        obtain ⟨f0, f1⟩ := X2.out.2.2.free
        have X3 := Lib.hid (show Quad a b (andTo a b (j + 1)) w (w.heap.size + 1 + 1 + 1) (w2.setCell ⟨w.heap.size + 1 + 1 + 1, 1, none⟩ (uV l1)) by rw [HS.out]; exact X2.out.set1 l1)
        clear X2 HS
        go_wp2_with fail
        go_round
        case rel => exact ⟨j + 1, by omega, by go_num, X3⟩
        case measure => simp [intOf]; omega
      · have hh := And.intro h1 (And.intro h2 (And.intro h3 h4))
        have hv := low_same (tAnd a b).1 j (by rw [y1]; revert hh; cases a.1.getLsbD j <;> cases a.2.getLsbD j <;> cases b.1.getLsbD j <;> cases b.2.getLsbD j <;> simp)
        have hm := low_same (tAnd a b).2 j (by rw [y2]; revert hh; cases a.1.getLsbD j <;> cases a.2.getLsbD j <;> cases b.1.getLsbD j <;> cases b.2.getLsbD j <;> simp)
        rw [hv, hm] at hs
        have XN := Lib.hid (show Quad a b (andTo a b (j + 1)) w (w.heap.size + 1 + 1 + 1) wr by rw [hs]; exact X.out)
        have C1 := Lib.hid h1
        have C2 := Lib.hid h2
        have C3 := Lib.hid h3
        have C4 := Lib.hid h4
        clear hv hm hs y1 y2 hh h1 h2 h3 h4
        generalize andTo a b j = t at *
        go_wp2_with (go_at_call 31; refine (bit_says _ j (by omega) _).mono ?_; rintro e w' ⟨rfl, rfl⟩; (first | rw [C1.out] | rw [C2.out] | rw [C3.out] | rw [C4.out]))
        go_round
        case rel => exact ⟨j + 1, by omega, by go_num, XN⟩
        case measure => simp [intOf]; omega
      · have hh := And.intro h1 h2
        have hv := low_same (tAnd a b).1 j (by rw [y1]; revert hh; cases a.1.getLsbD j <;> cases a.2.getLsbD j <;> cases b.1.getLsbD j <;> cases b.2.getLsbD j <;> simp)
        have hm := low_same (tAnd a b).2 j (by rw [y2]; revert hh; cases a.1.getLsbD j <;> cases a.2.getLsbD j <;> cases b.1.getLsbD j <;> cases b.2.getLsbD j <;> simp)
        rw [hv, hm] at hs
        have XN := Lib.hid (show Quad a b (andTo a b (j + 1)) w (w.heap.size + 1 + 1 + 1) wr by rw [hs]; exact X.out)
        have C1 := Lib.hid h1
        have C2 := Lib.hid h2
        clear hv hm hs y1 y2 hh h1 h2
        generalize andTo a b j = t at *
        go_wp2_with (go_at_call 31; refine (bit_says _ j (by omega) _).mono ?_; rintro e w' ⟨rfl, rfl⟩; (first | rw [C1.out] | rw [C2.out]))
        go_round
        case rel => exact ⟨j + 1, by omega, by go_num, XN⟩
        case measure => simp [intOf]; omega
    · have hj2 : j = 64 := by omega
      subst hj2
      have hs : andTo a b 64 = tAnd a b := by unfold andTo; rw [low_all, low_all]
      have X' : Hid (Quad a b (tAnd a b) w (w.heap.size + 1 + 1 + 1) wr) := by rw [← hs]; exact X
      clear hs X q0 q1 f0 f1
      generalize tAnd a b = t at *
      have X := X'
      obtain ⟨q0, q1⟩ := X.out.2.2.cells
      obtain ⟨c0, c1⟩ := X.out.1.2.cells
      obtain ⟨f0, f1⟩ := X.out.1.2.free
      have X2 := Lib.hid (X.out.1.set t)
      go_wp2_with fail
      exact bodyPost_ret (v := tV t) (by simp [results, Try.results40, go_sem, c0, c1]) rfl ⟨rfl, X2.out.1.1⟩

end Go.Proofs.Ytkiekbkjhlbnhaa
