/-
  Layer 9, the program's Right.
  Conditions: the numbers fit their kinds.
-/
import Derived.Test.YtempkpfcjonaaaaTab10
import Derived.Test.YtempkpfcjonaaaaRef09g
namespace Go.Proofs.Ytempkpfcjonaaaa
open Go.RowKit
set_option maxRecDepth 100000
set_option linter.unusedVariables false
set_option linter.unusedSimpArgs false

theorem dec_not (r : Int) : decide (0 ≤ r) = !decide (r < 0) := by
  by_cases h : r < 0
  · rw [decide_eq_true h, decide_eq_false (by omega)]; rfl
  · rw [decide_eq_false h, decide_eq_true (by omega)]; rfl
set_option maxHeartbeats 4000000 in
theorem q9_Index (w : World) (A : Option Addr) (c : Nat) (l : List Df) (hl : DefS w A l) (hlc : l.length ≤ c) (hcm : c ≤ maxLen) (h8 : l.length ≤ 8) :
    Calls Try.prog 51 #[.slice A l.length c, .func (.func 33) #[] #[]] w (fun e w' => ∃ r : Int, e = .returned (.int .i64 r) ∧ Hid (l.all Df.good = decide (r < 0)) ∧ (r < 0 ∨ 0 ≤ r) ∧ Hid (Below w.heap.size w w')) := by
  have HALL := Lib.hid (fun h => all_from (l := l) h)
  have HNOT := Lib.hid (fun j h1 h2 => all_not (l := l) (j := j) h1 h2)
  have HL := Lib.hid hl
  have HIW := Lib.hid fun (d : Df) (u : World) => q9_isWrong d u
  clear hl
  unfold maxLen at hcm
  generalize hn : l.length = n at *
  have HN := Lib.hid hn
  clear hn
  go_enter Try.func51, Try.ntmps51
  go_wp2_with fail
  go_loopw [8] (fun iv wr => ∃ j : Nat, iv = .int .i64 j ∧ j ≤ n ∧ Hid (∀ t, t < j → (dAt l t).good = true) ∧ Hid (Below w.heap.size w wr)) (fun iv wr => n - (intOf iv).toNat)
  case atStart => exact ⟨0, rfl, by omega, Lib.hid fun t ht => by omega, Lib.hid (Below.refl _ _)⟩
  case round =>
    obtain ⟨j, rfl, hj, HT, V⟩ := hrel
    have j0 : (0 : Int) ≤ j := by omega
    by_cases hlt : (j : Int) < n
    · have hjn : j < n := by omega
      obtain ⟨g, o, rfl, hg, hc⟩ := HL.out.after V.out (by rw [HN.out]; exact Nat.lt_of_le_of_lt (Nat.zero_le _) hjn)
      obtain ⟨c0, c1, c2, c3⟩ := hc j (by rw [HN.out]; exact hjn)
      have IW : Hid (∀ u, Calls Try.prog 33 #[.agg #[.bool (dAt l j).hash, .int .i64 (dAt l j).key, .int .i64 (dAt l j).val, .int .i64 (dAt l j).max]] u (Gives (.bool (!(dAt l j).good)) u)) := Lib.hid fun u => HIW.out (dAt l j) u
      have BAD : Hid ((dAt l j).good = false → l.all Df.good = decide ((j : Int) < 0)) := Lib.hid fun h => by rw [HNOT.out j hjn h, decide_eq_false (by omega)]
      have NEXT : Hid ((dAt l j).good = true → ∀ t, t < j + 1 → (dAt l t).good = true) := Lib.hid fun h t ht => by
        by_cases e : t = j
        · rw [e]; exact h
        · exact HT.out t (by omega)
      clear hc HIW
      generalize (dAt l j).hash = hh at *
      generalize (dAt l j).key = key at *
      generalize (dAt l j).val = val at *
      generalize (dAt l j).max = mx at *
      go_wp2_with fail
      cases hgd : (dAt l j).good
      · rw [hgd] at IW
        replace BAD := Lib.hid (BAD.out hgd)
        refine (IW.out _).mono ?_
        rintro e w1 ⟨rfl, b1⟩
        replace V := Lib.hid (below_next' V.out b1)
        clear b1
        simp only [Bool.not_false]
        go_wp2_with fail
        go_ret
        exact ⟨j, rfl, BAD, .inr (by omega), V⟩
      · rw [hgd] at IW
        replace NEXT := Lib.hid (NEXT.out hgd)
        refine (IW.out _).mono ?_
        rintro e w1 ⟨rfl, b1⟩
        replace V := Lib.hid (below_next' V.out b1)
        clear b1
        simp only [Bool.not_true]
        go_wp2_with fail
        go_round
        case rel => exact ⟨j + 1, by go_num, by omega, NEXT, V⟩
        case measure => simp [intOf]; omega
    · have hjn : j = n := by omega
      subst hjn
      have HA : Hid (l.all Df.good = decide ((-1 : Int) < 0)) := Lib.hid (by
        rw [HALL.out HT.out]
        rfl)
      go_wp2_with fail
      go_ret
      exact ⟨-1, rfl, HA, .inl (by omega), V⟩

set_option maxHeartbeats 2000000 in
theorem q9_Contains (w : World) (A : Option Addr) (c : Nat) (l : List Df) (hl : DefS w A l) (hlc : l.length ≤ c) (hcm : c ≤ maxLen) (h8 : l.length ≤ 8) :
    Calls Try.prog 32 #[.slice A l.length c, .func (.func 33) #[] #[]] w (Gives (.bool (!(l.all Df.good))) w) := by
  have IX := Lib.hid (q9_Index w A c l hl hlc hcm h8)
  clear hl
  generalize l.length = n at *
  generalize l.all Df.good = ag at *
  go_enter Try.func32, Try.ntmps32
  go_wp2_with fail
  refine (IX.out).mono ?_
  rintro e w1 ⟨r, rfl, HA, hr, V⟩
  rcases hr with hr | hr
  · go_wp2_with fail
    go_ret
    exact ⟨end_bool (by rw [HA.out]; first | rfl | exact dec_not r | (rw [decide_eq_false (show ¬ r < 0 by omega)]; rfl) | (rw [decide_eq_true (show r < 0 by omega)]; rfl)), V.out⟩
  · go_wp2_with fail
    go_ret
    exact ⟨end_bool (by rw [HA.out]; first | rfl | exact dec_not r | (rw [decide_eq_false (show ¬ r < 0 by omega)]; rfl) | (rw [decide_eq_true (show r < 0 by omega)]; rfl)), V.out⟩

set_option maxHeartbeats 2000000 in
theorem q9_Right (w : World) (A : Option Addr) (c : Nat) (l : List Df) (hl : DefS w A l) (hlc : l.length ≤ c) (hcm : c ≤ maxLen) : Calls Try.prog 12 #[.slice A l.length c] w (Gives (.bool (tRight l)) w) := by
  have HR : Hid (tRight l = (l.all Df.good && decide (l.length ≤ 8))) := Lib.hid rfl
  by_cases h8 : l.length ≤ 8
  · have IX := Lib.hid (q9_Contains w A c l hl hlc hcm h8)
    have h8' : (l.length : Int) ≤ 8 := by omega
    clear hl
    rw [decide_eq_true h8, Bool.and_true] at HR
    rw [HR.out]
    generalize l.length = n at *
    generalize l.all Df.good = ag at *
    unfold maxLen at hcm
    go_enter Try.func12, Try.ntmps12
    go_wp2_with fail
    refine (IX.out).mono ?_
    rintro e w1 ⟨rfl, b1⟩
    have V := Lib.hid b1
    clear b1
    go_wp2_with fail
    go_ret
    exact ⟨end_bool (by cases ag <;> rfl), V.out⟩
  · have h8' : 8 < (l.length : Int) := by omega
    rw [decide_eq_false h8, Bool.and_false] at HR
    rw [HR.out]
    clear hl
    generalize l.length = n at *
    unfold maxLen at hcm
    go_enter Try.func12, Try.ntmps12
    go_wp2_with fail
    go_ret
    exact ⟨rfl, Below.refl _ _⟩

end Go.Proofs.Ytempkpfcjonaaaa
