/-
  P5.1: a number is in what both have just if it is in both; what is within goes on; the walk, of whatever spans.
  Conditions: the numbers fit their kinds.
-/
import Derived.Test.YtpnobkaeoiaelaaSpanParts0
import Derived.Test.YtpnobkaeoiaelaaSpanParts1
import Derived.Test.YtpnobkaeoiaelaaSpanParts2
import Derived.Test.YtpnobkaeoiaelaaSpanParts3
import Derived.Test.YtpnobkaeoiaelaaSpanParts4
namespace Go.Proofs.Ytpnobkaeoiaelaa
open Go.RowKit
set_option linter.unusedVariables false

theorem shas_to {s : Sp} {n : Int} {v : Bool} (h : sH s n = v) : Hid (∀ w, Calls Try.prog 15 #[sV s, .int .u64 n] w (Gives (.bool v) w)) := Lib.hid fun w => by rw [← h]; exact shas_says s n w
theorem swithin_to {a b : Sp} {v : Bool} (h : sW a b = v) : Hid (∀ w, Calls Try.prog 17 #[sV a, sV b] w (Gives (.bool v) w)) := Lib.hid fun w => by rw [← h]; exact swithin_says a b w

theorem right_le {s : Sp} (h : sR s = true) : s.1 ≤ s.2 := of_decide_eq_true h
theorem sW_iff {a b : Sp} : sW a b = true ↔ (a.1 ≤ a.2 ∧ b.1 ≤ b.2) ∧ b.1 ≤ a.1 ∧ a.2 ≤ b.2 := by simp [sW, sRR, sR]
theorem sM_has {a b : Sp} {o : Int} (ra : sR a = true) (rb : sR b = true) (h : sMok a b = true) : sH (sM a b) o = (sH a o && sH b o) := by
  have h1 := right_le ra
  have h2 := right_le rb
  have k := sTok_le (show sTok (max a.1 b.1) (min a.2 b.2) = true from h)
  unfold sM
  rw [(sT_ok k).1, Bool.eq_iff_iff, Bool.and_eq_true, sH_iff, sH_iff, sH_iff]
  dsimp only
  omega
theorem sM_none {a b : Sp} {o : Int} (h : sMok a b = false) : (sH a o && sH b o) = false := by
  have k := of_decide_eq_false (show decide (max a.1 b.1 ≤ min a.2 b.2) = false from h)
  cases hq : sH a o && sH b o
  · rfl
  · rw [Bool.and_eq_true, sH_iff, sH_iff] at hq
    omega
theorem sM_within {a b : Sp} (ra : sR a = true) (rb : sR b = true) (h : sMok a b = true) : sW (sM a b) a = true ∧ sW (sM a b) b = true := by
  have h1 := right_le ra
  have h2 := right_le rb
  have k := sTok_le (show sTok (max a.1 b.1) (min a.2 b.2) = true from h)
  unfold sM
  rw [(sT_ok k).1, sW_iff, sW_iff]
  dsimp only
  omega
theorem sJ_within {a b : Sp} (ra : sR a = true) (rb : sR b = true) : sW a (sJ a b) = true ∧ sW b (sJ a b) = true := by
  have h1 := right_le ra
  have h2 := right_le rb
  unfold sJ
  rw [if_pos (by unfold sRR; rw [ra, rb]; rfl), sW_iff, sW_iff]
  dsimp only
  omega
theorem sW_all {a : Sp} (ia : sIn a) (ra : sR a = true) : sW a sAll = true := by
  have h1 := right_le ra
  unfold sIn In64 at ia
  rw [sW_iff]
  have e1 : sAll.1 = 0 := rfl
  have e2 : sAll.2 = 18446744073709551615 := rfl
  omega
theorem sW_on {a b c : Sp} (h1 : sW a b = true) (h2 : sW b c = true) : sW a c = true := by
  rw [sW_iff] at *
  omega

theorem sparts_walk (n0 n1 n2 n3 n4 n5 o : Int) (w : World) (k0 : In64 n0) (k1 : In64 n1) (k2 : In64 n2) (k3 : In64 n3) (k4 : In64 n4) (k5 : In64 n5) (ho : In64 o) :
    Calls Try.prog 6 #[.agg #[.int .u64 n0, .int .u64 n1, .int .u64 n2, .int .u64 n3, .int .u64 n4, .int .u64 n5], .int .u64 o] w (Fine w) := by
  have M1 := Lib.hid fun w => smade_says n0 n1 o w k0 k1 ho
  have M2 := Lib.hid fun w => smade_says n2 n3 o w k2 k3 ho
  have M3 := Lib.hid fun w => smade_says n4 n5 o w k4 k5 ho
  have ra := made_right n0 n1
  have rb := made_right n2 n3
  have ia := made_in k0 k1
  have Hax := shas_to (pick_in k0 k1 ho).2
  generalize sMade n0 n1 = a at *
  generalize sMade n2 n3 = b at *
  generalize sMade n4 n5 = c at *
  have D := Lib.hid (smeet_says a b)
  have J := Lib.hid (sjoin_says a b)
  have Vaj := swithin_to (sJ_within ra rb).1
  have Vbj := swithin_to (sJ_within ra rb).2
  have A := Lib.hid sall_says
  have Val := swithin_to (sW_all ia ra)
  cases hok : sMok a b
  · rw [hok] at D
    have hn := sM_none (o := o) hok
    cases ha : sH a o
    · have Hao := shas_to ha
      cases hab : sW a b
      · exact sparts_m n0 n1 n2 n3 n4 n5 o a b c _ _ _ _ _ w M1 M2 M3 D J Hax Hao Vaj Vbj (swithin_to hab) A Val
      · cases hbc : sW b c
        · exact sparts_n n0 n1 n2 n3 n4 n5 o a b c _ _ _ _ _ w M1 M2 M3 D J Hax Hao Vaj Vbj (swithin_to hab) (swithin_to hbc) A Val
        · exact sparts_o n0 n1 n2 n3 n4 n5 o a b c _ _ _ _ _ w M1 M2 M3 D J Hax Hao Vaj Vbj (swithin_to hab) (swithin_to hbc) (swithin_to (sW_on hab hbc)) A Val
    · have Hao := shas_to ha
      rw [ha, Bool.true_and] at hn
      have Hbo := shas_to hn
      cases hab : sW a b
      · exact sparts_j n0 n1 n2 n3 n4 n5 o a b c _ _ _ _ _ w M1 M2 M3 D J Hax Hao Hbo Vaj Vbj (swithin_to hab) A Val
      · cases hbc : sW b c
        · exact sparts_k n0 n1 n2 n3 n4 n5 o a b c _ _ _ _ _ w M1 M2 M3 D J Hax Hao Hbo Vaj Vbj (swithin_to hab) (swithin_to hbc) A Val
        · exact sparts_l n0 n1 n2 n3 n4 n5 o a b c _ _ _ _ _ w M1 M2 M3 D J Hax Hao Hbo Vaj Vbj (swithin_to hab) (swithin_to hbc) (swithin_to (sW_on hab hbc)) A Val
  · rw [hok] at D
    have hh := sM_has (o := o) ra rb hok
    have Vma := swithin_to (sM_within ra rb hok).1
    have Vmb := swithin_to (sM_within ra rb hok).2
    cases ha : sH a o
    · have Hao := shas_to ha
      rw [ha, Bool.false_and] at hh
      have Hmo := shas_to hh
      cases hab : sW a b
      · exact sparts_g n0 n1 n2 n3 n4 n5 o a b c _ _ _ _ _ w M1 M2 M3 D J Hax Hmo Hao Vaj Vbj Vma Vmb (swithin_to hab) A Val
      · cases hbc : sW b c
        · exact sparts_h n0 n1 n2 n3 n4 n5 o a b c _ _ _ _ _ w M1 M2 M3 D J Hax Hmo Hao Vaj Vbj Vma Vmb (swithin_to hab) (swithin_to hbc) A Val
        · exact sparts_i n0 n1 n2 n3 n4 n5 o a b c _ _ _ _ _ w M1 M2 M3 D J Hax Hmo Hao Vaj Vbj Vma Vmb (swithin_to hab) (swithin_to hbc) (swithin_to (sW_on hab hbc)) A Val
    · have Hao := shas_to ha
      rw [ha, Bool.true_and] at hh
      cases hb : sH b o
      · rw [hb] at hh
        have Hbo := shas_to hb
        have Hmo := shas_to hh
        cases hab : sW a b
        · exact sparts_d n0 n1 n2 n3 n4 n5 o a b c _ _ _ _ _ w M1 M2 M3 D J Hax Hmo Hao Hbo Vaj Vbj Vma Vmb (swithin_to hab) A Val
        · cases hbc : sW b c
          · exact sparts_e n0 n1 n2 n3 n4 n5 o a b c _ _ _ _ _ w M1 M2 M3 D J Hax Hmo Hao Hbo Vaj Vbj Vma Vmb (swithin_to hab) (swithin_to hbc) A Val
          · exact sparts_f n0 n1 n2 n3 n4 n5 o a b c _ _ _ _ _ w M1 M2 M3 D J Hax Hmo Hao Hbo Vaj Vbj Vma Vmb (swithin_to hab) (swithin_to hbc) (swithin_to (sW_on hab hbc)) A Val
      · rw [hb] at hh
        have Hbo := shas_to hb
        have Hmo := shas_to hh
        cases hab : sW a b
        · exact sparts_a n0 n1 n2 n3 n4 n5 o a b c _ _ _ _ _ w M1 M2 M3 D J Hax Hmo Hao Hbo Vaj Vbj Vma Vmb (swithin_to hab) A Val
        · cases hbc : sW b c
          · exact sparts_b n0 n1 n2 n3 n4 n5 o a b c _ _ _ _ _ w M1 M2 M3 D J Hax Hmo Hao Hbo Vaj Vbj Vma Vmb (swithin_to hab) (swithin_to hbc) A Val
          · exact sparts_c n0 n1 n2 n3 n4 n5 o a b c _ _ _ _ _ w M1 M2 M3 D J Hax Hmo Hao Hbo Vaj Vbj Vma Vmb (swithin_to hab) (swithin_to hbc) (swithin_to (sW_on hab hbc)) A Val

end Go.Proofs.Ytpnobkaeoiaelaa
