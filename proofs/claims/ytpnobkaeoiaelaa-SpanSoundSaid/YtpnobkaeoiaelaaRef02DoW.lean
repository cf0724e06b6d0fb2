/-
  The document's own Do, of whatever op and numbers: aluV, and the error aluE.
  Conditions: the numbers fit their kinds.
-/
import Derived.Test.YtpnobkaeoiaelaaRef02Do64
namespace Go.Proofs.Ytpnobkaeoiaelaa
open Go.RowKit
set_option linter.unusedVariables false

theorem ne_true {a b : Int} (h : ¬ a = b) : (a != b) = true := bne_iff_ne.mpr h
theorem eq_false {a b : Int} (h : ¬ a = b) : (a == b) = false := beq_eq_false_iff_ne.mpr h

theorem refdo_64 (op off a b : Int) (w : World) (ha : 0 ≤ a) (ha' : a ≤ 18446744073709551615) (hb : 0 ≤ b) (hb' : b ≤ 18446744073709551615) :
    Calls Try.prog 22 #[.int .u8 op, .bool true, .int .i16 off, .int .u64 a, .int .u64 b] w (Did (aluV true op off a b) (aluE true op off) w) := by
  have ca : refCut64 a (a % 18446744073709551616) := fun w => ref_cut_64 a w ha ha'
  have cb : refCut64 b (b % 18446744073709551616) := fun w => ref_cut_64 b w hb hb'
  cases hf : aluFits op true off
  · have e1 : aluV true op off a b = 0 := by unfold aluV; rw [hf]; rfl
    have e2 : aluE true op off = 1 := by unfold aluE; rw [hf]; rfl
    rw [e1, e2]
    rcases op_cases op with h | h | h | h
    · have h01 : (off == 0 || off == 1) = false := by rw [← hf]; unfold aluFits; rw [if_pos h]
      simp at h01
      rcases h with rfl | rfl
      · exact refd_no_div_64 a b (a % 18446744073709551616) (b % 18446744073709551616) off w ca cb (by omega) (by omega) (by omega) (by omega) (ne_true h01.1) (ne_true h01.2)
      · exact refd_no_mod_64 a b (a % 18446744073709551616) (b % 18446744073709551616) off w ca cb (by omega) (by omega) (by omega) (by omega) (ne_true h01.1) (ne_true h01.2)
    · subst h
      have h01 : (off == 0 || off == 8 || off == 16 || (off == 32 && true)) = false := hf
      simp at h01
      exact refd_no_mov_64 a b (a % 18446744073709551616) (b % 18446744073709551616) off w ca cb (by omega) (by omega) (by omega) (by omega) (ne_true h01.1.1.1) (eq_false h01.1.1.2) (eq_false h01.1.2) (eq_false h01.2)
    · have h0 : (off == 0) = false := by rw [← hf]; unfold aluFits; rw [if_neg (by omega), if_neg (by omega), if_pos h]
      have hn : (off != 0) = true := ne_true (by simpa using h0)
      rcases h with rfl | rfl | rfl | rfl | rfl | rfl | rfl | rfl | rfl | rfl
      · exact refd_no_add_64 a b (a % 18446744073709551616) (b % 18446744073709551616) off w ca cb (by omega) (by omega) (by omega) (by omega) hn
      · exact refd_no_sub_64 a b (a % 18446744073709551616) (b % 18446744073709551616) off w ca cb (by omega) (by omega) (by omega) (by omega) hn
      · exact refd_no_mul_64 a b (a % 18446744073709551616) (b % 18446744073709551616) off w ca cb (by omega) (by omega) (by omega) (by omega) hn
      · exact refd_no_or_64 a b (a % 18446744073709551616) (b % 18446744073709551616) off w ca cb (by omega) (by omega) (by omega) (by omega) hn
      · exact refd_no_and_64 a b (a % 18446744073709551616) (b % 18446744073709551616) off w ca cb (by omega) (by omega) (by omega) (by omega) hn
      · exact refd_no_xor_64 a b (a % 18446744073709551616) (b % 18446744073709551616) off w ca cb (by omega) (by omega) (by omega) (by omega) hn
      · exact refd_no_lsh_64 a b (a % 18446744073709551616) (b % 18446744073709551616) off w ca cb (by omega) (by omega) (by omega) (by omega) hn
      · exact refd_no_rsh_64 a b (a % 18446744073709551616) (b % 18446744073709551616) off w ca cb (by omega) (by omega) (by omega) (by omega) hn
      · by_cases hc : a % 18446744073709551616 * 2 < 18446744073709551616
        · exact refd_no_arsh_p_64 a b (a % 18446744073709551616) (b % 18446744073709551616) off w ca cb (by omega) (by omega) (by omega) (by omega) hc hn
        · exact refd_no_arsh_n_64 a b (a % 18446744073709551616) (b % 18446744073709551616) off w ca cb (by omega) (by omega) (by omega) (by omega) hc hn
      · exact refd_no_neg_64 a b (a % 18446744073709551616) (b % 18446744073709551616) off w ca cb (by omega) (by omega) (by omega) (by omega) hn
    · obtain ⟨⟨a1, a2, a3, a4, a5, a6, a7⟩, a8, a9, a10, a11, a12, a13⟩ := h
      exact refd_none_64 op off a b (a % 18446744073709551616) (b % 18446744073709551616) w ca cb (by omega) (by omega) (by omega) (by omega) (eq_false a1) (eq_false a2) (eq_false a3) (eq_false a4) (eq_false a5) (eq_false a6) (eq_false a7) (eq_false a8) (eq_false a9) (eq_false a10) (eq_false a13) (eq_false a11) (eq_false a12)
  · have e1 : aluV true op off a b = aluZ true op off (a % 18446744073709551616) (b % 18446744073709551616) % 18446744073709551616 := by unfold aluV; rw [hf, if_pos rfl]; rfl
    have e2 : aluE true op off = 0 := by unfold aluE; rw [hf]; rfl
    rw [e1, e2]
    rcases fits_ops hf with ⟨rfl, rfl⟩ | ⟨rfl, rfl⟩ | ⟨rfl, rfl⟩ | ⟨rfl, rfl⟩ | ⟨rfl, rfl⟩ | ⟨rfl, rfl⟩ | ⟨rfl, rfl⟩ | ⟨rfl, rfl⟩ | ⟨rfl, rfl⟩ | ⟨rfl, rfl⟩ | ⟨rfl, rfl | rfl | rfl | ⟨rfl, hw⟩⟩ | ⟨rfl, rfl | rfl⟩ | ⟨rfl, rfl | rfl⟩
    · exact refd_add_64 a b (a % 18446744073709551616) (b % 18446744073709551616) w ca cb (by omega) (by omega) (by omega) (by omega)
    · exact refd_sub_64 a b (a % 18446744073709551616) (b % 18446744073709551616) w ca cb (by omega) (by omega) (by omega) (by omega)
    · exact refd_mul_64 a b (a % 18446744073709551616) (b % 18446744073709551616) w ca cb (by omega) (by omega) (by omega) (by omega)
    · exact refd_or_64 a b (a % 18446744073709551616) (b % 18446744073709551616) w ca cb (by omega) (by omega) (by omega) (by omega)
    · exact refd_and_64 a b (a % 18446744073709551616) (b % 18446744073709551616) w ca cb (by omega) (by omega) (by omega) (by omega)
    · exact refd_xor_64 a b (a % 18446744073709551616) (b % 18446744073709551616) w ca cb (by omega) (by omega) (by omega) (by omega)
    · exact refd_lsh_64 a b (a % 18446744073709551616) (b % 18446744073709551616) w ca cb (by omega) (by omega) (by omega) (by omega)
    · exact refd_rsh_64 a b (a % 18446744073709551616) (b % 18446744073709551616) w ca cb (by omega) (by omega) (by omega) (by omega)
    · by_cases hc : a % 18446744073709551616 * 2 < 18446744073709551616
      · exact refd_arsh_p_64 a b (a % 18446744073709551616) (b % 18446744073709551616) w ca cb (by omega) (by omega) (by omega) (by omega) hc
      · exact refd_arsh_n_64 a b (a % 18446744073709551616) (b % 18446744073709551616) w ca cb (by omega) (by omega) (by omega) (by omega) hc
    · exact refd_neg_64 a b (a % 18446744073709551616) (b % 18446744073709551616) w ca cb (by omega) (by omega) (by omega) (by omega)
    · exact refd_mov0_64 a b (a % 18446744073709551616) (b % 18446744073709551616) w ca cb (by omega) (by omega) (by omega) (by omega)
    · exact refd_mov8_64 a b (a % 18446744073709551616) (b % 18446744073709551616) w ca cb (by omega) (by omega) (by omega) (by omega)
    · exact refd_mov16_64 a b (a % 18446744073709551616) (b % 18446744073709551616) w ca cb (by omega) (by omega) (by omega) (by omega)
    · exact refd_mov32_64 a b (a % 18446744073709551616) (b % 18446744073709551616) w ca cb (by omega) (by omega) (by omega) (by omega)
    · exact refd_div0_64 a b (a % 18446744073709551616) (b % 18446744073709551616) w ca cb (by omega) (by omega) (by omega) (by omega)
    · exact refd_div1_64 a b (a % 18446744073709551616) (b % 18446744073709551616) w ca cb (by omega) (by omega) (by omega) (by omega)
    · exact refd_mod0_64 a b (a % 18446744073709551616) (b % 18446744073709551616) w ca cb (by omega) (by omega) (by omega) (by omega)
    · exact refd_mod1_64 a b (a % 18446744073709551616) (b % 18446744073709551616) w ca cb (by omega) (by omega) (by omega) (by omega)

end Go.Proofs.Ytpnobkaeoiaelaa
