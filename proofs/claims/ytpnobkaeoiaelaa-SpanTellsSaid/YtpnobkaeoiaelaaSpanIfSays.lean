/-
  span.If, of whatever op and spans.
  Conditions: the numbers fit their kinds.
-/
import Derived.Test.YtpnobkaeoiaelaaSpanIfs
namespace Go.Proofs.Ytpnobkaeoiaelaa
open Go.RowKit
set_option linter.unusedVariables false

theorem sif_says (op : Int) (a b : Sp) (w : World) (ha : sIn a) (hb : sIn b) : Calls Try.prog 25 #[.int .u8 op, sV a, sV b] w (Gives (sBV (sIf op a b) (sIfok op a b)) w) := by
  unfold sIf sIfok
  cases h : sRR a b
  · exact sif_bad op a b w h
  · rw [if_pos rfl, Bool.true_and]
    obtain ⟨ra, rb⟩ := sRR_true h
    have ha' := ha
    have hb' := hb
    unfold sIn In64 at ha' hb'
    obtain ⟨a1, a2⟩ := ha'
    obtain ⟨b1, b2⟩ := hb'
    by_cases o1 : op = 16
    · subst o1
      exact sif_jeq a b _ _ w h (smeet_says a b)
    · by_cases o2 : op = 80
      · subst o2
        exact sif_jne a b _ _ w h (fun w => sunlike_says a b w ha ra)
      · by_cases o3 : op = 64
        · subst o3
          have e1 : sIf' 64 a b = if a.2 = 0 ∨ b.2 = 0 then (0, 0) else a := rfl
          have e2 : sIfok' 64 a b = !decide (a.2 = 0 ∨ b.2 = 0) := rfl
          rw [e1, e2]
          by_cases z1 : a.2 = 0
          · rw [if_pos (Or.inl z1), decide_eq_true (Or.inl z1)]
            exact sif_jset_a a b z1 w h
          · by_cases z2 : b.2 = 0
            · rw [if_pos (Or.inr z2), decide_eq_true (Or.inr z2)]
              exact sif_jset_b a b z1 z2 w h
            · have hn : ¬ (a.2 = 0 ∨ b.2 = 0) := fun x => x.elim z1 z2
              rw [if_neg hn, decide_eq_false hn]
              exact sif_jset a b z1 z2 w h
        · by_cases o4 : op = 32
          · subst o4
            have e1 : sIf' 32 a b = if b.1 < a.2 then sT (max a.1 (b.1 + 1)) a.2 else (0, 0) := rfl
            have e2 : sIfok' 32 a b = (decide (b.1 < a.2) && sTok (max a.1 (b.1 + 1)) a.2) := rfl
            rw [e1, e2]
            have hq : condV 32 true b.1 b.1 = false := by rw [cw_32 b1 b1]; exact decide_eq_false (by omega)
            by_cases z : b.1 < a.2
            · rw [if_pos z, decide_eq_true z, Bool.true_and]
              have hp : condV 32 true a.2 b.1 = true := by rw [cw_32 a2 b1]; exact decide_eq_true z
              exact sif_jgt a b _ _ w h (fun w => sabove_yes 32 a b.1 (b.1 + 1) false w (holds_to a2 b1 hp) (holds_to b1 b1 hq) b1.1 (Or.inr ⟨rfl, rfl, by omega⟩))
            · rw [if_neg z, decide_eq_false z, Bool.false_and]
              have hp : condV 32 true a.2 b.1 = false := by rw [cw_32 a2 b1]; exact decide_eq_false z
              exact sif_jgt a b _ _ w h (fun w => sabove_no 32 a b.1 w (holds_to a2 b1 hp))
          · by_cases o5 : op = 48
            · subst o5
              have e1 : sIf' 48 a b = if b.1 ≤ a.2 then sT (max a.1 b.1) a.2 else (0, 0) := rfl
              have e2 : sIfok' 48 a b = (decide (b.1 ≤ a.2) && sTok (max a.1 b.1) a.2) := rfl
              rw [e1, e2]
              have hq : condV 48 true b.1 b.1 = true := by rw [cw_48 b1 b1]; exact decide_eq_true (by omega)
              by_cases z : b.1 ≤ a.2
              · rw [if_pos z, decide_eq_true z, Bool.true_and]
                have hp : condV 48 true a.2 b.1 = true := by rw [cw_48 a2 b1]; exact decide_eq_true z
                exact sif_jge a b _ _ w h (fun w => sabove_yes 48 a b.1 b.1 true w (holds_to a2 b1 hp) (holds_to b1 b1 hq) b1.1 (Or.inl ⟨rfl, rfl⟩))
              · rw [if_neg z, decide_eq_false z, Bool.false_and]
                have hp : condV 48 true a.2 b.1 = false := by rw [cw_48 a2 b1]; exact decide_eq_false z
                exact sif_jge a b _ _ w h (fun w => sabove_no 48 a b.1 w (holds_to a2 b1 hp))
            · by_cases o6 : op = 160
              · subst o6
                have e1 : sIf' 160 a b = if a.1 < b.2 then sT a.1 (min a.2 (b.2 - 1)) else (0, 0) := rfl
                have e2 : sIfok' 160 a b = (decide (a.1 < b.2) && sTok a.1 (min a.2 (b.2 - 1))) := rfl
                rw [e1, e2]
                have hq : condV 160 true b.2 b.2 = false := by rw [cw_160 b2 b2]; exact decide_eq_false (by omega)
                by_cases z : a.1 < b.2
                · rw [if_pos z, decide_eq_true z, Bool.true_and]
                  have hp : condV 160 true a.1 b.2 = true := by rw [cw_160 a1 b2]; exact decide_eq_true z
                  exact sif_jlt a b _ _ w h (fun w => sbelow_yes 160 a b.2 (b.2 - 1) false w (holds_to a1 b2 hp) (holds_to b2 b2 hq) b2.2 (Or.inr ⟨rfl, rfl, by omega⟩))
                · rw [if_neg z, decide_eq_false z, Bool.false_and]
                  have hp : condV 160 true a.1 b.2 = false := by rw [cw_160 a1 b2]; exact decide_eq_false z
                  exact sif_jlt a b _ _ w h (fun w => sbelow_no 160 a b.2 w (holds_to a1 b2 hp))
              · by_cases o7 : op = 176
                · subst o7
                  have e1 : sIf' 176 a b = if a.1 ≤ b.2 then sT a.1 (min a.2 b.2) else (0, 0) := rfl
                  have e2 : sIfok' 176 a b = (decide (a.1 ≤ b.2) && sTok a.1 (min a.2 b.2)) := rfl
                  rw [e1, e2]
                  have hq : condV 176 true b.2 b.2 = true := by rw [cw_176 b2 b2]; exact decide_eq_true (by omega)
                  by_cases z : a.1 ≤ b.2
                  · rw [if_pos z, decide_eq_true z, Bool.true_and]
                    have hp : condV 176 true a.1 b.2 = true := by rw [cw_176 a1 b2]; exact decide_eq_true z
                    exact sif_jle a b _ _ w h (fun w => sbelow_yes 176 a b.2 b.2 true w (holds_to a1 b2 hp) (holds_to b2 b2 hq) b2.2 (Or.inl ⟨rfl, rfl⟩))
                  · rw [if_neg z, decide_eq_false z, Bool.false_and]
                    have hp : condV 176 true a.1 b.2 = false := by rw [cw_176 a1 b2]; exact decide_eq_false z
                    exact sif_jle a b _ _ w h (fun w => sbelow_no 176 a b.2 w (holds_to a1 b2 hp))
                · have e1 : sIf' op a b = a := by unfold sIf'; rw [if_neg o1, if_neg o2, if_neg o3, if_neg o4, if_neg o5, if_neg o6, if_neg o7]
                  have e2 : sIfok' op a b = true := by unfold sIfok'; rw [if_neg o1, if_neg o2, if_neg o3, if_neg o4, if_neg o5, if_neg o6, if_neg o7]
                  rw [e1, e2]
                  exact sif_other op a b o1 o2 o3 o4 o5 o6 o7 w h

end Go.Proofs.Ytpnobkaeoiaelaa
