/-
  span.Do, of whatever op and spans.
  Conditions: the numbers fit their kinds.
-/
import Derived.Test.YtpnobkaeoiaelaaSpanAll
import Derived.Test.YtpnobkaeoiaelaaSpanDiv
namespace Go.Proofs.Ytpnobkaeoiaelaa
open Go.RowKit
set_option linter.unusedVariables false

theorem sdo_says (op : Int) (a b : Sp) (w : World) (ha : sIn a) (hb : sIn b) : Calls Try.prog 23 #[.int .u8 op, sV a, sV b] w (Gives (sV (sDo op a b)) w) := by
  unfold sDo
  cases h : sRR a b
  · exact sdo_bad op a b w h
  · rw [if_pos rfl]
    by_cases h0 : op = 0 ∨ op = 16 ∨ op = 32
    · exact sdo_calls op a b w ha hb h h0
    · unfold sDo'
      rw [if_neg (by omega), if_neg (by omega), if_neg (by omega)]
      by_cases h1 : op = 48
      · subst h1
        by_cases hz : b.1 = 0
        · rw [if_neg (by omega), if_neg (by omega), if_neg (by omega), if_neg (by omega)]
          exact sdo_div0 a b hz w h
        · rw [if_pos ⟨rfl, hz⟩]
          exact sdo_div a b w ha hb h hz
      · rw [if_neg (by omega)]
        by_cases h2 : op = 144
        · subst h2
          by_cases hz : b.1 = 0
          · rw [if_neg (by omega), if_neg (by omega), if_neg (by omega)]
            exact sdo_mod0 a b hz w h
          · rw [if_pos ⟨rfl, hz⟩]
            exact sdo_mod a b w ha hb h hz
        · rw [if_neg (by omega)]
          by_cases h3 : op = 80
          · subst h3
            rw [if_pos rfl]
            exact sdo_and a b w h
          · rw [if_neg h3]
            by_cases h4 : op = 112
            · subst h4
              by_cases hz : b.2 < 64
              · rw [if_pos ⟨rfl, hz⟩]
                exact sdo_rsh a b w ha hb h hz
              · rw [if_neg (by omega)]
                exact sdo_rsh64 a b (by omega) w h
            · rw [if_neg (by omega)]
              exact sdo_none op a b (by omega) (by omega) (by omega) h1 h2 h3 h4 w h

end Go.Proofs.Ytpnobkaeoiaelaa
