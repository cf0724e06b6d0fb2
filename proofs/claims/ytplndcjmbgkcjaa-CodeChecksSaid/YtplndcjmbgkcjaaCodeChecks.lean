/-
  P7.2: where, and why, instructions are no program, and their bytes, are the document's: the walk of the statement CodeChecks.
  Conditions: none beyond the row's own.
-/
import Derived.Test.YtplndcjmbgkcjaaCodeShown
import Derived.Test.YtplndcjmbgkcjaaRef07n
import Derived.Test.YtplndcjmbgkcjaaByteStr
import Derived.LoopTactic
namespace Go.Proofs.Ytplndcjmbgkcjaa
open Go.RowKit
set_option linter.unusedVariables false
set_option linter.unusedSimpArgs false

set_option maxRecDepth 100000 in
set_option maxHeartbeats 4000000 in
theorem l7_CodeChecks (l : List Ins) (A : Option Addr) (c : Nat) (w : World) (h : InsS w A l) (hx : OkAll l) (hc : l.length ≤ c) (hm : c ≤ maxLen) : Calls Try.prog 4 #[.slice A l.length c] w (Fine w) := by
  have FE := Lib.hid fun w => l7_few l A c w hc hm
  have HI := Lib.hid (few_ins h)
  have HX := Lib.hid (few_ok hx)
  have HL := Lib.hid (few_len l)
  have HC : Hid ((fewL l).length ≤ c ∧ c ≤ maxLen) := Lib.hid ⟨Nat.le_trans (by unfold fewL; rw [List.length_take]; omega) hc, hm⟩
  clear h hx hc hm
  generalize l.length = n at *
  generalize fewL l = x at *
  clear l
  have C1 := Lib.hid fun w h => c7_Check x A c w (by have := HL.out; omega) h HX.out
  have C2 := Lib.hid fun w h => r7_Check x A c w (by have := HL.out; omega) h HX.out
  have C3 := Lib.hid fun w h => c7_Encode x A c w (by have := HL.out; omega) (by have := HL.out; omega) h HX.out
  have C4 := Lib.hid fun w h => r7_Encode x A c w (by have := HL.out; omega) (by have := HL.out; omega) h HX.out
  have S := Lib.hid l7_shown
  generalize encR x = er at *
  obtain ⟨eb, ei, ek⟩ := er
  generalize (chk x).1 = ka at *
  generalize (chk x).2 = kr at *
  go_enter Try.func4, Try.ntmps4
  go_wp2_with fail
  refine (FE.out _).mono ?_
  rintro e w5 ⟨rfl, b5⟩
  have V := Lib.hid b5
  clear b5 FE
  go_wp2_with fail
  refine (C1.out _ (HI.out.after V.out)).mono ?_
  rintro e w6 ⟨rfl, b6⟩
  replace V := Lib.hid (below_next' V.out b6)
  clear b6
  go_wp2_with fail
  refine (C2.out _ (HI.out.after V.out)).mono ?_
  rintro e w7 ⟨rfl, b7⟩
  replace V := Lib.hid (below_next' V.out b7)
  clear b7
  go_wp2_with fail
  refine (C3.out _ (HI.out.after V.out)).mono ?_
  rintro e w8 ⟨A1, c1, rfl, h8, _, _, b8⟩
  replace V := Lib.hid (below_next' V.out b8)
  have H8 := Lib.hid h8
  clear b8 h8
  go_wp2_with fail
  refine (C4.out _ (HI.out.after V.out)).mono ?_
  rintro e w9 ⟨A2, c2, rfl, h9, _, _, b9⟩
  replace V := Lib.hid (below_next' V.out b9)
  replace H8 := Lib.hid (H8.out.after b9)
  have H9 := Lib.hid h9
  clear b9 h9
  simp only at *
  go_wp2_with fail
  refine (S.out _).mono ?_
  rintro e w10 ⟨rfl, b10⟩
  replace V := Lib.hid (below_next' V.out b10)
  have s1 := str_bytS (H8.out.after b10) c1
  have s2 := str_bytS (H9.out.after b10) c2
  clear b10
  try simp only at s1 s2
  generalize strOfNums eb = sb at *
  go_wp2_with fail
  go_ret
  exact ⟨rfl, V.out⟩

end Go.Proofs.Ytplndcjmbgkcjaa
