/-
  P7.2: the program that bytes are is the document's: the walk of the statement CodeDecodes.
  Conditions: none beyond the row's own.
-/
import Derived.Test.YtplndcjmbgkcjaaCodeShown
import Derived.Test.YtplndcjmbgkcjaaRef07m
import Derived.Test.YtplndcjmbgkcjaaCodeBytes
import Derived.LoopTactic
namespace Go.Proofs.Ytplndcjmbgkcjaa
open Go.RowKit
set_option linter.unusedVariables false
set_option linter.unusedSimpArgs false

set_option maxRecDepth 100000 in
set_option maxHeartbeats 4000000 in
theorem l7_CodeDecodes (b : List Int) (A : Option Addr) (c : Nat) (w : World) (h : BytS w A b) (hb : OkB b) (hc : b.length ≤ c) (hm : c ≤ maxLen) : Calls Try.prog 5 #[.slice A b.length c] w (Fine w) := by
  have h' := h
  have hb' := hb
  obtain ⟨q, q0, q1, q2, q3, q4⟩ := few_bytes h' hb' hc
  have HB := Lib.hid q1
  have HO := Lib.hid q2
  have HL := Lib.hid q3
  have HC : Hid (q.length ≤ c ∧ c ≤ maxLen) := Lib.hid ⟨q4, hm⟩
  clear h hb h' hb' q1 q2 q3
  have C1 := Lib.hid fun w h => c7_Decode q A c w (by have := HL.out; omega) h HO.out HC.out.1 HC.out.2
  have C2 := Lib.hid fun w h => r7_Decode q A c w (by have := HL.out; omega) h HO.out HC.out.1 HC.out.2
  have S := Lib.hid l7_shown
  have SA := Lib.hid (decR_len q HL.out)
  generalize decR q = dr at *
  obtain ⟨dl, di, dk⟩ := dr
  have SM : Hid (∀ A B c d w, InsS w A dl → InsS w B dl → Calls Try.prog 22 #[.slice A dl.length c, .slice B dl.length d] w (Gives (.bool true) w)) := Lib.hid fun A B c d w h h' => by
    have hs := r7_Same dl dl A B c d w SA.out SA.out h h'
    rw [(sameB_iff _ _).mpr rfl] at hs
    exact hs
  have HQ := Lib.hid q0
  clear q0 q4
  unfold maxLen at hm
  by_cases hbig : b.length ≤ 4200
  · have e1 : q.length = b.length := by rw [HQ.out]; exact Nat.min_eq_right hbig
    rw [e1] at C1 C2 HC
    clear HQ e1
    generalize b.length = n at *
    have g1 : (n : Int) ≤ 4200 := by omega
    have g2 : min (n : Int) 4200 = n := by omega
    have g3 : (0 : Int) ≤ n := by omega
    go_enter Try.func5, Try.ntmps5
    go_wp2_with fail
    refine (C1.out _ HB.out).mono ?_
    rintro e w8 ⟨A1, c1, rfl, h8, _, _, b8⟩
    have V := Lib.hid b8
    have H8 := Lib.hid h8
    clear b8 h8
    simp only at *
    go_wp2_with fail
    refine (C2.out _ (HB.out.after V.out)).mono ?_
    rintro e w9 ⟨A2, c2, rfl, h9, _, _, b9⟩
    replace V := Lib.hid (below_next' V.out b9)
    replace H8 := Lib.hid (H8.out.after b9)
    have H9 := Lib.hid h9
    clear b9 h9
    simp only at *
    go_wp2_with fail
    refine (S.out _).mono ?_
    rintro e w10 ⟨rfl, b10⟩
    replace V := Lib.hid (below_next' V.out b10)
    replace H8 := Lib.hid (H8.out.after b10)
    replace H9 := Lib.hid (H9.out.after b10)
    clear b10
    go_wp2_with fail
    refine (SM.out _ _ _ _ _ H8.out H9.out).mono ?_
    rintro e w11 ⟨rfl, b11⟩
    replace V := Lib.hid (below_next' V.out b11)
    clear b11
    go_wp2_with fail
    go_ret
    exact ⟨rfl, V.out⟩
  · have e1 : q.length = 4200 := by rw [HQ.out]; exact Nat.min_eq_left (by omega)
    rw [e1] at C1 C2 HC
    clear HQ e1
    generalize b.length = n at *
    have g1 : (4200 : Int) < n := by omega
    have g2 : min (n : Int) 4200 = 4200 := by omega
    have g3 : (0 : Int) ≤ n := by omega
    go_enter Try.func5, Try.ntmps5
    go_wp2_with fail
    refine (C1.out _ HB.out).mono ?_
    rintro e w8 ⟨A1, c1, rfl, h8, _, _, b8⟩
    have V := Lib.hid b8
    have H8 := Lib.hid h8
    clear b8 h8
    simp only at *
    go_wp2_with fail
    refine (C2.out _ (HB.out.after V.out)).mono ?_
    rintro e w9 ⟨A2, c2, rfl, h9, _, _, b9⟩
    replace V := Lib.hid (below_next' V.out b9)
    replace H8 := Lib.hid (H8.out.after b9)
    have H9 := Lib.hid h9
    clear b9 h9
    simp only at *
    go_wp2_with fail
    refine (S.out _).mono ?_
    rintro e w10 ⟨rfl, b10⟩
    replace V := Lib.hid (below_next' V.out b10)
    replace H8 := Lib.hid (H8.out.after b10)
    replace H9 := Lib.hid (H9.out.after b10)
    clear b10
    go_wp2_with fail
    refine (SM.out _ _ _ _ _ H8.out H9.out).mono ?_
    rintro e w11 ⟨rfl, b11⟩
    replace V := Lib.hid (below_next' V.out b11)
    clear b11
    go_wp2_with fail
    go_ret
    exact ⟨rfl, V.out⟩

end Go.Proofs.Ytplndcjmbgkcjaa
