/-
  P7.4: of a program each instruction's next one, but of the last one and of Exits and Jumps, and each target, is where one begins: the walk of the statement CodeClosed.
  Conditions: none beyond the row's own.
-/
import Derived.Test.YtplndcjmbgkcjaaCodeShown
import Derived.Test.YtplndcjmbgkcjaaCodeRun
import Derived.LoopTactic
namespace Go.Proofs.Ytplndcjmbgkcjaa
open Go.RowKit
set_option linter.unusedVariables false
set_option linter.unusedSimpArgs false

set_option maxRecDepth 100000 in
set_option maxHeartbeats 4000000 in
theorem l7_CodeClosed_no (l : List Ins) (A : Option Addr) (c : Nat) (w : World) (h : InsS w A l) (hx : OkAll l) (hc : l.length ≤ c) (hm : c ≤ maxLen) (hr : ((chk (fewL l)).2 == 0) = false) : Calls Try.prog 8 #[.slice A l.length c] w (Fine w) := by
  have FE := Lib.hid fun w => l7_few l A c w hc hm
  have HI := Lib.hid (few_ins h)
  have HX := Lib.hid (few_ok hx)
  have HL := Lib.hid (few_len l)
  have HC : Hid ((fewL l).length ≤ c ∧ c ≤ maxLen) := Lib.hid ⟨Nat.le_trans (by unfold fewL; rw [List.length_take]; omega) hc, hm⟩
  clear h hx hc hm
  generalize l.length = n at *
  generalize fewL l = x at *
  clear l
  have C1 := Lib.hid fun w h => c7_Check x A c w (by have := HL.out; omega) h HX.out
  have S := Lib.hid l7_shown
  generalize x.length = n at *
  generalize (chk x).1 = ka at *
  generalize (chk x).2 = kr at *
  have n0 : (kr != 0) = true := by unfold bne; rw [hr]; rfl
  clear hr
  go_enter Try.func8, Try.ntmps8
  go_wp2_with fail
  refine (S.out _).mono ?_
  rintro e w4 ⟨rfl, b4⟩
  have V := Lib.hid b4
  clear b4
  go_wp2_with fail
  refine (FE.out _).mono ?_
  rintro e w5 ⟨rfl, b5⟩
  replace V := Lib.hid (below_next' V.out b5)
  clear b5 FE
  go_wp2_with fail
  refine (C1.out _ (HI.out.after V.out)).mono ?_
  rintro e w6 ⟨rfl, b6⟩
  replace V := Lib.hid (below_next' V.out b6)
  clear b6
  go_wp2_with fail
  go_ret
  exact ⟨rfl, V.out⟩

set_option maxRecDepth 100000 in
set_option maxHeartbeats 4000000 in
theorem l7_CodeClosed_yes (l : List Ins) (A : Option Addr) (c : Nat) (w : World) (h : InsS w A l) (hx : OkAll l) (hc : l.length ≤ c) (hm : c ≤ maxLen) (hr : (chk (fewL l)).2 = 0) : Calls Try.prog 8 #[.slice A l.length c] w (Fine w) := by
  have FE := Lib.hid fun w => l7_few l A c w hc hm
  have HI := Lib.hid (few_ins h)
  have HX := Lib.hid (few_ok hx)
  have HL := Lib.hid (few_len l)
  have HC : Hid ((fewL l).length ≤ c ∧ c ≤ maxLen) := Lib.hid ⟨Nat.le_trans (by unfold fewL; rw [List.length_take]; omega) hc, hm⟩
  clear h hx hc hm
  generalize l.length = n at *
  generalize fewL l = x at *
  clear l
  have C1 := Lib.hid fun w h => c7_Check x A c w (by have := HL.out; omega) h HX.out
  have S1 := Lib.hid fun w h => c7_Starts x A c w (by have := HL.out; omega) h
  have T1 := Lib.hid fun i w h => c7_Target x A c i w (by have := HL.out; omega) h HX.out
  have N1 := Lib.hid fun i w h => c7_Next x A c i w (by have := HL.out; omega) h
  have S := Lib.hid l7_shown
  have HR := Lib.hid hr
  have hpos := (fits_len (chk_ok hr).1).1
  have KW : Hid (∀ j, j < x.length → stAt x j = true → wOk (iAt x j) = true) := Lib.hid fun j hj hs => whole_ok ((chk_ok HR.out).2.1 j hj hs)
  have KN : Hid (∀ j, j < x.length → stAt x j = true → ends (iAt x j) = false → nxt x j < x.length ∧ stAt x (nxt x j) = true) := Lib.hid fun j hj hs he => next_in HR.out hj hs he
  have KT : Hid (∀ j, j < x.length → stAt x j = true → tgOk x j = jumpy (iAt x j) ∧ (jumpy (iAt x j) = true → ∃ m : Nat, tgOf x j = m ∧ m < x.length ∧ stAt x m = true)) := Lib.hid fun j hj hs => target_in HR.out hj hs
  have HF : Hid (stAt x 0 = true) := Lib.hid (first_in hpos)
  have NI : Hid (∀ j, j < x.length → nextOf x j = (nxt x j : Nat)) := Lib.hid fun j hj => nextOf_in hj
  have HW : Hid (∀ j, j < x.length → ∀ w, Calls Try.prog 12 #[iV (iAt x j)] w (Gives (.tuple #[whV (wOf (iAt x j)), .bool (wOk (iAt x j))]) w)) := Lib.hid fun j hj w => c7_What _ (HX.out j hj) w
  have HA : Hid (∀ w, InsS w A x → ∀ j, j < x.length → ∃ g o, A = some ⟨g, o, none⟩ ∧ g < w.heap.size ∧ InsAt w g (o + j * 5) (iAt x j)) := Lib.hid fun w h j hj => h.at_ hj
  have hsl := sts_len false x
  have HG : Hid (∀ j, j < x.length → (sts false x)[j]? = some (stAt x j)) := Lib.hid fun j hj => stAt_get hj
  have hle : x.length ≤ 520 := HL.out
  clear hr
  have er : (chk x).2 = 0 := HR.out
  rw [er] at C1
  generalize x.length = n at *
  generalize (chk x).1 = ka at *
  generalize sts false x = sl at *
  have HSL := Lib.hid hsl
  clear hsl er
  have hn0 : (0 : Int) < n := by omega
  go_enter Try.func8, Try.ntmps8
  go_wp2_with fail
  refine (S.out _).mono ?_
  rintro e w4 ⟨rfl, b4⟩
  have V := Lib.hid b4
  clear b4
  go_wp2_with fail
  refine (FE.out _).mono ?_
  rintro e w5 ⟨rfl, b5⟩
  replace V := Lib.hid (below_next' V.out b5)
  clear b5 FE
  go_wp2_with fail
  refine (C1.out _ (HI.out.after V.out)).mono ?_
  rintro e w6 ⟨rfl, b6⟩
  replace V := Lib.hid (below_next' V.out b6)
  clear b6
  go_wp2_with fail
  refine (S1.out _ (HI.out.after V.out)).mono ?_
  rintro e w7 ⟨ga, rfl, _, hba, b7⟩
  have Q : Hid (Below w.heap.size w w7 ∧ bB ga sl w7) := Lib.hid ⟨below_next' V.out b7, hba⟩
  clear b7 hba V
  rw [HSL.out]
  have z0 := Q.out.2.cell (k := 0) ((HG.out 0 hpos).trans (by rw [HF.out]))
  go_wp2_with fail
  clear z0
  go_loopw [41] (fun i wr => ∃ j : Nat, i = .int .i64 j ∧ j ≤ n ∧ Hid (Below w.heap.size w wr ∧ bB ga sl wr)) (fun i wr => n - (intOf i).toNat)
  case atStart => exact ⟨0, rfl, by omega, Q⟩
  case round =>
    clear Q
    obtain ⟨j, rfl, hj, Q⟩ := hrel
    have hj0 : (0 : Int) ≤ j := by omega
    by_cases hlt : (j : Int) < n
    rotate_left 1
    · clear hj
      go_wp2_with fail
      go_ret
      exact ⟨rfl, Q.out.1⟩
    have hjn : j < n := by omega
    have c0 := Q.out.2.cell (HG.out j hjn)
    have K1 := Lib.hid (KW.out j hjn)
    have K2 := Lib.hid (KN.out j hjn)
    have K3 := Lib.hid (KT.out j hjn)
    have NJ := Lib.hid (NI.out j hjn)
    have CW := Lib.hid (HW.out j hjn)
    have HJ := Lib.hid (fun w h => HA.out w h j hjn)
    have NL := Lib.hid (nxt_lt x j)
    generalize stAt x j = s at *
    cases s
    · clear K1 K2 K3 NJ CW HJ hjn NL
      go_wp2_with fail
      go_round
      case rel => exact ⟨j + 1, by go_num, by omega, Q⟩
      case measure => simp [intOf]; omega
    have k1 := K1.out rfl
    obtain ⟨k3, k4⟩ := K3.out rfl
    have K5 := Lib.hid (K2.out rfl)
    have K4 := Lib.hid k4
    clear K1 K2 K3 k4 KW KN KT HW
    have TT := Lib.hid (T1.out j)
    have NN := Lib.hid (N1.out j)
    rw [NJ.out] at NN
    rw [k3] at TT
    clear k3 NJ NI T1 N1
    rw [k1] at CW
    clear k1
    unfold jumpy at TT K4
    unfold ends at K5
    generalize tgOf x j = tg at *
    generalize nxt x j = q at *
    generalize wOf (iAt x j) = v at *
    generalize iAt x j = y at *
    have NLQ := NL.out
    by_cases h12 : (v.kind == 12) = true
    · have k12 := beq_iff_eq.mp h12
      have k9 : (v.kind == 9) = false := by rw [k12]; rfl
      have k10 : (v.kind == 10) = false := by rw [k12]; rfl
      have n12 : (v.kind != 12) = false := by unfold bne; rw [h12]; rfl
      have n9 : (v.kind != 9) = true := by unfold bne; rw [k9]; rfl
      rw [k9, k10, Bool.or_self] at TT
      clear K4 K5 k12
      obtain ⟨gi, oi, hA, hgi, hcell⟩ := HJ.out _ (HI.out.after Q.out.1)
      have HCL := Lib.hid hcell
      clear hcell
      subst hA
      obtain ⟨e0, e1, e2, e3, e4⟩ := HCL.out
      clear hj NL NLQ
      go_wp2_with fail
      clear e0 e1 e2 e3 e4
      refine (CW.out _).mono ?_
      rintro e w8 ⟨rfl, b8⟩
      have Q2 : Hid (Below w.heap.size w (w8.alloc (.cells (whCells v) 26)) ∧ bB ga sl (w8.alloc (.cells (whCells v) 26)) ∧ whB w8.heap.size v (w8.alloc (.cells (whCells v) 26))) := Lib.hid ⟨below_alloc (below_next' Q.out.1 b8) _, (Q.out.2.after b8).after (below_alloc (Below.refl _ _) _), whB.new _ _ rfl⟩
      clear b8 c0 Q
      go_wp2_with fail
      generalize w8.alloc (.cells (whCells v) 26) = wa at *
      refine (NN.out _ (HI.out.after Q2.out.1)).mono ?_
      rintro e w9 ⟨rfl, b9⟩
      replace Q2 : Hid (Below w.heap.size w w9 ∧ bB ga sl w9 ∧ whB w8.heap.size v w9) := Lib.hid ⟨below_next' Q2.out.1 b9, Q2.out.2.1.after b9, Q2.out.2.2.after b9⟩
      clear b9
      generalize w8.heap.size = gv at *
      obtain ⟨v0, v1, v2, v3, v4, v5⟩ := Q2.out.2.2.cells
      go_wp2_with fail
      clear v0 v1 v2 v3 v4 v5
      refine (TT.out _ (HI.out.after Q2.out.1)).mono ?_
      rintro e w10 ⟨rfl, b10⟩
      replace Q2 : Hid (Below w.heap.size w w10 ∧ bB ga sl w10 ∧ whB gv v w10) := Lib.hid ⟨below_next' Q2.out.1 b10, Q2.out.2.1.after b10, Q2.out.2.2.after b10⟩
      clear b10
      obtain ⟨v0, v1, v2, v3, v4, v5⟩ := Q2.out.2.2.cells
      have QE : Hid (Below w.heap.size w w10 ∧ bB ga sl w10) := Lib.hid ⟨Q2.out.1, Q2.out.2.1⟩
      clear Q2
      go_wp2_with fail
      go_round
      case rel => exact ⟨j + 1, by go_num, by omega, QE⟩
      case measure => simp [intOf]; omega
    have h12f : (v.kind == 12) = false := by simpa using h12
    have n12 : (v.kind != 12) = true := by unfold bne; rw [h12f]; rfl
    clear h12
    by_cases h9 : (v.kind == 9) = true
    · have n9 : (v.kind != 9) = false := by unfold bne; rw [h9]; rfl
      rw [h9, Bool.true_or] at TT
      obtain ⟨mt, rfl, hm1, hm2⟩ := K4.out (by rw [h9]; rfl)
      have HM := Lib.hid ((HG.out mt hm1).trans (by rw [hm2]))
      have hmi : (mt : Int) < n := by omega
      have hm0 : (0 : Int) ≤ mt := by omega
      clear K4 K5 hm1 hm2
      obtain ⟨gi, oi, hA, hgi, hcell⟩ := HJ.out _ (HI.out.after Q.out.1)
      have HCL := Lib.hid hcell
      clear hcell
      subst hA
      obtain ⟨e0, e1, e2, e3, e4⟩ := HCL.out
      clear hj NL NLQ
      go_wp2_with fail
      clear e0 e1 e2 e3 e4
      refine (CW.out _).mono ?_
      rintro e w8 ⟨rfl, b8⟩
      have Q2 : Hid (Below w.heap.size w (w8.alloc (.cells (whCells v) 26)) ∧ bB ga sl (w8.alloc (.cells (whCells v) 26)) ∧ whB w8.heap.size v (w8.alloc (.cells (whCells v) 26))) := Lib.hid ⟨below_alloc (below_next' Q.out.1 b8) _, (Q.out.2.after b8).after (below_alloc (Below.refl _ _) _), whB.new _ _ rfl⟩
      clear b8 c0 Q
      go_wp2_with fail
      generalize w8.alloc (.cells (whCells v) 26) = wa at *
      refine (NN.out _ (HI.out.after Q2.out.1)).mono ?_
      rintro e w9 ⟨rfl, b9⟩
      replace Q2 : Hid (Below w.heap.size w w9 ∧ bB ga sl w9 ∧ whB w8.heap.size v w9) := Lib.hid ⟨below_next' Q2.out.1 b9, Q2.out.2.1.after b9, Q2.out.2.2.after b9⟩
      clear b9
      generalize w8.heap.size = gv at *
      obtain ⟨v0, v1, v2, v3, v4, v5⟩ := Q2.out.2.2.cells
      go_wp2_with fail
      clear v0 v1 v2 v3 v4 v5
      refine (TT.out _ (HI.out.after Q2.out.1)).mono ?_
      rintro e w10 ⟨rfl, b10⟩
      replace Q2 : Hid (Below w.heap.size w w10 ∧ bB ga sl w10 ∧ whB gv v w10) := Lib.hid ⟨below_next' Q2.out.1 b10, Q2.out.2.1.after b10, Q2.out.2.2.after b10⟩
      clear b10
      obtain ⟨v0, v1, v2, v3, v4, v5⟩ := Q2.out.2.2.cells
      have y1 := Q2.out.2.1.cell HM.out
      have QE : Hid (Below w.heap.size w w10 ∧ bB ga sl w10) := Lib.hid ⟨Q2.out.1, Q2.out.2.1⟩
      clear Q2
      go_wp2_with fail
      go_round
      case rel => exact ⟨j + 1, by go_num, by omega, QE⟩
      case measure => simp [intOf]; omega
    have h9f : (v.kind == 9) = false := by simpa using h9
    have n9 : (v.kind != 9) = true := by unfold bne; rw [h9f]; rfl
    clear h9
    obtain ⟨q1, q2⟩ := K5.out (by rw [h12f, h9f]; rfl)
    have HQ := Lib.hid ((HG.out q q1).trans (by rw [q2]))
    have qi : (q : Int) < n := by omega
    have q0 : (0 : Int) ≤ q := by omega
    have qj : (j : Int) < q := by omega
    clear K5 q1 q2
    by_cases h10 : (v.kind == 10) = true
    · rw [h9f, h10, Bool.false_or] at TT
      obtain ⟨mt, rfl, hm1, hm2⟩ := K4.out (by rw [h10]; simp)
      have HM := Lib.hid ((HG.out mt hm1).trans (by rw [hm2]))
      have hmi : (mt : Int) < n := by omega
      have hm0 : (0 : Int) ≤ mt := by omega
      clear K4 hm1 hm2
      obtain ⟨gi, oi, hA, hgi, hcell⟩ := HJ.out _ (HI.out.after Q.out.1)
      have HCL := Lib.hid hcell
      clear hcell
      subst hA
      obtain ⟨e0, e1, e2, e3, e4⟩ := HCL.out
      clear hj NL NLQ
      go_wp2_with fail
      clear e0 e1 e2 e3 e4
      refine (CW.out _).mono ?_
      rintro e w8 ⟨rfl, b8⟩
      have Q2 : Hid (Below w.heap.size w (w8.alloc (.cells (whCells v) 26)) ∧ bB ga sl (w8.alloc (.cells (whCells v) 26)) ∧ whB w8.heap.size v (w8.alloc (.cells (whCells v) 26))) := Lib.hid ⟨below_alloc (below_next' Q.out.1 b8) _, (Q.out.2.after b8).after (below_alloc (Below.refl _ _) _), whB.new _ _ rfl⟩
      clear b8 c0 Q
      go_wp2_with fail
      generalize w8.alloc (.cells (whCells v) 26) = wa at *
      refine (NN.out _ (HI.out.after Q2.out.1)).mono ?_
      rintro e w9 ⟨rfl, b9⟩
      replace Q2 : Hid (Below w.heap.size w w9 ∧ bB ga sl w9 ∧ whB w8.heap.size v w9) := Lib.hid ⟨below_next' Q2.out.1 b9, Q2.out.2.1.after b9, Q2.out.2.2.after b9⟩
      clear b9
      generalize w8.heap.size = gv at *
      obtain ⟨v0, v1, v2, v3, v4, v5⟩ := Q2.out.2.2.cells
      have y0 := Q2.out.2.1.cell HQ.out
      go_wp2_with fail
      clear v0 v1 v2 v3 v4 v5
      clear y0
      refine (TT.out _ (HI.out.after Q2.out.1)).mono ?_
      rintro e w10 ⟨rfl, b10⟩
      replace Q2 : Hid (Below w.heap.size w w10 ∧ bB ga sl w10 ∧ whB gv v w10) := Lib.hid ⟨below_next' Q2.out.1 b10, Q2.out.2.1.after b10, Q2.out.2.2.after b10⟩
      clear b10
      obtain ⟨v0, v1, v2, v3, v4, v5⟩ := Q2.out.2.2.cells
      have y1 := Q2.out.2.1.cell HM.out
      have QE : Hid (Below w.heap.size w w10 ∧ bB ga sl w10) := Lib.hid ⟨Q2.out.1, Q2.out.2.1⟩
      clear Q2
      go_wp2_with fail
      go_round
      case rel => exact ⟨j + 1, by go_num, by omega, QE⟩
      case measure => simp [intOf]; omega
    · have h10f : (v.kind == 10) = false := by simpa using h10
      rw [h9f, h10f, Bool.or_self] at TT
      clear K4 h10
      obtain ⟨gi, oi, hA, hgi, hcell⟩ := HJ.out _ (HI.out.after Q.out.1)
      have HCL := Lib.hid hcell
      clear hcell
      subst hA
      obtain ⟨e0, e1, e2, e3, e4⟩ := HCL.out
      clear hj NL NLQ
      go_wp2_with fail
      clear e0 e1 e2 e3 e4
      refine (CW.out _).mono ?_
      rintro e w8 ⟨rfl, b8⟩
      have Q2 : Hid (Below w.heap.size w (w8.alloc (.cells (whCells v) 26)) ∧ bB ga sl (w8.alloc (.cells (whCells v) 26)) ∧ whB w8.heap.size v (w8.alloc (.cells (whCells v) 26))) := Lib.hid ⟨below_alloc (below_next' Q.out.1 b8) _, (Q.out.2.after b8).after (below_alloc (Below.refl _ _) _), whB.new _ _ rfl⟩
      clear b8 c0 Q
      go_wp2_with fail
      generalize w8.alloc (.cells (whCells v) 26) = wa at *
      refine (NN.out _ (HI.out.after Q2.out.1)).mono ?_
      rintro e w9 ⟨rfl, b9⟩
      replace Q2 : Hid (Below w.heap.size w w9 ∧ bB ga sl w9 ∧ whB w8.heap.size v w9) := Lib.hid ⟨below_next' Q2.out.1 b9, Q2.out.2.1.after b9, Q2.out.2.2.after b9⟩
      clear b9
      generalize w8.heap.size = gv at *
      obtain ⟨v0, v1, v2, v3, v4, v5⟩ := Q2.out.2.2.cells
      have y0 := Q2.out.2.1.cell HQ.out
      go_wp2_with fail
      clear v0 v1 v2 v3 v4 v5
      clear y0
      refine (TT.out _ (HI.out.after Q2.out.1)).mono ?_
      rintro e w10 ⟨rfl, b10⟩
      replace Q2 : Hid (Below w.heap.size w w10 ∧ bB ga sl w10 ∧ whB gv v w10) := Lib.hid ⟨below_next' Q2.out.1 b10, Q2.out.2.1.after b10, Q2.out.2.2.after b10⟩
      clear b10
      obtain ⟨v0, v1, v2, v3, v4, v5⟩ := Q2.out.2.2.cells
      have QE : Hid (Below w.heap.size w w10 ∧ bB ga sl w10) := Lib.hid ⟨Q2.out.1, Q2.out.2.1⟩
      clear Q2
      go_wp2_with fail
      go_round
      case rel => exact ⟨j + 1, by go_num, by omega, QE⟩
      case measure => simp [intOf]; omega

theorem l7_CodeClosed (l : List Ins) (A : Option Addr) (c : Nat) (w : World) (h : InsS w A l) (hx : OkAll l) (hc : l.length ≤ c) (hm : c ≤ maxLen) : Calls Try.prog 8 #[.slice A l.length c] w (Fine w) := by
  cases hr : ((chk (fewL l)).2 == 0)
  · exact l7_CodeClosed_no l A c w h hx hc hm hr
  · exact l7_CodeClosed_yes l A c w h hx hc hm (beq_iff_eq.mp hr)

end Go.Proofs.Ytplndcjmbgkcjaa
