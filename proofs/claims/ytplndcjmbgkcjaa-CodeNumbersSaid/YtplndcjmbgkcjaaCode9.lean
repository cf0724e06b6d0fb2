/-
  Layer 7: where, and why, instructions are no program, as the program finds it.
  Conditions: the numbers fit their kinds.
-/
import Derived.Test.YtplndcjmbgkcjaaCode8
import Derived.Test.YtplndcjmbgkcjaaCodeChk
import Derived.LoopTactic
namespace Go.Proofs.Ytplndcjmbgkcjaa
open Go.RowKit
set_option linter.unusedVariables false
set_option linter.unusedSimpArgs false

set_option maxRecDepth 100000 in
set_option maxHeartbeats 2000000 in
theorem c7_Check_size (l : List Ins) (A : Option Addr) (c : Nat) (w : World) (hl : l.length ≤ 100000) (hf : fitsB l.length = false) (a b : Int) (hab : chk l = (a, b)) :
    Calls Try.prog 16 #[.slice A l.length c] w (Gives (.tuple #[.int .i64 a, .int .i64 b]) w) := by
  have C := Lib.hid (c7_fits l.length)
  rw [show (decide ((0 : Int) < l.length) && decide ((l.length : Int) ≤ 512)) = fitsB l.length from rfl, hf] at C
  rw [chk_size hf] at hab
  injection hab with h1 h2
  subst h1 h2
  clear hf
  go_enter Try.func16, Try.ntmps16
  go_wp2_with fail
  refine (C.out _).mono ?_
  rintro e w5 ⟨rfl, b5⟩
  have V := Lib.hid b5
  clear b5
  go_wp2_with fail
  go_ret2
  exact ⟨rfl, V.out⟩

set_option maxRecDepth 100000 in
set_option maxHeartbeats 2000000 in
theorem c7_Check_fits (l : List Ins) (A : Option Addr) (c : Nat) (w : World) (hl : l.length ≤ 100000) (h : InsS w A l) (hx : OkAll l) (hf : fitsB l.length = true) (a b : Int) (hab : chk l = (a, b)) :
    Calls Try.prog 16 #[.slice A l.length c] w (Gives (.tuple #[.int .i64 a, .int .i64 b]) w) := by
  have C := Lib.hid (c7_fits l.length)
  rw [show (decide ((0 : Int) < l.length) && decide ((l.length : Int) ≤ 512)) = fitsB l.length from rfl, hf] at C
  have hpos := (fits_len hf).1
  have S := Lib.hid fun w h => c7_Starts l A c w hl h
  have LA := Lib.hid fun g w hb => c7_last l g l.length w hl hpos hb
  have HI := Lib.hid h
  have HX := Lib.hid hx
  have HF := Lib.hid hf
  have HAB := Lib.hid hab
  have HL := Lib.hid hl
  have HP := Lib.hid hpos
  clear h hx hf hab hpos
  generalize hn : l.length = n at *
  have HN := Lib.hid hn
  clear hn
  have hn0 : (0 : Int) ≤ n := by omega
  go_enter Try.func16, Try.ntmps16
  go_wp2_with fail
  refine (C.out _).mono ?_
  rintro e w5 ⟨rfl, b5⟩
  have V := Lib.hid b5
  clear b5 C
  go_wp2_with fail
  refine (S.out _ (HI.out.after V.out)).mono ?_
  rintro e w6 ⟨g, rfl, hg, hb6, b6⟩
  have Q : Hid (Below w.heap.size w w6 ∧ bB g (sts false l) w6) := Lib.hid ⟨below_next' V.out b6, hb6⟩
  clear V b6 hb6 hg S
  rw [show (sts false l).length = n by rw [sts_len, HN.out]]
  go_wp2_with fail
  go_loopw [18] (fun i wr => ∃ j : Nat, i = .int .i64 j ∧ j ≤ n ∧ Hid (fs l (bad1 l) j = fs l (bad1 l) 0) ∧ Hid (Below w.heap.size w wr ∧ bB g (sts false l) wr)) (fun i wr => n - (intOf i).toNat)
  case atStart => exact ⟨0, rfl, by omega, Lib.hid rfl, Q⟩
  case round =>
    clear Q
    obtain ⟨j, rfl, hj, hf, Q⟩ := hrel
    have hj0 : (0 : Int) ≤ j := by omega
    by_cases hlt : (j : Int) < n
    · have hlt' : j < l.length := by rw [HN.out]; omega
      have LT := Lib.hid hlt'
      have c1 := Q.out.2.cell (stAt_get hlt')
      have SK := Lib.hid (fs_skip (P := bad1 l) hlt')
      have FO := Lib.hid (fs_found (P := bad1 l) hlt')
      clear hlt'
      cases hs : stAt l j
      · rw [hs] at c1 SK
        have HE : Hid (fs l (bad1 l) (j + 1) = fs l (bad1 l) 0) := Lib.hid ((SK.out rfl).trans hf.out)
        clear SK FO hs
        go_wp2_with fail
        go_round
        case rel => exact ⟨j + 1, by go_num, by omega, HE, Q⟩
        case measure => simp [intOf]; omega
      · rw [hs] at c1 SK
        have D : Hid (∀ w, InsS w A l → Calls Try.prog 34 #[.slice A n c, .int .i64 (j : Int)] w (Gives (.bool (!bad1 l j)) w)) := Lib.hid (by rw [← HN.out]; exact fun w h => c7_whole l A c j w (HN.out.symm ▸ HL.out) h LT.out (HX.out j LT.out))
        cases hb : bad1 l j
        · rw [hb] at D SK
          have HE : Hid (fs l (bad1 l) (j + 1) = fs l (bad1 l) 0) := Lib.hid ((SK.out rfl).trans hf.out)
          clear SK FO hs hb
          go_wp2_with fail
          refine (D.out _ (HI.out.after Q.out.1)).mono ?_
          rintro e w7 ⟨rfl, b7⟩
          replace Q : Hid (Below w.heap.size w w7 ∧ bB g (sts false l) w7) := Lib.hid ⟨below_next' Q.out.1 b7, Q.out.2.after b7⟩
          clear b7 c1
          go_wp2_with fail
          go_round
          case rel => exact ⟨j + 1, by go_num, by omega, HE, Q⟩
          case measure => simp [intOf]; omega
        · rw [hb] at D
          have HE : Hid (a = (j : Int) ∧ b = 71) := Lib.hid (by
            have e1 := hf.out.symm.trans (FO.out hs hb)
            have e2 := HAB.out
            rw [chk_insn (HN.out.symm ▸ HF.out) e1] at e2
            injection e2 with e3 e4
            exact ⟨e3.symm, e4.symm⟩)
          clear SK FO hs hb
          go_wp2_with fail
          refine (D.out _ (HI.out.after Q.out.1)).mono ?_
          rintro e w7 ⟨rfl, b7⟩
          replace Q : Hid (Below w.heap.size w w7 ∧ bB g (sts false l) w7) := Lib.hid ⟨below_next' Q.out.1 b7, Q.out.2.after b7⟩
          clear b7 c1
          go_wp2_with fail
          go_ret2
          exact ⟨by rw [HE.out.1, HE.out.2]; rfl, Q.out.1⟩
    · have hjn : ¬ j < l.length := by rw [HN.out]; omega
      have N1 : Hid (fs l (bad1 l) 0 = none) := Lib.hid (hf.out.symm.trans (fs_out hjn))
      clear hf hjn
      go_wp2_with fail
      go_loopw [34] (fun i wr => ∃ j : Nat, i = .int .i64 j ∧ j ≤ n ∧ Hid (fs l (bad2 l) j = fs l (bad2 l) 0) ∧ Hid (Below w.heap.size w wr ∧ bB g (sts false l) wr)) (fun i wr => n - (intOf i).toNat)
      case atStart => exact ⟨0, rfl, by omega, Lib.hid rfl, Q⟩
      case round =>
        clear Q
        obtain ⟨j, rfl, hj, hf, Q⟩ := hrel
        have hj0 : (0 : Int) ≤ j := by omega
        by_cases hlt : (j : Int) < n
        · have hlt' : j < l.length := by rw [HN.out]; omega
          have LT := Lib.hid hlt'
          have c1 := Q.out.2.cell (stAt_get hlt')
          have SK := Lib.hid (fs_skip (P := bad2 l) hlt')
          have FO := Lib.hid (fs_found (P := bad2 l) hlt')
          clear hlt'
          cases hs : stAt l j
          · rw [hs] at c1 SK
            have HE : Hid (fs l (bad2 l) (j + 1) = fs l (bad2 l) 0) := Lib.hid ((SK.out rfl).trans hf.out)
            clear SK FO hs
            go_wp2_with fail
            go_round
            case rel => exact ⟨j + 1, by go_num, by omega, HE, Q⟩
            case measure => simp [intOf]; omega
          · rw [hs] at c1 SK
            have D : Hid (∀ w, InsS w A l → bB g (sts false l) w → Calls Try.prog 35 #[.slice A n c, .slice (some ⟨g, 0, none⟩) n n, .int .i64 (j : Int)] w (Gives (.bool (!bad2 l j)) w)) := Lib.hid (by rw [← HN.out]; exact fun w h hb => c7_lands l A c j g _ w (HN.out.symm ▸ HL.out) h LT.out HX.out hb)
            cases hb : bad2 l j
            · rw [hb] at D SK
              have HE : Hid (fs l (bad2 l) (j + 1) = fs l (bad2 l) 0) := Lib.hid ((SK.out rfl).trans hf.out)
              clear SK FO hs hb
              go_wp2_with fail
              refine (D.out _ (HI.out.after Q.out.1) Q.out.2).mono ?_
              rintro e w7 ⟨rfl, b7⟩
              replace Q : Hid (Below w.heap.size w w7 ∧ bB g (sts false l) w7) := Lib.hid ⟨below_next' Q.out.1 b7, Q.out.2.after b7⟩
              clear b7 c1
              go_wp2_with fail
              go_round
              case rel => exact ⟨j + 1, by go_num, by omega, HE, Q⟩
              case measure => simp [intOf]; omega
            · rw [hb] at D
              have HE : Hid (a = (j : Int) ∧ b = 72) := Lib.hid (by
                have e1 := hf.out.symm.trans (FO.out hs hb)
                have e2 := HAB.out
                rw [chk_jump (HN.out.symm ▸ HF.out) N1.out e1] at e2
                injection e2 with e3 e4
                exact ⟨e3.symm, e4.symm⟩)
              clear SK FO hs hb
              go_wp2_with fail
              refine (D.out _ (HI.out.after Q.out.1) Q.out.2).mono ?_
              rintro e w7 ⟨rfl, b7⟩
              replace Q : Hid (Below w.heap.size w w7 ∧ bB g (sts false l) w7) := Lib.hid ⟨below_next' Q.out.1 b7, Q.out.2.after b7⟩
              clear b7 c1
              go_wp2_with fail
              go_ret2
              exact ⟨by rw [HE.out.1, HE.out.2]; rfl, Q.out.1⟩
        · have hjn : ¬ j < l.length := by rw [HN.out]; omega
          have N2 : Hid (fs l (bad2 l) 0 = none) := Lib.hid (hf.out.symm.trans (fs_out hjn))
          clear hf hjn
          go_wp2_with fail
          have L3 := Lib.hid (lst_zero (l := l) (HN.out.symm ▸ HP.out))
          refine (LA.out g _ Q.out.2).mono ?_
          rintro e w8 ⟨rfl, b8⟩
          replace Q : Hid (Below w.heap.size w w8 ∧ bB g (sts false l) w8) := Lib.hid ⟨below_next' Q.out.1 b8, Q.out.2.after b8⟩
          clear b8
          have EN := Lib.hid (chk_end (HN.out.symm ▸ HF.out) N1.out N2.out)
          generalize hk : lst l 0 0 = k at *
          have hkn : (k : Int) < n := by have := L3.out.2.2.1; rw [HN.out] at this; omega
          have hk0 : (0 : Int) ≤ k := by omega
          obtain ⟨gi, oi, hA, hgi, hc⟩ := (HI.out.after Q.out.1).at_ L3.out.2.2.1
          have D := Lib.hid (c7_ends _ (HX.out k L3.out.2.2.1))
          clear hk
          subst hA
          obtain ⟨c0, c1, c2, c3, c4⟩ := hc
          clear HI
          cases he : ends (iAt l k)
          · rw [he] at D
            have HE : Hid (a = (k : Int) ∧ b = 73) := Lib.hid (by
              have e2 := HAB.out
              rw [EN.out, he] at e2
              injection e2 with e3 e4
              exact ⟨e3.symm, e4.symm⟩)
            clear he EN L3
            go_wp2_with fail
            refine (D.out _).mono ?_
            rintro e w9 ⟨rfl, b9⟩
            have V := Lib.hid (below_next' Q.out.1 b9)
            clear b9 c0 c1 c2 c3 c4
            go_wp2_with fail
            go_ret2
            exact ⟨by rw [HE.out.1, HE.out.2]; rfl, V.out⟩
          · rw [he] at D
            have HE : Hid (a = 0 ∧ b = 0) := Lib.hid (by
              have e2 := HAB.out
              rw [EN.out, he] at e2
              injection e2 with e3 e4
              exact ⟨e3.symm, e4.symm⟩)
            clear he EN L3
            go_wp2_with fail
            refine (D.out _).mono ?_
            rintro e w9 ⟨rfl, b9⟩
            have V := Lib.hid (below_next' Q.out.1 b9)
            clear b9 c0 c1 c2 c3 c4
            go_wp2_with fail
            go_ret2
            exact ⟨by rw [HE.out.1, HE.out.2]; rfl, V.out⟩

theorem c7_Check (l : List Ins) (A : Option Addr) (c : Nat) (w : World) (hl : l.length ≤ 100000) (h : InsS w A l) (hx : OkAll l) :
    Calls Try.prog 16 #[.slice A l.length c] w (Gives (.tuple #[.int .i64 (chk l).1, .int .i64 (chk l).2]) w) := by
  cases hf : fitsB l.length
  · exact c7_Check_size l A c w hl hf _ _ rfl
  · exact c7_Check_fits l A c w hl h hx hf _ _ rfl

end Go.Proofs.Ytplndcjmbgkcjaa
