/-
  Texts, one behind the other: Code8, Code9.
  Conditions: those that each theorem states.
-/
import Derived.LoopTactic
import Derived.Laws.MakeOwn
import Derived.OwnWalk
import Derived.Test.YtlbhffdpklbhfaaGreatPz42
import Derived.Test.YtlbhffdpklbhfaaGreatPz15
namespace Go.Proofs.YtlbhffdpklbhfaaGreat
open Go.RowKit
set_option maxRecDepth 100000
set_option linter.unusedVariables false
set_option linter.unusedSimpArgs false
theorem made_bools (n : Nat) (hn : n ≤ 100000) (w : World) :
    (Instr.makeSlice 104 (.int .i64 (n : Int)) (.int .i64 (n : Int))).run Tryz.prog w = .ok (.slice (some ⟨w.heap.size, 0, none⟩) n n) (w.alloc (.cells (boolCells (List.replicate n false)) 4)) := by
  obtain ⟨i, hi, hz, h1, h2⟩ := info_parts (show (Tryz.prog.info? 4).map (fun i => (i.zero, i.size, i.bytes)) = some (some (.bool false), 1, 1) by kernel_rfl)
  have h := run_make (P := Tryz.prog) w 104 4 i (.bool false) Tryz.underlying104 hi hz .i64 .i64 n n (by omega) (by omega) (by rw [h2]; omega) (by omega)
  rw [h]
  have e : madeCells (Value.bool false).cells ((n : Int).toNat * i.size) = boolCells (List.replicate n false) := by
    rw [h1, Nat.mul_one, Int.toNat_natCast]
    apply Array.ext
    · simp [size_madeCells, boolCells]
    · intro j a1 a2
      simp [madeCells, boolCells, Value.cells, Nat.mod_one]
  rw [e, Int.toNat_natCast]
theorem begins_lt {l : List Ins} {p : Nat} (h : begins l p) (hp : p < l.length) : (stTo l p).set p true = stTo l (nxt l p) := stTo_set h hp
theorem nextOf_in {l : List Ins} {p : Nat} (hp : p < l.length) : nextOf l p = (nxt l p : Nat) := by
  unfold nextOf
  rw [if_neg (by omega), show ((p : Int)).toNat = p by omega]
set_option maxRecDepth 100000 in
set_option maxHeartbeats 1000000 in
theorem c7_Starts (l : List Ins) (A : Option Addr) (c : Nat) (w : World) (hl : l.length ≤ 100000) (h : InsS w A l) :
    Calls Tryz.prog 42 #[.slice A l.length c] w (RowOf (sts false l) w) := by
  have C := Lib.hid fun i w h => c7_Next l A c i w hl h
  have HI := Lib.hid h
  clear h
  have HL : Hid (l.length ≤ 100000) := Lib.hid hl
  generalize hn : l.length = n at *
  have HN := Lib.hid hn
  clear hn
  have hn0 : (0 : Int) ≤ n := by omega
  have hmk := made_bools n hl
  go_enter Tryz.func42, Tryz.ntmps42
  go_wp2_with fail
  clear hmk
  have P0 : Hid (Below w.heap.size w (w.alloc (.cells (boolCells (List.replicate n false)) 4)) ∧ bB w.heap.size (stTo l 0) (w.alloc (.cells (boolCells (List.replicate n false)) 4))) := Lib.hid ⟨below_alloc (Below.refl _ _) _, by rw [stTo_zero, HN.out]; exact bB.new w _ rfl⟩
  generalize w.alloc (.cells (boolCells (List.replicate n false)) 4) = w1 at *
  generalize hg : w.heap.size = g at *
  have HG := Lib.hid hg
  clear hg
  go_loopw [4] (fun i wr => ∃ p : Nat, i = .int .i64 p ∧ p ≤ n + 1 ∧ Hid (begins l p) ∧ Hid (Below g w wr ∧ bB g (stTo l p) wr)) (fun i wr => n + 2 - (intOf i).toNat)
  case atStart => exact ⟨0, rfl, by omega, Lib.hid (begins_zero l), P0⟩
  case round =>
    clear P0
    obtain ⟨p, rfl, hp, hb, HB⟩ := hrel
    have hp0 : (0 : Int) ≤ p := by omega
    by_cases hlt : (p : Int) < n
    · have hlt' : p < l.length := by rw [HN.out]; omega
      have c1 := HB.out.2.cell (k := p) (b := false) (by
        rw [stTo_at, stAt_get hlt', Option.map_some, decide_eq_false (by omega), Bool.and_false])
      have f1 := HB.out.2.free p
      have D := Lib.hid (C.out p)
      rw [nextOf_in hlt'] at D
      have HX : Hid (Below g w (wr.setCell ⟨g, p, none⟩ (.bool true)) ∧ bB g (stTo l (nxt l p)) (wr.setCell ⟨g, p, none⟩ (.bool true))) := Lib.hid ⟨HB.out.1.setCell (p := ⟨g, p, none⟩) (Nat.le_refl _) _, by
        rw [← begins_lt hb.out hlt']
        exact HB.out.2.set p true⟩
      have HY := Lib.hid (begins_step hb.out hlt').2.1
      have l1 := nxt_lt l p
      have l2 := nxt_le l p
      have L1 := Lib.hid l1
      have L2 := Lib.hid l2
      clear hb l1 l2
      go_wp2_with fail
      clear c1 f1
      refine (D.out _ (HI.out.after (HG.out ▸ HX.out.1))).mono ?_
      rintro e w5 ⟨rfl, b5⟩
      have HZ : Hid (Below g w w5 ∧ bB g (stTo l (nxt l p)) w5) := Lib.hid ⟨by
        have := below_next' (a := w) (HG.out ▸ HX.out.1) b5
        rwa [HG.out] at this, HX.out.2.after b5⟩
      clear b5 D
      generalize nxt l p = q at *
      have L3 := L1.out
      have L4 := L2.out
      go_wp2_with fail
      go_round
      case rel => exact ⟨q, rfl, by omega, HY, HZ⟩
      case measure => simp [intOf]; omega
    · have e : stTo l p = sts false l := stTo_all l (by rw [HN.out]; omega)
      rw [e] at HB
      clear e hb
      have HR : Hid (RowOf (sts false l) w (.returned (.slice (some ⟨g, 0, none⟩) n n)) wr) := Lib.hid ⟨g, by rw [sts_len, HN.out], by rw [HG.out]; exact Nat.le_refl _, HB.out.2, by rw [HG.out]; exact HB.out.1⟩
      go_wp2_with fail
      go_ret
      exact HR.out
set_option maxRecDepth 100000 in
set_option maxHeartbeats 2000000 in
theorem c7_Check_size (l : List Ins) (A : Option Addr) (c : Nat) (w : World) (hl : l.length ≤ 100000) (hf : fitsB l.length = false) (a b : Int) (hab : chk l = (a, b)) :
    Calls Tryz.prog 20 #[.slice A l.length c] w (Gives (.tuple #[.int .i64 a, .int .i64 b]) w) := by
  have C := Lib.hid (c7_fits l.length)
  rw [show (decide ((0 : Int) < l.length) && decide ((l.length : Int) ≤ 512)) = fitsB l.length from rfl, hf] at C
  rw [chk_size hf] at hab
  injection hab with h1 h2
  subst h1 h2
  clear hf
  go_enter Tryz.func20, Tryz.ntmps20
  go_wp2_with fail
  refine (C.out _).mono ?_
  rintro e w5 ⟨rfl, b5⟩
  have V := Lib.hid b5
  clear b5
  go_wp2_with fail
  go_ret2
  exact ⟨rfl, V.out⟩
set_option maxRecDepth 100000 in
set_option maxHeartbeats 2000000 in
theorem c7_Check_fits (l : List Ins) (A : Option Addr) (c : Nat) (w : World) (hl : l.length ≤ 100000) (h : InsS w A l) (hx : OkAll l) (hf : fitsB l.length = true) (a b : Int) (hab : chk l = (a, b)) :
    Calls Tryz.prog 20 #[.slice A l.length c] w (Gives (.tuple #[.int .i64 a, .int .i64 b]) w) := by
  have C := Lib.hid (c7_fits l.length)
  rw [show (decide ((0 : Int) < l.length) && decide ((l.length : Int) ≤ 512)) = fitsB l.length from rfl, hf] at C
  have hpos := (fits_len hf).1
  have S := Lib.hid fun w h => c7_Starts l A c w hl h
  have LA := Lib.hid fun g w hb => c7_last l g l.length w hl hpos hb
  have HI := Lib.hid h
  have HX := Lib.hid hx
  have HF := Lib.hid hf
  have HAB := Lib.hid hab
  have HL := Lib.hid hl
  have HP := Lib.hid hpos
  clear h hx hf hab hpos
  generalize hn : l.length = n at *
  have HN := Lib.hid hn
  clear hn
  have hn0 : (0 : Int) ≤ n := by omega
  go_enter Tryz.func20, Tryz.ntmps20
  go_wp2_with fail
  refine (C.out _).mono ?_
  rintro e w5 ⟨rfl, b5⟩
  have V := Lib.hid b5
  clear b5 C
  go_wp2_with fail
  refine (S.out _ (HI.out.after V.out)).mono ?_
  rintro e w6 ⟨g, rfl, hg, hb6, b6⟩
  have Q : Hid (Below w.heap.size w w6 ∧ bB g (sts false l) w6) := Lib.hid ⟨below_next' V.out b6, hb6⟩
  clear V b6 hb6 hg S
  rw [show (sts false l).length = n by rw [sts_len, HN.out]]
  go_wp2_with fail
  go_loopw [18] (fun i wr => ∃ j : Nat, i = .int .i64 j ∧ j ≤ n ∧ Hid (fs l (bad1 l) j = fs l (bad1 l) 0) ∧ Hid (Below w.heap.size w wr ∧ bB g (sts false l) wr)) (fun i wr => n - (intOf i).toNat)
  case atStart => exact ⟨0, rfl, by omega, Lib.hid rfl, Q⟩
  case round =>
    clear Q
    obtain ⟨j, rfl, hj, hf, Q⟩ := hrel
    have hj0 : (0 : Int) ≤ j := by omega
    by_cases hlt : (j : Int) < n
    · have hlt' : j < l.length := by rw [HN.out]; omega
      have LT := Lib.hid hlt'
      have c1 := Q.out.2.cell (stAt_get hlt')
      have SK := Lib.hid (fs_skip (P := bad1 l) hlt')
      have FO := Lib.hid (fs_found (P := bad1 l) hlt')
      clear hlt'
      cases hs : stAt l j
      · rw [hs] at c1 SK
        have HE : Hid (fs l (bad1 l) (j + 1) = fs l (bad1 l) 0) := Lib.hid ((SK.out rfl).trans hf.out)
        clear SK FO hs
        go_wp2_with fail
        go_round
        case rel => exact ⟨j + 1, by go_num, by omega, HE, Q⟩
        case measure => simp [intOf]; omega
      · rw [hs] at c1 SK
        have D : Hid (∀ w, InsS w A l → Calls Tryz.prog 43 #[.slice A n c, .int .i64 (j : Int)] w (Gives (.bool (!bad1 l j)) w)) := Lib.hid (by rw [← HN.out]; exact fun w h => c7_whole l A c j w (HN.out.symm ▸ HL.out) h LT.out (HX.out j LT.out))
        cases hb : bad1 l j
        · rw [hb] at D SK
          have HE : Hid (fs l (bad1 l) (j + 1) = fs l (bad1 l) 0) := Lib.hid ((SK.out rfl).trans hf.out)
          clear SK FO hs hb
          go_wp2_with fail
          refine (D.out _ (HI.out.after Q.out.1)).mono ?_
          rintro e w7 ⟨rfl, b7⟩
          replace Q : Hid (Below w.heap.size w w7 ∧ bB g (sts false l) w7) := Lib.hid ⟨below_next' Q.out.1 b7, Q.out.2.after b7⟩
          clear b7 c1
          go_wp2_with fail
          go_round
          case rel => exact ⟨j + 1, by go_num, by omega, HE, Q⟩
          case measure => simp [intOf]; omega
        · rw [hb] at D
          have HE : Hid (a = (j : Int) ∧ b = 71) := Lib.hid (by
            have e1 := hf.out.symm.trans (FO.out hs hb)
            have e2 := HAB.out
            rw [chk_insn (HN.out.symm ▸ HF.out) e1] at e2
            injection e2 with e3 e4
            exact ⟨e3.symm, e4.symm⟩)
          clear SK FO hs hb
          go_wp2_with fail
          refine (D.out _ (HI.out.after Q.out.1)).mono ?_
          rintro e w7 ⟨rfl, b7⟩
          replace Q : Hid (Below w.heap.size w w7 ∧ bB g (sts false l) w7) := Lib.hid ⟨below_next' Q.out.1 b7, Q.out.2.after b7⟩
          clear b7 c1
          go_wp2_with fail
          go_ret2
          exact ⟨by rw [HE.out.1, HE.out.2]; rfl, Q.out.1⟩
    · have hjn : ¬ j < l.length := by rw [HN.out]; omega
      have N1 : Hid (fs l (bad1 l) 0 = none) := Lib.hid (hf.out.symm.trans (fs_out hjn))
      clear hf hjn
      go_wp2_with fail
      go_loopw [34] (fun i wr => ∃ j : Nat, i = .int .i64 j ∧ j ≤ n ∧ Hid (fs l (bad2 l) j = fs l (bad2 l) 0) ∧ Hid (Below w.heap.size w wr ∧ bB g (sts false l) wr)) (fun i wr => n - (intOf i).toNat)
      case atStart => exact ⟨0, rfl, by omega, Lib.hid rfl, Q⟩
      case round =>
        clear Q
        obtain ⟨j, rfl, hj, hf, Q⟩ := hrel
        have hj0 : (0 : Int) ≤ j := by omega
        by_cases hlt : (j : Int) < n
        · have hlt' : j < l.length := by rw [HN.out]; omega
          have LT := Lib.hid hlt'
          have c1 := Q.out.2.cell (stAt_get hlt')
          have SK := Lib.hid (fs_skip (P := bad2 l) hlt')
          have FO := Lib.hid (fs_found (P := bad2 l) hlt')
          clear hlt'
          cases hs : stAt l j
          · rw [hs] at c1 SK
            have HE : Hid (fs l (bad2 l) (j + 1) = fs l (bad2 l) 0) := Lib.hid ((SK.out rfl).trans hf.out)
            clear SK FO hs
            go_wp2_with fail
            go_round
            case rel => exact ⟨j + 1, by go_num, by omega, HE, Q⟩
            case measure => simp [intOf]; omega
          · rw [hs] at c1 SK
            have D : Hid (∀ w, InsS w A l → bB g (sts false l) w → Calls Tryz.prog 44 #[.slice A n c, .slice (some ⟨g, 0, none⟩) n n, .int .i64 (j : Int)] w (Gives (.bool (!bad2 l j)) w)) := Lib.hid (by rw [← HN.out]; exact fun w h hb => c7_lands l A c j g _ w (HN.out.symm ▸ HL.out) h LT.out HX.out hb)
            cases hb : bad2 l j
            · rw [hb] at D SK
              have HE : Hid (fs l (bad2 l) (j + 1) = fs l (bad2 l) 0) := Lib.hid ((SK.out rfl).trans hf.out)
              clear SK FO hs hb
              go_wp2_with fail
              refine (D.out _ (HI.out.after Q.out.1) Q.out.2).mono ?_
              rintro e w7 ⟨rfl, b7⟩
              replace Q : Hid (Below w.heap.size w w7 ∧ bB g (sts false l) w7) := Lib.hid ⟨below_next' Q.out.1 b7, Q.out.2.after b7⟩
              clear b7 c1
              go_wp2_with fail
              go_round
              case rel => exact ⟨j + 1, by go_num, by omega, HE, Q⟩
              case measure => simp [intOf]; omega
            · rw [hb] at D
              have HE : Hid (a = (j : Int) ∧ b = 72) := Lib.hid (by
                have e1 := hf.out.symm.trans (FO.out hs hb)
                have e2 := HAB.out
                rw [chk_jump (HN.out.symm ▸ HF.out) N1.out e1] at e2
                injection e2 with e3 e4
                exact ⟨e3.symm, e4.symm⟩)
              clear SK FO hs hb
              go_wp2_with fail
              refine (D.out _ (HI.out.after Q.out.1) Q.out.2).mono ?_
              rintro e w7 ⟨rfl, b7⟩
              replace Q : Hid (Below w.heap.size w w7 ∧ bB g (sts false l) w7) := Lib.hid ⟨below_next' Q.out.1 b7, Q.out.2.after b7⟩
              clear b7 c1
              go_wp2_with fail
              go_ret2
              exact ⟨by rw [HE.out.1, HE.out.2]; rfl, Q.out.1⟩
        · have hjn : ¬ j < l.length := by rw [HN.out]; omega
          have N2 : Hid (fs l (bad2 l) 0 = none) := Lib.hid (hf.out.symm.trans (fs_out hjn))
          clear hf hjn
          go_wp2_with fail
          have L3 := Lib.hid (lst_zero (l := l) (HN.out.symm ▸ HP.out))
          refine (LA.out g _ Q.out.2).mono ?_
          rintro e w8 ⟨rfl, b8⟩
          replace Q : Hid (Below w.heap.size w w8 ∧ bB g (sts false l) w8) := Lib.hid ⟨below_next' Q.out.1 b8, Q.out.2.after b8⟩
          clear b8
          have EN := Lib.hid (chk_end (HN.out.symm ▸ HF.out) N1.out N2.out)
          generalize hk : lst l 0 0 = k at *
          have hkn : (k : Int) < n := by have := L3.out.2.2.1; rw [HN.out] at this; omega
          have hk0 : (0 : Int) ≤ k := by omega
          obtain ⟨gi, oi, hA, hgi, hc⟩ := (HI.out.after Q.out.1).at_ L3.out.2.2.1
          have D := Lib.hid (c7_ends _ (HX.out k L3.out.2.2.1))
          clear hk
          subst hA
          obtain ⟨c0, c1, c2, c3, c4⟩ := hc
          clear HI
          cases he : ends (iAt l k)
          · rw [he] at D
            have HE : Hid (a = (k : Int) ∧ b = 73) := Lib.hid (by
              have e2 := HAB.out
              rw [EN.out, he] at e2
              injection e2 with e3 e4
              exact ⟨e3.symm, e4.symm⟩)
            clear he EN L3
            go_wp2_with fail
            refine (D.out _).mono ?_
            rintro e w9 ⟨rfl, b9⟩
            have V := Lib.hid (below_next' Q.out.1 b9)
            clear b9 c0 c1 c2 c3 c4
            go_wp2_with fail
            go_ret2
            exact ⟨by rw [HE.out.1, HE.out.2]; rfl, V.out⟩
          · rw [he] at D
            have HE : Hid (a = 0 ∧ b = 0) := Lib.hid (by
              have e2 := HAB.out
              rw [EN.out, he] at e2
              injection e2 with e3 e4
              exact ⟨e3.symm, e4.symm⟩)
            clear he EN L3
            go_wp2_with fail
            refine (D.out _).mono ?_
            rintro e w9 ⟨rfl, b9⟩
            have V := Lib.hid (below_next' Q.out.1 b9)
            clear b9 c0 c1 c2 c3 c4
            go_wp2_with fail
            go_ret2
            exact ⟨by rw [HE.out.1, HE.out.2]; rfl, V.out⟩
theorem c7_Check (l : List Ins) (A : Option Addr) (c : Nat) (w : World) (hl : l.length ≤ 100000) (h : InsS w A l) (hx : OkAll l) :
    Calls Tryz.prog 20 #[.slice A l.length c] w (Gives (.tuple #[.int .i64 (chk l).1, .int .i64 (chk l).2]) w) := by
  cases hf : fitsB l.length
  · exact c7_Check_size l A c w hl hf _ _ rfl
  · exact c7_Check_fits l A c w hl h hx hf _ _ rfl
end Go.Proofs.YtlbhffdpklbhfaaGreat
