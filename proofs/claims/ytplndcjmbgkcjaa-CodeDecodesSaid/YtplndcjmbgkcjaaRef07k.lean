/-
  The document's own answers of layer 7: where, and why, instructions are no program.
  Conditions: the numbers fit their kinds.
-/
import Derived.Test.YtplndcjmbgkcjaaCode8
import Derived.Test.YtplndcjmbgkcjaaRef07h
import Derived.Test.YtplndcjmbgkcjaaCodeChk
import Derived.LoopTactic
namespace Go.Proofs.Ytplndcjmbgkcjaa
open Go.RowKit
set_option linter.unusedVariables false
set_option linter.unusedSimpArgs false

theorem fb_skip {l : List Ins} {P : Nat → Bool} {j : Nat} (hj : j < l.length) (h : P j = false) : fb l P (nxt l j) = fb l P j := by
  rw [fb_in hj, h, if_neg Bool.false_ne_true]
theorem fb_found {l : List Ins} {P : Nat → Bool} {j : Nat} (hj : j < l.length) (h : P j = true) : fb l P j = some j := by
  rw [fb_in hj, h, if_pos rfl]
theorem bne_of2 {a b : Int} {r : Bool} (h : (a == b) = r) : (a != b) = !r := by unfold bne; rw [h]

set_option maxRecDepth 100000 in
set_option maxHeartbeats 2000000 in
theorem r7_Check_size (l : List Ins) (A : Option Addr) (c : Nat) (w : World) (hl : l.length ≤ 100000) (hf : fitsB l.length = false) (a b : Int) (hab : chk l = (a, b)) :
    Calls Try.prog 17 #[.slice A l.length c] w (Gives (.tuple #[.int .i64 a, .int .i64 b]) w) := by
  rw [chk_size hf] at hab
  injection hab with h1 h2
  subst h1 h2
  have hz : l.length = 0 ∨ 512 < l.length := by
    unfold fitsB at hf
    by_cases h0 : (0 : Int) < l.length
    · rw [decide_eq_true h0, Bool.true_and] at hf
      have := of_decide_eq_false hf
      omega
    · omega
  clear hf
  generalize l.length = n at *
  by_cases h0 : n = 0
  · subst h0
    clear hz
    go_enter Try.func17, Try.ntmps17
    go_wp2_with fail
    go_ret2
    exact ⟨rfl, Below.refl _ _⟩
  · have h1 : (512 : Int) < n := by omega
    have h2 : ((n : Int) == 0) = false := beq_false_of_ne (by omega)
    clear hz h0
    go_enter Try.func17, Try.ntmps17
    go_wp2_with fail
    go_ret2
    exact ⟨rfl, Below.refl _ _⟩

set_option maxRecDepth 100000 in
set_option maxHeartbeats 2000000 in
theorem r7_Check_fits (l : List Ins) (A : Option Addr) (c : Nat) (w : World) (hl : l.length ≤ 100000) (h : InsS w A l) (hx : OkAll l) (hf : fitsB l.length = true) (a b : Int) (hab : chk l = (a, b)) :
    Calls Try.prog 17 #[.slice A l.length c] w (Gives (.tuple #[.int .i64 a, .int .i64 b]) w) := by
  obtain ⟨hpos, hle⟩ := fits_len hf
  have S := Lib.hid fun w h => r7_Starts l A c w hl h
  have NX := Lib.hid fun i w h => r7_Next l A c i w hl h
  have HI := Lib.hid h
  have HX := Lib.hid hx
  have HF := Lib.hid hf
  have HAB := Lib.hid hab
  have HL := Lib.hid hl
  have HP := Lib.hid hpos
  clear h hx hf hab
  generalize hn : l.length = n at *
  have HN := Lib.hid hn
  clear hn hl
  have hn0 : (0 : Int) ≤ n := by omega
  have h512 : (n : Int) ≤ 512 := by omega
  have hz : ((n : Int) == 0) = false := beq_false_of_ne (by omega)
  clear hpos hle
  go_enter Try.func17, Try.ntmps17
  go_wp2_with fail
  have Q0 : Hid (Below w.heap.size w w) := Lib.hid (Below.refl _ _)
  go_loopw [4, 5] (fun la i wr => ∃ d p : Nat, la = .int .i64 d ∧ i = .int .i64 p ∧ p ≤ n + 1 ∧ Hid (fb l (bad1 l) p = fb l (bad1 l) 0 ∧ lst l p d = lst l 0 0) ∧ Hid (Below w.heap.size w wr)) (fun la i wr => n + 2 - (intOf i).toNat)
  case atStart => exact ⟨0, 0, rfl, rfl, by omega, Lib.hid ⟨rfl, rfl⟩, Q0⟩
  case round =>
    clear Q0
    obtain ⟨d, p, rfl, rfl, hp, hf, Q⟩ := hrel
    have hp0 : (0 : Int) ≤ p := by omega
    by_cases hlt : (p : Int) < n
    · have LT : Hid (p < l.length) := Lib.hid (by rw [HN.out]; omega)
      obtain ⟨gi, oi, hA, hgi, hc⟩ := (HI.out.after Q.out).at_ LT.out
      have HC := Lib.hid hc
      clear hc
      have C := Lib.hid (r7_What _ (HX.out p LT.out))
      have HH : Hid (∀ w, InsS w A l → Calls Try.prog 38 #[.slice A n c, .int .i64 (p : Int), whV (wOf (iAt l p))] w (Gives (.bool (halfB l p)) w)) := Lib.hid (by
        rw [halfB_eq, ← HN.out]; exact fun w h => r7_half l A c p _ w (HN.out.symm ▸ HL.out) h LT.out)
      have D := Lib.hid (NX.out p)
      rw [nextOf_in LT.out] at D
      have SK := Lib.hid (fb_skip (P := bad1 l) LT.out)
      have FO := Lib.hid (fb_found (P := bad1 l) LT.out)
      have LS := Lib.hid (lst_in (d := d) LT.out)
      have hb0 : bad1 l p = (!(wOk (iAt l p)) || !(halfB l p)) := rfl
      generalize wOf (iAt l p) = v at *
      have HE : Hid (bad1 l p = true → a = (p : Int) ∧ b = 71) := Lib.hid (fun hb => by
        have e1 := hf.out.1.symm.trans (FO.out hb)
        have e2 := HAB.out
        rw [chk_insn (HN.out.symm ▸ HF.out) ((fs_zero l _).trans e1)] at e2
        injection e2 with e3 e4
        exact ⟨e3.symm, e4.symm⟩)
      subst hA
      generalize hb : bad1 l p = bb at *
      clear FO
      cases hk : wOk (iAt l p)
      · rw [hk] at C hb0
        have E : Hid (a = (p : Int) ∧ b = 71) := Lib.hid (HE.out hb0)
        clear HE hb0 hb SK LS hf D HH hk
        obtain ⟨c0, c1, c2, c3, c4⟩ := HC.out
        go_wp2_with fail
        clear c0 c1 c2 c3 c4
        refine (C.out _).mono ?_
        rintro e w7 ⟨rfl, b7⟩
        have V := Lib.hid (below_alloc (below_next' Q.out b7) (.cells (whCells v) 26))
        clear b7
        go_wp2_with fail
        go_ret2
        exact ⟨by rw [E.out.1, E.out.2]; rfl, V.out⟩
      rw [hk] at C hb0
      cases hh : halfB l p
      · rw [hh] at HH hb0
        have E : Hid (a = (p : Int) ∧ b = 71) := Lib.hid (HE.out hb0)
        clear HE hb0 hb SK LS hf D hh hk
        obtain ⟨c0, c1, c2, c3, c4⟩ := HC.out
        go_wp2_with fail
        clear c0 c1 c2 c3 c4
        refine (C.out _).mono ?_
        rintro e w7 ⟨rfl, b7⟩
        have V := Lib.hid (below_alloc (below_next' Q.out b7) (.cells (whCells v) 26))
        clear b7
        go_wp2_with fail
        refine (HH.out _ (HI.out.after V.out)).mono ?_
        rintro e w8 ⟨rfl, b8⟩
        replace V := Lib.hid (below_next' V.out b8)
        clear b8
        go_wp2_with fail
        go_ret2
        exact ⟨by rw [E.out.1, E.out.2]; rfl, V.out⟩
      · rw [hh] at HH hb0
        have HR : Hid (fb l (bad1 l) (nxt l p) = fb l (bad1 l) 0 ∧ lst l (nxt l p) p = lst l 0 0) := Lib.hid ⟨(SK.out hb0).trans hf.out.1, LS.out.symm.trans hf.out.2⟩
        have l1 := nxt_lt l p
        have l2 := nxt_le l p
        have L1 := Lib.hid l1
        have L2 := Lib.hid l2
        clear HE hb0 hb SK LS hf hh hk l1 l2
        obtain ⟨c0, c1, c2, c3, c4⟩ := HC.out
        go_wp2_with fail
        clear c0 c1 c2 c3 c4
        refine (C.out _).mono ?_
        rintro e w7 ⟨rfl, b7⟩
        have V := Lib.hid (below_alloc (below_next' Q.out b7) (.cells (whCells v) 26))
        clear b7
        go_wp2_with fail
        refine (HH.out _ (HI.out.after V.out)).mono ?_
        rintro e w8 ⟨rfl, b8⟩
        replace V := Lib.hid (below_next' V.out b8)
        clear b8
        go_wp2_with fail
        refine (D.out _ (HI.out.after V.out)).mono ?_
        rintro e w9 ⟨rfl, b9⟩
        replace V := Lib.hid (below_next' V.out b9)
        clear b9 D
        generalize nxt l p = q at *
        have L3 := L1.out
        have L4 := L2.out
        go_wp2_with fail
        go_round
        case rel => exact ⟨p, q, rfl, rfl, by omega, HR, V⟩
        case measure => simp [intOf]; omega
    · have hpn : ¬ p < l.length := by rw [HN.out]; omega
      have N1 : Hid (fs l (bad1 l) 0 = none) := Lib.hid ((fs_zero l _).trans (hf.out.1.symm.trans (fb_out hpn)))
      have LD : Hid (lst l 0 0 = d) := Lib.hid (hf.out.2.symm.trans (lst_out hpn))
      clear hf hpn
      go_wp2_with fail
      refine (S.out _ (HI.out.after Q.out)).mono ?_
      rintro e w6 ⟨g, rfl, hg, hb6, b6⟩
      replace Q : Hid (Below w.heap.size w w6 ∧ bB g (sts false l) w6) := Lib.hid ⟨below_next' Q.out b6, hb6⟩
      clear b6 hb6 hg S
      rw [show (sts false l).length = n by rw [sts_len, HN.out]]
      go_wp2_with fail
      clear hp0 hlt hp
      go_loopw [9] (fun i wr => ∃ p : Nat, i = .int .i64 p ∧ p ≤ n + 1 ∧ Hid (fb l (bad2 l) p = fb l (bad2 l) 0) ∧ Hid (Below w.heap.size w wr ∧ bB g (sts false l) wr)) (fun i wr => n + 2 - (intOf i).toNat)
      case atStart => exact ⟨0, rfl, by omega, Lib.hid rfl, Q⟩
      case round =>
        clear Q
        obtain ⟨p, rfl, hp, hf, Q⟩ := hrel
        have hp0 : (0 : Int) ≤ p := by omega
        by_cases hlt : (p : Int) < n
        · have LT : Hid (p < l.length) := Lib.hid (by rw [HN.out]; omega)
          have HT : Hid (∀ w, InsS w A l → Calls Try.prog 39 #[.slice A n c, .int .i64 (p : Int)] w (Gives (.tuple #[.int .i64 (toOf (iAt l p) p), .bool (jumpy (iAt l p))]) w)) := Lib.hid (by
            rw [← HN.out]; exact fun w h => r7_to l A c p w (HN.out.symm ▸ HL.out) h LT.out (HX.out p LT.out))
          have D := Lib.hid (NX.out p)
          rw [nextOf_in LT.out] at D
          have SK := Lib.hid (fb_skip (P := bad2 l) LT.out)
          have hb0 : bad2 l p = (jumpy (iAt l p) && !(inL l (toOf (iAt l p) p) && stAt l (toOf (iAt l p) p).toNat)) := rfl
          have HE : Hid (bad2 l p = true → a = (p : Int) ∧ b = 72) := Lib.hid (fun hb => by
            have e1 := hf.out.symm.trans (fb_found LT.out hb)
            have e2 := HAB.out
            rw [chk_jump (HN.out.symm ▸ HF.out) N1.out ((fs_zero l _).trans e1)] at e2
            injection e2 with e3 e4
            exact ⟨e3.symm, e4.symm⟩)
          have HS : Hid (∀ m : Nat, m < n → ∀ u, bB g (sts false l) u → u.cell? ⟨g, m, none⟩ = some (.bool (stAt l m))) := Lib.hid (fun m hm u hu => hu.cell (stAt_get (by rw [HN.out]; exact hm)))
          have eL : ∀ t : Int, inL l t = (decide (0 ≤ t) && decide (t < (n : Int))) := fun t => by unfold inL; rw [HN.out]
          rw [eL] at hb0
          clear eL
          have hr := toOf_rng (HX.out p LT.out) p (by omega)
          generalize hb : bad2 l p = bb at *
          generalize toOf (iAt l p) p = t at *
          generalize jumpy (iAt l p) = j at *
          cases j
          · have HR : Hid (fb l (bad2 l) (nxt l p) = fb l (bad2 l) 0) := Lib.hid ((SK.out hb0).trans hf.out)
            clear HE hb0 hb SK hf HS
            go_wp2_with fail
            refine (HT.out _ (HI.out.after Q.out.1)).mono ?_
            rintro e w7 ⟨rfl, b7⟩
            replace Q : Hid (Below w.heap.size w w7 ∧ bB g (sts false l) w7) := Lib.hid ⟨below_next' Q.out.1 b7, Q.out.2.after b7⟩
            clear b7
            have l1 := nxt_lt l p
            have l2 := nxt_le l p
            have L1 := Lib.hid l1
            have L2 := Lib.hid l2
            clear l1 l2
            go_wp2_with fail
            refine (D.out _ (HI.out.after Q.out.1)).mono ?_
            rintro e w9 ⟨rfl, b9⟩
            replace Q : Hid (Below w.heap.size w w9 ∧ bB g (sts false l) w9) := Lib.hid ⟨below_next' Q.out.1 b9, Q.out.2.after b9⟩
            clear b9 D
            generalize nxt l p = q at *
            have L3 := L1.out
            have L4 := L2.out
            go_wp2_with fail
            go_round
            case rel => exact ⟨q, rfl, by omega, HR, Q⟩
            case measure => simp [intOf]; omega
          rw [Bool.true_and] at hb0
          by_cases t0 : 0 ≤ t
          rotate_left 1
          · rw [decide_eq_false t0] at hb0
            have t1 : t < 0 := by omega
            have E : Hid (a = (p : Int) ∧ b = 72) := Lib.hid (HE.out hb0)
            clear HE hb0 hb SK hf HS t0
            go_wp2_with fail
            refine (HT.out _ (HI.out.after Q.out.1)).mono ?_
            rintro e w7 ⟨rfl, b7⟩
            replace Q : Hid (Below w.heap.size w w7 ∧ bB g (sts false l) w7) := Lib.hid ⟨below_next' Q.out.1 b7, Q.out.2.after b7⟩
            clear b7
            go_wp2_with fail
            go_ret2
            exact ⟨by rw [E.out.1, E.out.2]; rfl, Q.out.1⟩
          by_cases t1 : t < (n : Int)
          rotate_left 1
          · rw [decide_eq_false t1, Bool.and_false] at hb0
            have t2 : (n : Int) ≤ t := by omega
            have E : Hid (a = (p : Int) ∧ b = 72) := Lib.hid (HE.out hb0)
            clear HE hb0 hb SK hf HS t1
            go_wp2_with fail
            refine (HT.out _ (HI.out.after Q.out.1)).mono ?_
            rintro e w7 ⟨rfl, b7⟩
            replace Q : Hid (Below w.heap.size w w7 ∧ bB g (sts false l) w7) := Lib.hid ⟨below_next' Q.out.1 b7, Q.out.2.after b7⟩
            clear b7
            go_wp2_with fail
            go_ret2
            exact ⟨by rw [E.out.1, E.out.2]; rfl, Q.out.1⟩
          obtain ⟨m, rfl⟩ : ∃ m : Nat, t = m := ⟨t.toNat, by omega⟩
          rw [decide_eq_true t0, decide_eq_true t1, Bool.true_and, Bool.true_and, show ((m : Int)).toNat = m by omega] at hb0
          have HM := Lib.hid (HS.out m (by omega))
          clear HS
          generalize stAt l m = s at *
          cases s
          · have E : Hid (a = (p : Int) ∧ b = 72) := Lib.hid (HE.out hb0)
            clear HE hb0 hb SK hf
            go_wp2_with fail
            refine (HT.out _ (HI.out.after Q.out.1)).mono ?_
            rintro e w7 ⟨rfl, b7⟩
            replace Q : Hid (Below w.heap.size w w7 ∧ bB g (sts false l) w7) := Lib.hid ⟨below_next' Q.out.1 b7, Q.out.2.after b7⟩
            clear b7
            have m1 := HM.out _ Q.out.2
            go_wp2_with fail
            go_ret2
            exact ⟨by rw [E.out.1, E.out.2]; rfl, Q.out.1⟩
          · have HR : Hid (fb l (bad2 l) (nxt l p) = fb l (bad2 l) 0) := Lib.hid ((SK.out hb0).trans hf.out)
            clear HE hb0 hb SK hf
            go_wp2_with fail
            refine (HT.out _ (HI.out.after Q.out.1)).mono ?_
            rintro e w7 ⟨rfl, b7⟩
            replace Q : Hid (Below w.heap.size w w7 ∧ bB g (sts false l) w7) := Lib.hid ⟨below_next' Q.out.1 b7, Q.out.2.after b7⟩
            clear b7
            have m1 := HM.out _ Q.out.2
            have l1 := nxt_lt l p
            have l2 := nxt_le l p
            have L1 := Lib.hid l1
            have L2 := Lib.hid l2
            clear l1 l2
            go_wp2_with fail
            refine (D.out _ (HI.out.after Q.out.1)).mono ?_
            rintro e w9 ⟨rfl, b9⟩
            replace Q : Hid (Below w.heap.size w w9 ∧ bB g (sts false l) w9) := Lib.hid ⟨below_next' Q.out.1 b9, Q.out.2.after b9⟩
            clear b9 D
            generalize nxt l p = q at *
            have L3 := L1.out
            have L4 := L2.out
            go_wp2_with fail
            go_round
            case rel => exact ⟨q, rfl, by omega, HR, Q⟩
            case measure => simp [intOf]; omega
        · have hpn : ¬ p < l.length := by rw [HN.out]; omega
          have N2 : Hid (fs l (bad2 l) 0 = none) := Lib.hid ((fs_zero l _).trans (hf.out.symm.trans (fb_out hpn)))
          have L3 := Lib.hid (lst_zero (l := l) (HN.out.symm ▸ HP.out))
          have EN := Lib.hid (chk_end (HN.out.symm ▸ HF.out) N1.out N2.out)
          rw [LD.out] at L3 EN
          clear hf hpn
          have hdn : (d : Int) < n := by have := L3.out.2.2.1; rw [HN.out] at this; omega
          have hd0 : (0 : Int) ≤ d := by omega
          obtain ⟨gi, oi, hA, hgi, hc⟩ := (HI.out.after Q.out.1).at_ L3.out.2.2.1
          have C := Lib.hid (r7_What _ (HX.out d L3.out.2.2.1))
          have HC := Lib.hid hc
          clear hc
          subst hA
          clear HI
          have HE : Hid (ends (iAt l d) = false → a = (d : Int) ∧ b = 73) := Lib.hid (fun he => by
            have e2 := HAB.out
            rw [EN.out, he] at e2
            injection e2 with e3 e4
            exact ⟨e3.symm, e4.symm⟩)
          have HO : Hid (ends (iAt l d) = true → a = 0 ∧ b = 0) := Lib.hid (fun he => by
            have e2 := HAB.out
            rw [EN.out, he] at e2
            injection e2 with e3 e4
            exact ⟨e3.symm, e4.symm⟩)
          have he : ends (iAt l d) = ((wOf (iAt l d)).kind == 12 || (wOf (iAt l d)).kind == 9) := rfl
          generalize ends (iAt l d) = en at *
          generalize wOf (iAt l d) = v at *
          clear EN L3
          obtain ⟨c0, c1, c2, c3, c4⟩ := HC.out
          rcases or_ways (v.kind == 12) (v.kind == 9) with k1 | ⟨k1, k2⟩ | ⟨k1, k2⟩
          · rw [k1, Bool.true_or] at he
            have E := Lib.hid (HO.out he)
            have n1 := bne_of2 k1
            clear HE HO he k1
            go_wp2_with fail
            refine (C.out _).mono ?_
            rintro e w9 ⟨rfl, b9⟩
            have V := Lib.hid (below_alloc (below_next' Q.out.1 b9) (.cells (whCells v) 26))
            clear b9 c0 c1 c2 c3 c4
            go_wp2_with fail
            go_ret2
            exact ⟨by rw [E.out.1, E.out.2]; rfl, V.out⟩
          · rw [k1, k2, Bool.false_or] at he
            have E := Lib.hid (HO.out he)
            have n1 := bne_of2 k1
            have n2 := bne_of2 k2
            clear HE HO he k1 k2
            go_wp2_with fail
            refine (C.out _).mono ?_
            rintro e w9 ⟨rfl, b9⟩
            have V := Lib.hid (below_alloc (below_next' Q.out.1 b9) (.cells (whCells v) 26))
            clear b9 c0 c1 c2 c3 c4
            go_wp2_with fail
            go_ret2
            exact ⟨by rw [E.out.1, E.out.2]; rfl, V.out⟩
          · rw [k1, k2, Bool.false_or] at he
            have E := Lib.hid (HE.out he)
            have n1 := bne_of2 k1
            have n2 := bne_of2 k2
            clear HE HO he k1 k2
            go_wp2_with fail
            refine (C.out _).mono ?_
            rintro e w9 ⟨rfl, b9⟩
            have V := Lib.hid (below_alloc (below_next' Q.out.1 b9) (.cells (whCells v) 26))
            clear b9 c0 c1 c2 c3 c4
            go_wp2_with fail
            go_ret2
            exact ⟨by rw [E.out.1, E.out.2]; rfl, V.out⟩

theorem r7_Check (l : List Ins) (A : Option Addr) (c : Nat) (w : World) (hl : l.length ≤ 100000) (h : InsS w A l) (hx : OkAll l) :
    Calls Try.prog 17 #[.slice A l.length c] w (Gives (.tuple #[.int .i64 (chk l).1, .int .i64 (chk l).2]) w) := by
  cases hf : fitsB l.length
  · exact r7_Check_size l A c w hl hf _ _ rfl
  · exact r7_Check_fits l A c w hl h hx hf _ _ rfl

end Go.Proofs.Ytplndcjmbgkcjaa
