/-
  Layer 8's own Store and Area.
  Conditions: the numbers fit their kinds.
-/
import Derived.Test.YtempkpfcjonaaaaRef08b
import Derived.Test.YtempkpfcjonaaaaAppNone
namespace Go.Proofs.Ytempkpfcjonaaaa
open Go.RowKit
set_option linter.unusedVariables false
set_option linter.unusedSimpArgs false

theorem memW_same {w w' : World} {g : Nat} {M : PM} {F : Nat → Prop} {v : Value} (h : RepR w g M F) (b : Below w.heap.size w w') : MemW RepR g F M v w (.returned v) w' :=
  ⟨rfl, F, h.after b, Turn.of_below b, fun x hx => .inl hx⟩

set_option maxRecDepth 100000 in
set_option maxHeartbeats 2000000 in
theorem r8_Store_no (w : World) (g : Nat) (M : PM) (F : Nat → Prop) (at_ s n : Int) (h : RepR w g M F) (hf : fitsZ s = false) :
    Calls Try.prog 37 #[.pointer (some ⟨g, 0, none⟩), .int .u64 at_, .int .i64 s, .int .u64 n] w (MemW RepR g F M (.int .i64 1) w) := by
  have C := Lib.hid (r8_fits s)
  rw [hf] at C
  clear hf
  have H := Lib.hid h
  clear h
  go_enter Try.func37, Try.ntmps37
  go_wp2_with fail
  refine (C.out _).mono ?_
  rintro e w1 ⟨rfl, b1⟩
  have V := Lib.hid b1
  clear b1
  go_wp2_with fail
  go_ret
  exact memW_same H.out V.out

set_option maxRecDepth 100000 in
set_option maxHeartbeats 2000000 in
theorem r8_Store_out (w : World) (g : Nat) (M : PM) (F : Nat → Prop) (at_ s n : Int) (h : RepR w g M F) (ha : 0 ≤ at_ ∧ at_ ≤ 18446744073709551615) (hf : fitsZ s = true) (hw : pWh M at_ s = none) :
    Calls Try.prog 37 #[.pointer (some ⟨g, 0, none⟩), .int .u64 at_, .int .i64 s, .int .u64 n] w (MemW RepR g F M (.int .i64 80) w) := by
  have C := Lib.hid (r8_fits s)
  rw [hf] at C
  have hs : 0 ≤ s ∧ s ≤ 1024 := by
    unfold fitsZ at hf
    simp only [Bool.or_eq_true, beq_iff_eq] at hf
    omega
  have D := Lib.hid fun w' (b : Below w.heap.size w w') => r8_where w' g M F at_ s (h.after b) ha hs
  rw [hw, show (whI none).1 = -1 from rfl, show (whI none).2 = 0 from rfl] at D
  have H := Lib.hid h
  clear h hf hw
  go_enter Try.func37, Try.ntmps37
  go_wp2_with fail
  refine (C.out _).mono ?_
  rintro e w1 ⟨rfl, b1⟩
  have V := Lib.hid b1
  clear b1
  go_wp2_with fail
  refine (D.out _ V.out).mono ?_
  rintro e w2 ⟨rfl, b2⟩
  replace V := Lib.hid (below_next' V.out b2)
  clear b2
  go_wp2_with fail
  go_ret
  exact memW_same H.out V.out

set_option maxRecDepth 100000 in
set_option maxHeartbeats 4000000 in
theorem r8_Store_in (w : World) (g : Nat) (M : PM) (F : Nat → Prop) (at_ s n : Int) (h : RepR w g M F) (ha : 0 ≤ at_ ∧ at_ ≤ 18446744073709551615) (hf : fitsZ s = true) (hn : 0 ≤ n ∧ n ≤ 18446744073709551615) (k o : Nat) (hw : pWh M at_ s = some (k, o)) (R : PM × Int)
    (hR : (if (pAt M k).fx then (M, 82) else (M.set k (paSet (pAt M k) o s.toNat n), 0)) = R) :
    Calls Try.prog 37 #[.pointer (some ⟨g, 0, none⟩), .int .u64 at_, .int .i64 s, .int .u64 n] w (MemW RepR g F R.1 (.int .i64 R.2) w) := by
  have C := Lib.hid (r8_fits s)
  rw [hf] at C
  have hs : 0 ≤ s ∧ s ≤ 8 := by
    unfold fitsZ at hf
    simp only [Bool.or_eq_true, beq_iff_eq] at hf
    omega
  have D := Lib.hid fun w' (b : Below w.heap.size w w') => r8_where w' g M F at_ s (h.after b) ha ⟨hs.1, by omega⟩
  rw [hw, show (whI (some (k, o))).1 = (k : Int) from rfl, show (whI (some (k, o))).2 = (o : Int) from rfl] at D
  have H := Lib.hid h
  obtain ⟨vl, L, rfl, h⟩ := h
  obtain ⟨_, hk, _, hfit, _⟩ := pWh_some hw
  have hok := h.ok k hk
  rw [arM_len] at hk
  rw [arM_at] at hR hok hfit
  obtain ⟨hob, hbl, hb1024, _⟩ := hok
  have hfit2 := hfit hs.1
  obtain ⟨sn, rfl⟩ : ∃ sn : Nat, s = sn := ⟨s.toNat, by omega⟩
  have en : ((sn : Int)).toNat = sn := by omega
  rw [en] at hR hfit2
  have HR : Hid (∀ w', Below w.heap.size w w' → RepA w' g vl L F) := Lib.hid fun w' b => h.keep fun x hx => b.block x (h.lt hx)
  obtain ⟨Ab, cb, hvb, hcb1, hcb2⟩ := own_slice (h.own k hk).1
  obtain ⟨Ak, ck, hvk, hck1, hck2⟩ := own_slice (h.own k hk).2
  have s1 : 1 ≤ sn := by
    unfold fitsZ at hf
    simp only [Bool.or_eq_true, beq_iff_eq] at hf
    omega
  obtain ⟨gb, hAb, _, _⟩ := own_addr (by have := (h.own k hk).1; rw [hvb] at this; exact this) (by omega)
  obtain ⟨gk, hAk, _, _⟩ := own_addr (by have := (h.own k hk).2; rw [hvk] at this; exact this) (by omega)
  subst hAb
  subst hAk
  cases hfx : (arAt L k).a.fx
  · rw [hfx, if_neg Bool.false_ne_true] at hR
    subst hR
    have HVB := Lib.hid hvb
    have HVK := Lib.hid hvk
    have HBL := Lib.hid hbl
    have HFX := Lib.hid hfx
    have HEND : Hid (∀ w', (∃ b' bl', b' = putN (arAt L k).a.b o (leB n sn) ∧ bl' = putN (arAt L k).a.bl o (List.replicate sn false) ∧ RepA w' g vl (L.set k (arPut (arAt L k) b' bl')) F) → RepR w' g ((arM L).set k (paSet (arAt L k).a o sn n)) F) := Lib.hid (by
      rintro w' ⟨b', bl', rfl, rfl, hr⟩
      exact ⟨vl, _, (arM_put _ _).symm, hr⟩)
    dsimp only
    clear h hw hfit en hvb hvk hbl hfx hob hf
    unfold maxLen at hcb2 hck2
    generalize hlen : (arAt L k).a.b.length = lb at *
    have HLEN := Lib.hid hlen
    clear hlen
    go_enter Try.func37, Try.ntmps37
    go_wp2_with fail
    refine (C.out _).mono ?_
    rintro e w1 ⟨rfl, b1⟩
    have V := Lib.hid b1
    clear b1
    go_wp2_with fail
    refine (D.out _ V.out).mono ?_
    rintro e w2 ⟨rfl, b2⟩
    replace V := Lib.hid (below_next' V.out b2)
    have h2 := HR.out w2 V.out
    obtain ⟨A, c, rfl, k1, k2, hr⟩ := h2.rows
    have c0 := h2.cell
    obtain ⟨gl, rfl, hg, hc⟩ := hr (by omega)
    obtain ⟨_, _, _, c4⟩ := hc k hk
    rw [HFX.out] at c4
    have Q0 : Hid (Turn F w w2 ∧ RepA w2 g (.slice (some ⟨gl, 0, none⟩) L.length c) (L.set k (arPut (arAt L k) (arAt L k).a.b (arAt L k).a.bl)) F) := Lib.hid ⟨Turn.of_below V.out, by
      rw [arPut_self hk]
      exact h2⟩
    clear b2 h2 hr hc C D HR HFX
    go_wp2_with fail
    clear c0 c4
    go_loopw [3, 11] (fun nv iv wr => ∃ (j : Nat) (z : Int) (b' : List Int) (bl' : List Bool), iv = .int .i64 j ∧ nv = .int .u64 z ∧ j ≤ sn ∧ (0 ≤ z ∧ z ≤ 18446744073709551615) ∧ b'.length = lb ∧ bl'.length = lb ∧ Hid (putN b' (o + j) (leB z (sn - j)) = putN (arAt L k).a.b o (leB n sn) ∧ putN bl' (o + j) (List.replicate (sn - j) false) = putN (arAt L k).a.bl o (List.replicate sn false)) ∧ Hid (Turn F w wr ∧ RepA wr g (.slice (some ⟨gl, 0, none⟩) L.length c) (L.set k (arPut (arAt L k) b' bl')) F)) (fun nv iv wr => sn - (intOf iv).toNat)
    case atStart => exact ⟨0, n, (arAt L k).a.b, (arAt L k).a.bl, rfl, rfl, by omega, hn, HLEN.out, HBL.out, Lib.hid ⟨rfl, rfl⟩, Q0⟩
    case round =>
      clear Q0 hn
      obtain ⟨j, z, b', bl', rfl, rfl, hj, hz, hb', hbl', HP, Q⟩ := hrel
      have j0 : (0 : Int) ≤ j := by omega
      have o0 : (0 : Int) ≤ o := by omega
      by_cases hlt : (j : Int) < sn
      · obtain ⟨m, hm⟩ : ∃ m, sn - j = m + 1 := ⟨sn - j - 1, by omega⟩
        have hm2 : sn - (j + 1) = m := by omega
        have HP2 : Hid (putN (b'.set (o + j) (z % 256)) (o + (j + 1)) (leB (z / 256) (sn - (j + 1))) = putN (arAt L k).a.b o (leB n sn) ∧ putN (bl'.set (o + j) false) (o + (j + 1)) (List.replicate (sn - (j + 1)) false) = putN (arAt L k).a.bl o (List.replicate sn false)) := Lib.hid (by
          have hp := HP.out
          rw [hm, leB_succ, List.replicate_succ, putN_cons, putN_cons] at hp
          rw [hm2]
          exact hp)
        have hrow := Q.out.2.rowAt (k := k) (by rw [List.length_set]; exact hk)
        rw [arAt_set hk, if_pos rfl] at hrow
        obtain ⟨-, -, r1, r2, -⟩ := hrow
        have r1' := r1.trans (congrArg some HVB.out)
        have r2' := r2.trans (congrArg some HVK.out)
        have c0 := Q.out.2.cell
        have hown := Q.out.2.own k (by rw [List.length_set]; exact hk)
        rw [arAt_set hk, if_pos rfl] at hown
        have hv : 0 ≤ z % 256 ∧ z % 256 ≤ 255 := by omega
        obtain ⟨RS, fb, fk, n1, n2, n3⟩ := Q.out.2.step (j := o + j) hk (by omega) HVB.out HVK.out hv
        have QS := Lib.hid (And.intro ((Q.out.1.setCell (p := ⟨gb, o + j, none⟩) (Or.inl fb) (.int .u8 (z % 256))).setCell (p := ⟨gk, o + j, none⟩) (Or.inl fk) (.bool false)) RS)
        obtain ⟨hb1, hk1⟩ := hown
        simp only [arPut] at hb1 hk1
        rw [HVB.out, hb'] at hb1
        rw [HVK.out, hbl', HBL.out] at hk1
        have cb0 := hb1.cellAt (o + j) (by omega)
        rw [byC_at _ (by omega)] at cb0
        have ck0 := hk1.cellAt (o + j) (by omega)
        rw [boC_at _ (by omega)] at ck0
        have fb0 := hb1.frozenAt (o + j)
        have fk0 := hk1.frozenAt (o + j)
        clear hb1 hk1 r1 r2 fb fk RS hm hm2
        rw [HBL.out] at r2'
        generalize hzv : z % 256 = v at *
        go_wp2_with fail
        go_round
        case rel => exact ⟨j + 1, z / 256, b'.set (o + j) v, bl'.set (o + j) false, by go_num, rfl, by omega, by omega, by rw [List.length_set]; exact hb', by rw [List.length_set]; exact hbl', HP2, QS⟩
        case measure => simp [intOf]; omega
      · have hjs : sn - j = 0 := by omega
        have HM := Lib.hid (HEND.out wr ⟨b', bl', by have := HP.out.1; rw [hjs] at this; exact this, by have := HP.out.2; rw [hjs] at this; exact this, Q.out.2⟩)
        go_wp2_with fail
        go_ret
        exact ⟨rfl, F, HM.out, Q.out.1, fun x hx => .inl hx⟩
  · rw [hfx, if_pos rfl] at hR
    subst hR
    have HFX := Lib.hid hfx
    clear h hw hfit en hvb hvk hbl hfx hob hf
    go_enter Try.func37, Try.ntmps37
    go_wp2_with fail
    refine (C.out _).mono ?_
    rintro e w1 ⟨rfl, b1⟩
    have V := Lib.hid b1
    clear b1
    go_wp2_with fail
    refine (D.out _ V.out).mono ?_
    rintro e w2 ⟨rfl, b2⟩
    replace V := Lib.hid (below_next' V.out b2)
    have h2 := HR.out w2 V.out
    obtain ⟨A, c, rfl, k1, k2, hr⟩ := h2.rows
    have c0 := h2.cell
    obtain ⟨gl, rfl, hg, hc⟩ := hr (by omega)
    obtain ⟨_, _, _, c4⟩ := hc k hk
    rw [HFX.out] at c4
    clear b2 h2 hr hc C D HR HFX
    go_wp2_with fail
    go_ret
    exact memW_same H.out V.out

theorem r8_Store (w : World) (g : Nat) (M : PM) (F : Nat → Prop) (at_ s n : Int) (h : RepR w g M F) (ha : 0 ≤ at_ ∧ at_ ≤ 18446744073709551615) (hn : 0 ≤ n ∧ n ≤ 18446744073709551615) :
    Calls Try.prog 37 #[.pointer (some ⟨g, 0, none⟩), .int .u64 at_, .int .i64 s, .int .u64 n] w (MemW RepR g F (pStore M at_ s n).1 (.int .i64 (pStore M at_ s n).2) w) := by
  unfold pStore
  cases hf : fitsZ s
  · rw [if_neg Bool.false_ne_true]
    exact r8_Store_no w g M F at_ s n h hf
  · rw [if_pos rfl]
    cases hw : pWh M at_ s with
    | none => exact r8_Store_out w g M F at_ s n h ha hf hw
    | some p =>
      obtain ⟨k, o⟩ := p
      exact r8_Store_in w g M F at_ s n h ha hf hn k o hw _ rfl

set_option maxRecDepth 100000 in
set_option maxHeartbeats 2000000 in
theorem r8_Area (w : World) (g : Nat) (M : PM) (F : Nat → Prop) (i : Int) (h : RepR w g M F) :
    Calls Try.prog 21 #[.pointer (some ⟨g, 0, none⟩), .int .i64 i] w
      (fun e w' => ∃ A c, e = .returned (.tuple #[.slice A (pArea M i).1.length c, .bool (pArea M i).2]) ∧ BytS w' A (pArea M i).1 ∧ (pArea M i).1.length ≤ c ∧ c ≤ maxLen ∧ Below w.heap.size w w') := by
  have C := Lib.hid (r8_find w g M F i h)
  obtain ⟨vl, L, rfl, h⟩ := h
  have HR : Hid (∀ w', Below w.heap.size w w' → RepA w' g vl L F) := Lib.hid fun w' b => h.keep fun x hx => b.block x (h.lt hx)
  unfold pArea
  cases hx : pIx (arM L) i with
  | none =>
    rw [hx] at C
    rw [show ixI none = -1 from rfl] at C
    clear hx h
    dsimp only
    go_enter Try.func21, Try.ntmps21
    go_wp2_with fail
    refine (C.out).mono ?_
    rintro e w1 ⟨rfl, b1⟩
    have V := Lib.hid b1
    clear b1
    go_wp2_with fail
    go_ret2
    exact ⟨none, 0, rfl, BytS.none_ _ _, Nat.le_refl _, Nat.zero_le _, V.out⟩
  | some k =>
    rw [hx] at C
    rw [show ixI (some k) = (k : Int) from rfl] at C
    have hk := (pIx_some hx).1
    rw [arM_len] at hk
    obtain ⟨Ab, cb, hvb, hcb1, hcb2⟩ := own_slice (h.own k hk).1
    have HVB := Lib.hid hvb
    have HCB := Lib.hid (And.intro hcb1 hcb2)
    clear hx h hvb hcb1 hcb2
    have e0 : (pAt (arM L) k).b = (arAt L k).a.b := by rw [arM_at]
    dsimp only
    rw [e0]
    clear e0
    have hkI : (0 : Int) ≤ k := by omega
    go_enter Try.func21, Try.ntmps21
    go_wp2_with fail
    refine (C.out).mono ?_
    rintro e w1 ⟨rfl, b1⟩
    have V := Lib.hid b1
    have h1 := HR.out w1 b1
    obtain ⟨A, c, rfl, k1, k2, hr⟩ := h1.rows
    have c0 := h1.cell
    obtain ⟨gl, rfl, hg, hc⟩ := hr (by omega)
    obtain ⟨-, c2, -, -⟩ := hc k hk
    rw [HVB.out] at c2
    have BS := Lib.hid (own_bytS rfl (by have := (h1.own k hk).1; rw [HVB.out] at this; exact this))
    clear b1 h1 hr hc C HR
    go_wp2_with fail
    go_ret2
    exact ⟨Ab, cb, rfl, BS.out, HCB.out.1, HCB.out.2, V.out⟩


end Go.Proofs.Ytempkpfcjonaaaa
