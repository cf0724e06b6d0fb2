/-
  Layer 8's own Read.
  Conditions: the numbers fit their kinds.
-/
import Derived.Test.YtegmhbflgceecaaRef08b
import Derived.Test.YtegmhbflgceecaaAppNone
namespace Go.Proofs.Ytegmhbflgceecaa
open Go.RowKit
set_option linter.unusedVariables false
set_option linter.unusedSimpArgs false

set_option maxRecDepth 100000 in
set_option maxHeartbeats 2000000 in
theorem r8_Read_no (w : World) (g : Nat) (M : PM) (F : Nat → Prop) (at_ s : Int) (hs : s < 0 ∨ 1024 < s) :
    Calls Try.prog 19 #[.pointer (some ⟨g, 0, none⟩), .int .u64 at_, .int .i64 s] w (ByteW ([], 1) w) := by
  rcases hs with hs | hs
  · go_enter Try.func19, Try.ntmps19
    go_wp2_with fail
    go_ret2
    exact byteW_none 1 (Below.refl _ _)
  · have hs0 : (0 : Int) ≤ s := by omega
    go_enter Try.func19, Try.ntmps19
    go_wp2_with fail
    go_ret2
    exact byteW_none 1 (Below.refl _ _)

set_option maxRecDepth 100000 in
set_option maxHeartbeats 2000000 in
theorem r8_Read_out (w : World) (g : Nat) (M : PM) (F : Nat → Prop) (at_ s : Int) (h : RepR w g M F) (ha : 0 ≤ at_ ∧ at_ ≤ 18446744073709551615) (hs : 0 ≤ s ∧ s ≤ 1024) (hw : pWh M at_ s = none) :
    Calls Try.prog 19 #[.pointer (some ⟨g, 0, none⟩), .int .u64 at_, .int .i64 s] w (ByteW ([], 80) w) := by
  have C := Lib.hid (r8_where w g M F at_ s h ha hs)
  rw [hw, show (whI none).1 = -1 from rfl, show (whI none).2 = 0 from rfl] at C
  clear hw h
  go_enter Try.func19, Try.ntmps19
  go_wp2_with fail
  refine (C.out).mono ?_
  rintro e w1 ⟨rfl, b1⟩
  have V := Lib.hid b1
  clear b1
  go_wp2_with fail
  go_ret2
  exact byteW_none 80 V.out

set_option maxRecDepth 100000 in
set_option maxHeartbeats 2000000 in
theorem r8_Read_in (w : World) (g : Nat) (M : PM) (F : Nat → Prop) (at_ s : Int) (h : RepR w g M F) (ha : 0 ≤ at_ ∧ at_ ≤ 18446744073709551615) (hs : 0 ≤ s ∧ s ≤ 1024) (k o : Nat) (hw : pWh M at_ s = some (k, o)) (R : List Int × Int)
    (hR : (if blankB (pAt M k) o s.toNat then ([], 81) else (((pAt M k).b.drop o).take s.toNat, 0)) = R) :
    Calls Try.prog 19 #[.pointer (some ⟨g, 0, none⟩), .int .u64 at_, .int .i64 s] w (ByteW R w) := by
  have C := Lib.hid (r8_where w g M F at_ s h ha hs)
  rw [hw, show (whI (some (k, o))).1 = (k : Int) from rfl, show (whI (some (k, o))).2 = (o : Int) from rfl] at C
  obtain ⟨vl, L, rfl, h⟩ := h
  obtain ⟨_, hk, _, hfit, _⟩ := pWh_some hw
  have hok := h.ok k hk
  rw [arM_len] at hk
  rw [arM_at] at hR hok hfit
  obtain ⟨hob, hbl, hb1024, _⟩ := hok
  have hfit2 := hfit hs.1
  obtain ⟨sn, rfl⟩ : ∃ sn : Nat, s = sn := ⟨s.toNat, by omega⟩
  have en : ((sn : Int)).toNat = sn := by omega
  rw [en] at hR hfit2
  have HR : Hid (∀ w', Below w.heap.size w w' → RepA w' g vl L F) := Lib.hid fun w' b => h.keep fun x hx => b.block x (h.lt hx)
  obtain ⟨Ab, cb, hvb, hcb1, hcb2⟩ := own_slice (h.own k hk).1
  obtain ⟨Ak, ck, hvk, hck1, hck2⟩ := own_slice (h.own k hk).2
  clear h hw hfit en
  have HVB := Lib.hid hvb
  have HVK := Lib.hid hvk
  have HRR := Lib.hid hR
  have HBL := Lib.hid hbl
  have HO := Lib.hid hob
  clear hvb hvk hR hob
  rw [hbl] at hck1 HVK
  clear hbl
  unfold maxLen at hcb2 hck2
  generalize hlen : (arAt L k).a.b.length = lb at *
  have HLEN := Lib.hid hlen
  clear hlen
  have o0 : (0 : Int) ≤ o := by omega
  obtain ⟨i0, hi, hz, h1, h2⟩ := info_parts (show (Try.prog.info? 5).map (fun i => (i.zero, i.size, i.bytes)) = some (some (.int .u8 0), 1, 1) by kernel_rfl)
  have HINF := Lib.hid (And.intro hi (And.intro hz (And.intro h1 h2)))
  clear hi hz h1 h2
  go_enter Try.func19, Try.ntmps19
  go_wp2_with fail
  refine (C.out).mono ?_
  rintro e w1 ⟨rfl, b1⟩
  have V := Lib.hid b1
  have h1 := HR.out w1 b1
  obtain ⟨A, c, rfl, k1, k2, hr⟩ := h1.rows
  have c0 := h1.cell
  obtain ⟨gl, rfl, hg, hc⟩ := hr (by omega)
  obtain ⟨_, c2, c3, _⟩ := hc k hk
  rw [HVB.out] at c2
  rw [HVK.out] at c3
  have OB := Lib.hid (h1.own k hk).1
  have OK := Lib.hid (h1.own k hk).2
  rw [HVB.out, HLEN.out] at OB
  rw [HVK.out, HBL.out] at OK
  clear b1 h1 hr hc C HR HVB HVK
  go_wp2_with fail
  go_loop [10] (fun v => ∃ j : Nat, v = .int .i64 j ∧ o ≤ j ∧ j ≤ o + sn ∧ Hid (∀ t, o ≤ t → t < j → (arAt L k).a.bl.getD t false = false)) (fun v => o + sn - (intOf v).toNat)
  case atStart => exact ⟨o, rfl, by omega, by omega, Lib.hid fun t h1 h2 => by omega⟩
  case round =>
    obtain ⟨j, rfl, hoj, hj, HT⟩ := hrel
    have hj0 : (0 : Int) ≤ j := by omega
    by_cases hlt : (j : Int) < (o : Int) + sn
    · obtain ⟨gk, rfl, _, hgk⟩ := own_addr OK.out (by omega)
      have ck0 := OK.out.cellAt j (by omega)
      rw [boC_at _ (by rw [HBL.out]; omega)] at ck0
      cases hbit : (arAt L k).a.bl.getD j false
      · have HT2 : Hid (∀ t, o ≤ t → t < j + 1 → (arAt L k).a.bl.getD t false = false) := Lib.hid fun t h1 h2 => by
          by_cases e : t = j
          · rw [e]; exact hbit
          · exact HT.out t h1 (by omega)
        rw [hbit] at ck0
        clear hbit
        go_wp2_with fail
        go_round
        case rel => exact ⟨j + 1, by go_num, by omega, by omega, HT2⟩
        case measure => simp [intOf]; omega
      · have HE : Hid (R = ([], 81)) := Lib.hid (by
          rw [← HRR.out]
          unfold blankB
          rw [blank_some hoj (by omega) hbit, if_pos rfl])
        rw [hbit] at ck0
        clear hbit
        go_wp2_with fail
        go_ret2
        rw [HE.out]
        exact byteW_none 81 V.out
    · have hjs : j = o + sn := by omega
      have HE : Hid (R = (((arAt L k).a.b.drop o).take sn, 0)) := Lib.hid (by
        rw [← HRR.out]
        unfold blankB
        rw [blank_all.mpr (fun t h1 h2 => HT.out t h1 (by omega)), if_neg Bool.false_ne_true])
      have hge : (o : Int) + sn ≤ j := by omega
      clear HT hjs hj
      have d0 := cell_alloc c0 (.cells #[] 5)
      have d2 := cell_alloc c2 (.cells #[] 5)
      clear c0 c2 c3
      by_cases hz : sn = 0
      · subst hz
        have hz' := append_none (P := Try.prog) (w1.alloc (.cells #[] 5)) 32 32 5 i0 Try.underlying32 HINF.out.1 w1.heap.size
        have hoc : (o : Int) ≤ cb := by omega
        have HE0 : Hid (R = ([], 0)) := HE
        have BS : Hid (ByteW R w (.returned (.tuple #[.slice (some ⟨w1.heap.size, 0, none⟩) 0 0, .int .i64 0])) (w1.alloc (.cells #[] 5))) := Lib.hid (by
          rw [HE0.out]
          exact ⟨_, 0, rfl, BytS.none_ _ _, Nat.le_refl _, Nat.zero_le _, below_alloc V.out _⟩)
        cases Ab with
        | none =>
          have h0 := hz' none (cb - o)
          clear hz'
          go_wp2_with ((at_builtin; refine Lib.wpList_append_run _ rfl (.tmp 45) (.tmp 58) _ _ rfl _ _ rfl rfl _ _ h0 ?_))
          go_ret2
          exact BS.out
        | some ab =>
          obtain ⟨gb, rfl⟩ := own_form OB.out
          have h0 := hz' (if cb = o then some ⟨gb, 0, none⟩ else some ⟨gb, o, none⟩) (cb - o)
          clear hz'
          go_wp2_with ((at_builtin; refine Lib.wpList_append_run _ rfl (.tmp 45) (.tmp 58) _ _ rfl _ _ rfl rfl _ _ h0 ?_))
          all_goals (go_ret2; exact BS.out)
      · obtain ⟨gb, rfl, _, hgb⟩ := own_addr OB.out (by omega)
        have hz0 : 0 < sn := by omega
        have hcbo : ¬ cb = o := by omega
        have NB : Hid (BytAt (w1.alloc (.cells #[] 5)) gb o (((arAt L k).a.b.drop o).take sn)) := Lib.hid (BytAt.after (w := w1) ⟨hgb, fun t ht => by
          rw [cut_len _ _ _ (by rw [HLEN.out]; exact hfit2)] at ht
          rw [OB.out.cellAt _ (by omega), byC_at _ (by rw [HLEN.out]; omega), cut_at _ _ _ _ (by rw [HLEN.out]; exact hfit2) ht]⟩ (below_alloc (Below.refl _ _) _))
        have OWN0 : Hid ((w1.alloc (.cells #[] 5)).ownsRow w1.heap.size 5 1 (.slice (some ⟨w1.heap.size, 0, none⟩) 0 0) 0 []) := Lib.hid (World.ownsRow_made w1 #[] 0 (Nat.le_refl _) (Nat.zero_le _) rfl)
        have R0 : Hid (Below w1.heap.size w1 (w1.alloc (.cells #[] 5))) := Lib.hid (below_alloc (Below.refl _ _) _)
        have CL := Lib.hid (cut_len (arAt L k).a.b o sn (by rw [HLEN.out]; exact hfit2))
        have NEWS := Lib.hid (byt_news NB.out)
        generalize ((arAt L k).a.b.drop o).take sn = q at *
        go_wp2_with ((at_builtin; refine wpList_append_own _ rfl (.tmp 45) (.tmp 58) _ rfl w1.heap.size 5 i0 (.int .u8 0) 1 1 Try.underlying32 HINF.out.1 HINF.out.2.1 HINF.out.2.2.1 HINF.out.2.2.2 rfl (by omega) _ 0 [] rfl OWN0.out ⟨gb, o, none⟩ (o + sn - o) (cb - o) (byC q) rfl (by rw [byC_len, CL.out]; omega) NEWS.out (byC_one q) (by unfold maxLen; omega) (by omega) R0.out.size ?_))
        intro v2 w2 hown hgr hn1
        have V2 := Lib.hid (below_next' V.out (below_own R0.out OWN0.out R0.out.size hgr))
        obtain ⟨A2, c2, rfl, e1, e2⟩ := own_slice hown
        have BS : Hid (ByteW R w (.returned (.tuple #[.slice A2 sn c2, .int .i64 0])) w2) := Lib.hid (by
          rw [HE.out]
          exact ⟨A2, c2, by rw [CL.out], own_bytS CL.out.symm hown, by rw [CL.out]; exact e1, e2, V2.out⟩)
        clear hown hgr hn1 e1 e2
        go_wp2_with fail
        go_ret2
        exact BS.out

theorem r8_Read (w : World) (g : Nat) (M : PM) (F : Nat → Prop) (at_ s : Int) (h : RepR w g M F) (ha : 0 ≤ at_ ∧ at_ ≤ 18446744073709551615) :
    Calls Try.prog 19 #[.pointer (some ⟨g, 0, none⟩), .int .u64 at_, .int .i64 s] w (ByteW (pRead M at_ s) w) := by
  by_cases hs : s < 0 ∨ 1024 < s
  · unfold pRead
    rw [if_pos hs]
    exact r8_Read_no w g M F at_ s hs
  · cases hw : pWh M at_ s with
    | none =>
      unfold pRead
      rw [if_neg hs, hw]
      exact r8_Read_out w g M F at_ s h ha (by omega) hw
    | some p =>
      obtain ⟨k, o⟩ := p
      refine r8_Read_in w g M F at_ s h ha (by omega) k o hw _ ?_
      unfold pRead
      rw [if_neg hs, hw]


end Go.Proofs.Ytegmhbflgceecaa
