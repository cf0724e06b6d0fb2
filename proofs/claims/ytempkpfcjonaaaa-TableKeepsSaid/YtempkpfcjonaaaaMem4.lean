/-
  Layer 8, the program's Read.
  Conditions: the numbers fit their kinds.
-/
import Derived.Test.YtempkpfcjonaaaaMem3
namespace Go.Proofs.Ytempkpfcjonaaaa
open Go.RowKit
set_option linter.unusedVariables false
set_option linter.unusedSimpArgs false

set_option maxRecDepth 100000 in
set_option maxHeartbeats 2000000 in
theorem c8_Read_no (w : World) (g : Nat) (at_ s : Int) (hs : s < 0 ∨ 1024 < s) :
    Calls Try.prog 48 #[.pointer (some ⟨g, 0, none⟩), .int .u64 at_, .int .i64 s] w (ByteW ([], 1) w) := by
  rcases hs with hs | hs
  · go_enter Try.func48, Try.ntmps48
    go_wp2_with fail
    go_ret2
    exact byteW_none 1 (Below.refl _ _)
  · have hs0 : (0 : Int) ≤ s := by omega
    go_enter Try.func48, Try.ntmps48
    go_wp2_with fail
    go_ret2
    exact byteW_none 1 (Below.refl _ _)

set_option maxRecDepth 100000 in
set_option maxHeartbeats 2000000 in
theorem c8_Read_out (w : World) (g : Nat) (mv : Value) (L : List AR) (F : Nat → Prop) (at_ s : Int) (h : RepQ w g mv L F) (ha : 0 ≤ at_ ∧ at_ ≤ 18446744073709551615) (hs : 0 ≤ s ∧ s ≤ 1024) (hw : pWh (arM L) at_ s = none) :
    Calls Try.prog 48 #[.pointer (some ⟨g, 0, none⟩), .int .u64 at_, .int .i64 s] w (ByteW ([], 80) w) := by
  have C := Lib.hid (c8_find_out w g mv L F at_ s h ha hs hw)
  rw [show rgZ = .agg #[.slice none 0 0, .slice none 0 0, .bool false] from rfl] at C
  clear hw h
  go_enter Try.func48, Try.ntmps48
  go_wp2_with fail
  refine (C.out).mono ?_
  rintro e w1 ⟨rfl, b1⟩
  have V := Lib.hid b1
  clear b1
  go_wp2_with fail
  go_ret2
  exact byteW_none 80 (below_alloc V.out _)

set_option maxRecDepth 100000 in
set_option maxHeartbeats 2000000 in
theorem c8_Read_in (w : World) (g : Nat) (mv : Value) (L : List AR) (F : Nat → Prop) (at_ s : Int) (h : RepQ w g mv L F) (ha : 0 ≤ at_ ∧ at_ ≤ 18446744073709551615) (hs : 0 ≤ s ∧ s ≤ 1024) (k o : Nat) (hw : pWh (arM L) at_ s = some (k, o)) (R : List Int × Int)
    (hR : (if blankB (pAt (arM L) k) o s.toNat then ([], 81) else (((pAt (arM L) k).b.drop o).take s.toNat, 0)) = R) :
    Calls Try.prog 48 #[.pointer (some ⟨g, 0, none⟩), .int .u64 at_, .int .i64 s] w (ByteW R w) := by
  have C := Lib.hid (c8_find_in w g mv L F at_ s h ha hs k o hw)
  obtain ⟨_, hk, _, hfit, _⟩ := pWh_some hw
  have hok := h.ok k hk
  rw [arM_len] at hk
  rw [arM_at] at hR hok hfit
  obtain ⟨hob, hbl, hb1024, _⟩ := hok
  have hfit2 := hfit hs.1
  obtain ⟨sn, rfl⟩ : ∃ sn : Nat, s = sn := ⟨s.toNat, by omega⟩
  have en : ((sn : Int)).toNat = sn := by omega
  rw [en] at hR hfit2
  have HR : Hid (∀ w', Below w.heap.size w w' → RepQ w' g mv L F) := Lib.hid fun w' b => h.after b
  obtain ⟨Ab, cb, hvb, hcb1, hcb2⟩ := own_slice (h.own k hk).1
  obtain ⟨Ak, ck, hvk, hck1, hck2⟩ := own_slice (h.own k hk).2
  have hv : rgV (arAt L k) = .agg #[.slice Ab (arAt L k).a.b.length cb, .slice Ak (arAt L k).a.bl.length ck, .bool (arAt L k).a.fx] := by unfold rgV; rw [hvb, hvk]
  rw [hv] at C
  clear h hw hfit en hv
  have HVB := Lib.hid hvb
  have HVK := Lib.hid hvk
  have HRR := Lib.hid hR
  have HBL := Lib.hid hbl
  have HO := Lib.hid hob
  clear hvb hvk hR hob
  rw [hbl] at hck1 HVK C
  clear hbl
  unfold maxLen at hcb2 hck2
  generalize hlen : (arAt L k).a.b.length = lb at *
  have HLEN := Lib.hid hlen
  clear hlen
  generalize (arAt L k).a.fx = fx at *
  have o0 : (0 : Int) ≤ o := by omega
  go_enter Try.func48, Try.ntmps48
  go_wp2_with fail
  refine (C.out).mono ?_
  rintro e w0 ⟨rfl, b1⟩
  have V := Lib.hid (below_alloc b1 (.cells #[.slice Ab lb cb, .slice Ak lb ck, .bool fx] 96))
  have BX : Hid (Blk w0.heap.size #[.slice Ab lb cb, .slice Ak lb ck, .bool fx] 96 (w0.alloc (.cells #[.slice Ab lb cb, .slice Ak lb ck, .bool fx] 96))) := Lib.hid (Blk.new w0 _ _ rfl)
  have h1 := HR.out _ V.out
  have OB := Lib.hid (h1.own k hk).1
  have OK := Lib.hid (h1.own k hk).2
  rw [HVB.out, HLEN.out] at OB
  rw [HVK.out, HBL.out] at OK
  clear b1 h1 C HR HVB HVK
  generalize hgr : w0.heap.size = gr at *
  generalize hw1 : w0.alloc (.cells #[.slice Ab lb cb, .slice Ak lb ck, .bool fx] 96) = w1 at *
  have x0 := BX.out.cell 0
  have x1 := BX.out.cell 1
  go_wp2_with fail
  go_loop [31] (fun v => ∃ j : Nat, v = .int .i64 j ∧ j ≤ sn ∧ Hid (∀ t, o ≤ t → t < o + j → (arAt L k).a.bl.getD t false = false)) (fun v => sn - (intOf v).toNat)
  case atStart => exact ⟨0, rfl, by omega, Lib.hid fun t h1 h2 => by omega⟩
  case round =>
    obtain ⟨j, rfl, hj, HT⟩ := hrel
    have hj0 : (0 : Int) ≤ j := by omega
    by_cases hlt : (j : Int) < sn
    · obtain ⟨gk, rfl, _, hgk⟩ := own_addr OK.out (by omega)
      have ck0 := OK.out.cellAt (o + j) (by omega)
      rw [boC_at _ (by rw [HBL.out]; omega)] at ck0
      cases hbit : (arAt L k).a.bl.getD (o + j) false
      · have HT2 : Hid (∀ t, o ≤ t → t < o + (j + 1) → (arAt L k).a.bl.getD t false = false) := Lib.hid fun t h1 h2 => by
          by_cases e : t = o + j
          · rw [e]; exact hbit
          · exact HT.out t h1 (by omega)
        rw [hbit] at ck0
        clear hbit
        go_wp2_with fail
        go_round
        case rel => exact ⟨j + 1, by go_num, by omega, HT2⟩
        case measure => simp [intOf]; omega
      · have HE : Hid (R = ([], 81)) := Lib.hid (by
          rw [← HRR.out]
          unfold blankB
          rw [blank_some (t := o + j) (by omega) (by omega) hbit, if_pos rfl])
        rw [hbit] at ck0
        clear hbit
        go_wp2_with fail
        go_ret2
        rw [HE.out]
        exact byteW_none 81 V.out
    · have hjs : j = sn := by omega
      have HE : Hid (R = (((arAt L k).a.b.drop o).take sn, 0)) := Lib.hid (by
        rw [← HRR.out]
        unfold blankB
        rw [blank_all.mpr (fun t h1 h2 => HT.out t h1 (by omega)), if_neg Bool.false_ne_true])
      have hge : (sn : Int) ≤ j := by omega
      clear HT hjs hj
      have OWN : Hid (∀ A n d, BytS w1 A (((arAt L k).a.b.drop o).take sn) → n = sn → Calls Try.prog 42 #[.slice A n d] w1 (fun e w' => ∃ A c, e = .returned (.slice A sn c) ∧ ByteW R w (.returned (.tuple #[.slice A sn c, .int .i64 0])) w')) := Lib.hid fun A n d hA hn => by
        subst hn
        have CL := cut_len (arAt L k).a.b o n (by rw [HLEN.out]; exact hfit2)
        refine (c8_own w1 A _ n d hA CL (by omega)).mono ?_
        rintro e w' ⟨ga, rfl, ho, hb⟩
        refine ⟨_, _, rfl, ?_⟩
        rw [HE.out]
        exact ⟨_, n, by rw [CL], own_bytS CL.symm ho, by rw [CL]; exact Nat.le_refl _, by unfold maxLen; omega, below_next' V.out hb⟩
      by_cases hz : sn = 0
      · subst hz
        have N0 : Hid (∀ A, BytS w1 A (((arAt L k).a.b.drop o).take 0)) := Lib.hid fun A => by rw [List.take_zero]; exact BytS.none_ _ _
        have hoc : (o : Int) ≤ cb := by omega
        cases Ab with
        | none =>
          go_wp2_with fail
          all_goals
            refine (OWN.out _ _ _ (N0.out _) rfl).mono ?_
            rintro e w2 ⟨A2, c2, rfl, bs⟩
            have BS := Lib.hid bs
            clear bs
            go_wp2_with fail
            go_ret2
            exact BS.out
        | some ab =>
          obtain ⟨gb, rfl⟩ := own_form OB.out
          go_wp2_with fail
          all_goals
            refine (OWN.out _ _ _ (N0.out _) rfl).mono ?_
            rintro e w2 ⟨A2, c2, rfl, bs⟩
            have BS := Lib.hid bs
            clear bs
            go_wp2_with fail
            go_ret2
            exact BS.out
      · obtain ⟨gb, rfl, _, hgb⟩ := own_addr OB.out (by omega)
        have hz0 : 0 < sn := by omega
        have hcbo : ¬ cb = o := by omega
        have NB : Hid (BytS w1 (some ⟨gb, o, none⟩) (((arAt L k).a.b.drop o).take sn)) := Lib.hid fun _ => ⟨gb, o, rfl, hgb, fun t ht => by
          rw [cut_len _ _ _ (by rw [HLEN.out]; exact hfit2)] at ht
          rw [OB.out.cellAt _ (by omega), byC_at _ (by rw [HLEN.out]; omega), cut_at _ _ _ _ (by rw [HLEN.out]; exact hfit2) ht]⟩
        go_wp2_with fail
        refine (OWN.out _ _ _ NB.out rfl).mono ?_
        rintro e w2 ⟨A2, c2, rfl, bs⟩
        have BS := Lib.hid bs
        clear bs
        go_wp2_with fail
        go_ret2
        exact BS.out

theorem RepP_Q {w : World} {g : Nat} {M : PM} {F : Nat → Prop} (h : RepP w g M F) : ∃ mv L, M = arM L ∧ RepQ w g mv L F := h
theorem c8_Read (w : World) (g : Nat) (M : PM) (F : Nat → Prop) (at_ s : Int) (h : RepP w g M F) (ha : 0 ≤ at_ ∧ at_ ≤ 18446744073709551615) :
    Calls Try.prog 48 #[.pointer (some ⟨g, 0, none⟩), .int .u64 at_, .int .i64 s] w (ByteW (pRead M at_ s) w) := by
  obtain ⟨mv, L, rfl, h⟩ := h
  by_cases hs : s < 0 ∨ 1024 < s
  · unfold pRead
    rw [if_pos hs]
    exact c8_Read_no w g at_ s hs
  · cases hw : pWh (arM L) at_ s with
    | none =>
      unfold pRead
      rw [if_neg hs, hw]
      exact c8_Read_out w g mv L F at_ s h ha (by omega) hw
    | some p =>
      obtain ⟨k, o⟩ := p
      refine c8_Read_in w g mv L F at_ s h ha (by omega) k o hw _ ?_
      unfold pRead
      rw [if_neg hs, hw]

end Go.Proofs.Ytempkpfcjonaaaa
