/-
  Texts, one behind the other: Mem4, Mem5.
  Conditions: those that each theorem states.
-/
import Derived.Test.YtfniahmfoigceaaGreatPz9

namespace Go.Proofs.YtfniahmfoigceaaGreat
open Go.RowKit
set_option linter.unusedVariables false
set_option linter.unusedSimpArgs false

set_option maxRecDepth 100000 in
set_option maxHeartbeats 2000000 in
theorem c8_Read_no (w : World) (g : Nat) (at_ s : Int) (hs : s < 0 ∨ 1024 < s) :
    Calls Tryz.prog 163 #[.pointer (some ⟨g, 0, none⟩), .int .u64 at_, .int .i64 s] w (ByteW ([], 1) w) := by
  rcases hs with hs | hs
  · go_enter Tryz.func163, Tryz.ntmps163
    go_wp2_with fail
    go_ret2
    exact byteW_none 1 (Below.refl _ _)
  · have hs0 : (0 : Int) ≤ s := by omega
    go_enter Tryz.func163, Tryz.ntmps163
    go_wp2_with fail
    go_ret2
    exact byteW_none 1 (Below.refl _ _)

set_option maxRecDepth 100000 in
set_option maxHeartbeats 2000000 in
theorem c8_Read_out (w : World) (g : Nat) (mv : Value) (L : List AR) (F : Nat → Prop) (at_ s : Int) (h : RepQ w g mv L F) (ha : 0 ≤ at_ ∧ at_ ≤ 18446744073709551615) (hs : 0 ≤ s ∧ s ≤ 1024) (hw : pWh (arM L) at_ s = none) :
    Calls Tryz.prog 163 #[.pointer (some ⟨g, 0, none⟩), .int .u64 at_, .int .i64 s] w (ByteW ([], 80) w) := by
  have C := Lib.hid (c8_find_out w g mv L F at_ s h ha hs hw)
  rw [show rgZ = .agg #[.slice none 0 0, .slice none 0 0, .bool false] from rfl] at C
  clear hw h
  go_enter Tryz.func163, Tryz.ntmps163
  go_wp2_with fail
  refine (C.out).mono ?_
  rintro e w1 ⟨rfl, b1⟩
  have V := Lib.hid b1
  clear b1
  go_wp2_with fail
  go_ret2
  exact byteW_none 80 (below_alloc V.out _)

set_option maxRecDepth 100000 in
set_option maxHeartbeats 2000000 in
theorem c8_Read_in (w : World) (g : Nat) (mv : Value) (L : List AR) (F : Nat → Prop) (at_ s : Int) (h : RepQ w g mv L F) (ha : 0 ≤ at_ ∧ at_ ≤ 18446744073709551615) (hs : 0 ≤ s ∧ s ≤ 1024) (k o : Nat) (hw : pWh (arM L) at_ s = some (k, o)) (R : List Int × Int)
    (hR : (if blankB (pAt (arM L) k) o s.toNat then ([], 81) else (((pAt (arM L) k).b.drop o).take s.toNat, 0)) = R) :
    Calls Tryz.prog 163 #[.pointer (some ⟨g, 0, none⟩), .int .u64 at_, .int .i64 s] w (ByteW R w) := by
  have C := Lib.hid (c8_find_in w g mv L F at_ s h ha hs k o hw)
  obtain ⟨_, hk, _, hfit, _⟩ := pWh_some hw
  have hok := h.ok k hk
  rw [arM_len] at hk
  rw [arM_at] at hR hok hfit
  obtain ⟨hob, hbl, hb1024, _⟩ := hok
  have hfit2 := hfit hs.1
  obtain ⟨sn, rfl⟩ : ∃ sn : Nat, s = sn := ⟨s.toNat, by omega⟩
  have en : ((sn : Int)).toNat = sn := by omega
  rw [en] at hR hfit2
  have HR : Hid (∀ w', Below w.heap.size w w' → RepQ w' g mv L F) := Lib.hid fun w' b => h.after b
  obtain ⟨Ab, cb, hvb, hcb1, hcb2⟩ := own_slice (h.own k hk).1
  obtain ⟨Ak, ck, hvk, hck1, hck2⟩ := own_slice (h.own k hk).2
  have hv : rgV (arAt L k) = .agg #[.slice Ab (arAt L k).a.b.length cb, .slice Ak (arAt L k).a.bl.length ck, .bool (arAt L k).a.fx] := by unfold rgV; rw [hvb, hvk]
  rw [hv] at C
  clear h hw hfit en hv
  have HVB := Lib.hid hvb
  have HVK := Lib.hid hvk
  have HRR := Lib.hid hR
  have HBL := Lib.hid hbl
  have HO := Lib.hid hob
  clear hvb hvk hR hob
  rw [hbl] at hck1 HVK C
  clear hbl
  unfold maxLen at hcb2 hck2
  generalize hlen : (arAt L k).a.b.length = lb at *
  have HLEN := Lib.hid hlen
  clear hlen
  generalize (arAt L k).a.fx = fx at *
  have o0 : (0 : Int) ≤ o := by omega
  go_enter Tryz.func163, Tryz.ntmps163
  go_wp2_with fail
  refine (C.out).mono ?_
  rintro e w0 ⟨rfl, b1⟩
  have V := Lib.hid (below_alloc b1 (.cells #[.slice Ab lb cb, .slice Ak lb ck, .bool fx] 159))
  have BX : Hid (Blk w0.heap.size #[.slice Ab lb cb, .slice Ak lb ck, .bool fx] 159 (w0.alloc (.cells #[.slice Ab lb cb, .slice Ak lb ck, .bool fx] 159))) := Lib.hid (Blk.new w0 _ _ rfl)
  have h1 := HR.out _ V.out
  have OB := Lib.hid (h1.own k hk).1
  have OK := Lib.hid (h1.own k hk).2
  rw [HVB.out, HLEN.out] at OB
  rw [HVK.out, HBL.out] at OK
  clear b1 h1 C HR HVB HVK
  generalize hgr : w0.heap.size = gr at *
  generalize hw1 : w0.alloc (.cells #[.slice Ab lb cb, .slice Ak lb ck, .bool fx] 159) = w1 at *
  have x0 := BX.out.cell 0
  have x1 := BX.out.cell 1
  go_wp2_with fail
  go_loop [31] (fun v => ∃ j : Nat, v = .int .i64 j ∧ j ≤ sn ∧ Hid (∀ t, o ≤ t → t < o + j → (arAt L k).a.bl.getD t false = false)) (fun v => sn - (intOf v).toNat)
  case atStart => exact ⟨0, rfl, by omega, Lib.hid fun t h1 h2 => by omega⟩
  case round =>
    obtain ⟨j, rfl, hj, HT⟩ := hrel
    have hj0 : (0 : Int) ≤ j := by omega
    by_cases hlt : (j : Int) < sn
    · obtain ⟨gk, rfl, _, hgk⟩ := own_addr OK.out (by omega)
      have ck0 := OK.out.cellAt (o + j) (by omega)
      rw [boC_at _ (by rw [HBL.out]; omega)] at ck0
      cases hbit : (arAt L k).a.bl.getD (o + j) false
      · have HT2 : Hid (∀ t, o ≤ t → t < o + (j + 1) → (arAt L k).a.bl.getD t false = false) := Lib.hid fun t h1 h2 => by
          by_cases e : t = o + j
          · rw [e]; exact hbit
          · exact HT.out t h1 (by omega)
        rw [hbit] at ck0
        clear hbit
        go_wp2_with fail
        go_round
        case rel => exact ⟨j + 1, by go_num, by omega, HT2⟩
        case measure => simp [intOf]; omega
      · have HE : Hid (R = ([], 81)) := Lib.hid (by
          rw [← HRR.out]
          unfold blankB
          rw [blank_some (t := o + j) (by omega) (by omega) hbit, if_pos rfl])
        rw [hbit] at ck0
        clear hbit
        go_wp2_with fail
        go_ret2
        rw [HE.out]
        exact byteW_none 81 V.out
    · have hjs : j = sn := by omega
      have HE : Hid (R = (((arAt L k).a.b.drop o).take sn, 0)) := Lib.hid (by
        rw [← HRR.out]
        unfold blankB
        rw [blank_all.mpr (fun t h1 h2 => HT.out t h1 (by omega)), if_neg Bool.false_ne_true])
      have hge : (sn : Int) ≤ j := by omega
      clear HT hjs hj
      have OWN : Hid (∀ A n d, BytS w1 A (((arAt L k).a.b.drop o).take sn) → n = sn → Calls Tryz.prog 141 #[.slice A n d] w1 (fun e w' => ∃ A c, e = .returned (.slice A sn c) ∧ ByteW R w (.returned (.tuple #[.slice A sn c, .int .i64 0])) w')) := Lib.hid fun A n d hA hn => by
        subst hn
        have CL := cut_len (arAt L k).a.b o n (by rw [HLEN.out]; exact hfit2)
        refine (c8_own w1 A _ n d hA CL (by omega)).mono ?_
        rintro e w' ⟨ga, rfl, ho, hb⟩
        refine ⟨_, _, rfl, ?_⟩
        rw [HE.out]
        exact ⟨_, n, by rw [CL], own_bytS CL.symm ho, by rw [CL]; exact Nat.le_refl _, by unfold maxLen; omega, below_next' V.out hb⟩
      by_cases hz : sn = 0
      · subst hz
        have N0 : Hid (∀ A, BytS w1 A (((arAt L k).a.b.drop o).take 0)) := Lib.hid fun A => by rw [List.take_zero]; exact BytS.none_ _ _
        have hoc : (o : Int) ≤ cb := by omega
        cases Ab with
        | none =>
          go_wp2_with fail
          all_goals
            refine (OWN.out _ _ _ (N0.out _) rfl).mono ?_
            rintro e w2 ⟨A2, c2, rfl, bs⟩
            have BS := Lib.hid bs
            clear bs
            go_wp2_with fail
            go_ret2
            exact BS.out
        | some ab =>
          obtain ⟨gb, rfl⟩ := own_form OB.out
          go_wp2_with fail
          all_goals
            refine (OWN.out _ _ _ (N0.out _) rfl).mono ?_
            rintro e w2 ⟨A2, c2, rfl, bs⟩
            have BS := Lib.hid bs
            clear bs
            go_wp2_with fail
            go_ret2
            exact BS.out
      · obtain ⟨gb, rfl, _, hgb⟩ := own_addr OB.out (by omega)
        have hz0 : 0 < sn := by omega
        have hcbo : ¬ cb = o := by omega
        have NB : Hid (BytS w1 (some ⟨gb, o, none⟩) (((arAt L k).a.b.drop o).take sn)) := Lib.hid fun _ => ⟨gb, o, rfl, hgb, fun t ht => by
          rw [cut_len _ _ _ (by rw [HLEN.out]; exact hfit2)] at ht
          rw [OB.out.cellAt _ (by omega), byC_at _ (by rw [HLEN.out]; omega), cut_at _ _ _ _ (by rw [HLEN.out]; exact hfit2) ht]⟩
        go_wp2_with fail
        refine (OWN.out _ _ _ NB.out rfl).mono ?_
        rintro e w2 ⟨A2, c2, rfl, bs⟩
        have BS := Lib.hid bs
        clear bs
        go_wp2_with fail
        go_ret2
        exact BS.out

theorem c8_Read (w : World) (g : Nat) (M : PM) (F : Nat → Prop) (at_ s : Int) (h : RepP w g M F) (ha : 0 ≤ at_ ∧ at_ ≤ 18446744073709551615) :
    Calls Tryz.prog 163 #[.pointer (some ⟨g, 0, none⟩), .int .u64 at_, .int .i64 s] w (ByteW (pRead M at_ s) w) := by
  obtain ⟨mv, L, rfl, h⟩ := h
  by_cases hs : s < 0 ∨ 1024 < s
  · unfold pRead
    rw [if_pos hs]
    exact c8_Read_no w g at_ s hs
  · cases hw : pWh (arM L) at_ s with
    | none =>
      unfold pRead
      rw [if_neg hs, hw]
      exact c8_Read_out w g mv L F at_ s h ha (by omega) hw
    | some p =>
      obtain ⟨k, o⟩ := p
      refine c8_Read_in w g mv L F at_ s h ha (by omega) k o hw _ ?_
      unfold pRead
      rw [if_neg hs, hw]

end Go.Proofs.YtfniahmfoigceaaGreat

namespace Go.Proofs.YtfniahmfoigceaaGreat
open Go.RowKit
set_option linter.unusedVariables false
set_option linter.unusedSimpArgs false

set_option maxRecDepth 100000 in
set_option maxHeartbeats 2000000 in
theorem c8_Load_no (w : World) (g : Nat) (at_ s : Int) (hf : fitsZ s = false) :
    Calls Tryz.prog 111 #[.pointer (some ⟨g, 0, none⟩), .int .u64 at_, .int .i64 s] w (Gives (.tuple #[.int .u64 0, .int .i64 1]) w) := by
  have C := Lib.hid (c8_isOf s)
  rw [hf] at C
  clear hf
  go_enter Tryz.func111, Tryz.ntmps111
  go_wp2_with fail
  refine (C.out _).mono ?_
  rintro e w1 ⟨rfl, b1⟩
  have V := Lib.hid b1
  clear b1
  go_wp2_with fail
  go_ret2
  exact ⟨rfl, V.out⟩

set_option maxRecDepth 100000 in
set_option maxHeartbeats 2000000 in
theorem c8_Load_err (w : World) (g : Nat) (M : PM) (F : Nat → Prop) (at_ s : Int) (h : RepP w g M F) (ha : 0 ≤ at_ ∧ at_ ≤ 18446744073709551615) (hf : fitsZ s = true) (he : ((pRead M at_ s).2 == 0) = false) :
    Calls Tryz.prog 111 #[.pointer (some ⟨g, 0, none⟩), .int .u64 at_, .int .i64 s] w (Gives (.tuple #[.int .u64 0, .int .i64 (pRead M at_ s).2]) w) := by
  have C := Lib.hid (c8_isOf s)
  rw [hf] at C
  have D := Lib.hid fun w' (b : Below w.heap.size w w') => c8_Read w' g M F at_ s (h.after b) ha
  have n0 : ((pRead M at_ s).2 != 0) = true := by unfold bne; rw [he]; rfl
  clear hf he
  generalize pRead M at_ s = r at *
  obtain ⟨rb, re⟩ := r
  go_enter Tryz.func111, Tryz.ntmps111
  go_wp2_with fail
  refine (C.out _).mono ?_
  rintro e w1 ⟨rfl, b1⟩
  have V := Lib.hid b1
  clear b1
  go_wp2_with fail
  refine (D.out _ V.out).mono ?_
  rintro e w2 ⟨A, c, rfl, _, _, _, b2⟩
  replace V := Lib.hid (below_next' V.out b2)
  clear b2
  simp only at *
  go_wp2_with fail
  go_ret2
  exact ⟨rfl, V.out⟩

theorem leN_take {l : List Int} {j : Nat} (h : j < l.length) : leN (l.take (j + 1)) = leN (l.take j) + 256 ^ j * bAt l j := by
  induction l generalizing j with
  | nil => simp at h
  | cons x l ih =>
    cases j with
    | zero => simp [leN, bAt]
    | succ j =>
      have := ih (j := j) (by simpa using h)
      show x + 256 * leN (l.take (j + 1)) = x + 256 * leN (l.take j) + 256 ^ (j + 1) * bAt (x :: l) (j + 1)
      rw [this, show bAt (x :: l) (j + 1) = bAt l j by simp [bAt], Int.pow_succ, Int.mul_add, ← Int.mul_assoc, Int.mul_comm 256 (256 ^ j)]
      omega
theorem or_step (x y : Int) (j : Nat) (hj : j ≤ 7) (hx : 0 ≤ x ∧ x < 256 ^ j) (hy : 0 ≤ y ∧ y ≤ 255) : bits .or .u64 x (256 ^ j * y) = x + 256 ^ j * y := by
  have hp : (256 : Int) ^ j = ((2 ^ (8 * j) : Nat) : Int) := by rw [Nat.pow_mul]; simp
  have hq : 2 ^ (8 * j) ≤ 2 ^ 56 := Nat.pow_le_pow_right (by omega) (by omega)
  rw [hp] at hx ⊢
  obtain ⟨yn, rfl⟩ : ∃ yn : Nat, y = yn := ⟨y.toNat, by omega⟩
  obtain ⟨xn, rfl⟩ : ∃ xn : Nat, x = xn := ⟨x.toNat, by omega⟩
  have hb : xn < 2 ^ (8 * j) := by omega
  have hm : 2 ^ (8 * j) * yn ≤ 2 ^ 56 * 255 := Nat.mul_le_mul hq (by omega)
  have e : (((2 ^ (8 * j) : Nat) : Int) * (yn : Int)) = ((2 ^ (8 * j) * yn : Nat) : Int) := by rw [Int.natCast_mul]
  rw [e]
  generalize hz : 2 ^ (8 * j) * yn = z at *
  rw [u64_or _ _ (by omega) (by omega) (by omega) (by omega)]
  simp only [Int.toNat_natCast]
  have := Nat.two_pow_add_eq_or_of_lt hb yn
  rw [hz] at this
  rw [Nat.or_comm, ← this]
  omega

set_option maxRecDepth 100000 in
set_option maxHeartbeats 2000000 in
theorem c8_Load_ok (w : World) (g : Nat) (M : PM) (F : Nat → Prop) (at_ s : Int) (h : RepP w g M F) (ha : 0 ≤ at_ ∧ at_ ≤ 18446744073709551615) (hf : fitsZ s = true) (he : (pRead M at_ s).2 = 0) :
    Calls Tryz.prog 111 #[.pointer (some ⟨g, 0, none⟩), .int .u64 at_, .int .i64 s] w (Gives (.tuple #[.int .u64 (leN (pRead M at_ s).1), .int .i64 0]) w) := by
  have C := Lib.hid (c8_isOf s)
  rw [hf] at C
  have D := Lib.hid fun w' (b : Below w.heap.size w w') => c8_Read w' g M F at_ s (h.after b) ha
  have hs : s ≤ 8 := by
    unfold fitsZ at hf
    simp only [Bool.or_eq_true, beq_iff_eq] at hf
    omega
  obtain ⟨l1, l2, l3⟩ := pRead_len he
  have HO := Lib.hid (pRead_ok h.ok at_ s)
  clear hf h
  generalize pRead M at_ s = r at *
  obtain ⟨rb, re⟩ := r
  simp only at he l3
  subst he
  obtain ⟨n, rfl⟩ : ∃ n : Nat, s = n := ⟨s.toNat, by omega⟩
  have HLEN : Hid (rb.length = n) := Lib.hid (by omega)
  have hl8 : n ≤ 8 := by omega
  clear hs l2 l3
  have HZ : Hid (leN (rb.take n) = leN rb) := Lib.hid (by rw [← HLEN.out, List.take_length])
  have STEP : Hid (∀ j : Nat, j < n → ∀ x y, x = leN (rb.take j) → y = bAt rb j → (0 ≤ x ∧ x < 256 ^ j) ∧ (0 ≤ y ∧ y ≤ 255) ∧ bits .or .u64 x (256 ^ j * y) = x + 256 ^ j * y ∧ leN (rb.take (j + 1)) = x + 256 ^ j * y) := Lib.hid fun j hj x y hx hy => by
    have hy2 : 0 ≤ y ∧ y ≤ 255 := by rw [hy]; exact HO.out j (by rw [HLEN.out]; omega)
    have hx2 : 0 ≤ x ∧ x < 256 ^ j := by
      have h := leN_lt (okB_take HO.out j)
      rw [List.length_take, HLEN.out, Nat.min_eq_left (by omega)] at h
      rw [hx]; exact h
    refine ⟨hx2, hy2, or_step x y j (by omega) hx2 hy2, ?_⟩
    rw [leN_take (by rw [HLEN.out]; omega), hx, hy]
  go_enter Tryz.func111, Tryz.ntmps111
  go_wp2_with fail
  refine (C.out _).mono ?_
  rintro e w1 ⟨rfl, b1⟩
  have V := Lib.hid b1
  clear b1
  go_wp2_with fail
  refine (D.out _ V.out).mono ?_
  rintro e w2 ⟨A, c, rfl, h2, k1, k2, b2⟩
  replace V := Lib.hid (below_next' V.out b2)
  have H2 := Lib.hid h2
  clear b2 h2 D C
  simp only at *
  rw [HLEN.out] at k1 ⊢
  go_wp2_with fail
  go_loop [10, 28] (fun nv iv => ∃ j : Int, iv = .int .i64 j ∧ 0 ≤ j ∧ j ≤ n ∧ nv = .int .u64 (leN (rb.take j.toNat))) (fun nv iv => n - (intOf iv).toNat)
  case atStart => exact ⟨0, rfl, by omega, by omega, rfl⟩
  case round =>
    obtain ⟨j, rfl, hj0, hj, rfl⟩ := hrel
    by_cases hlt : j < n
    · obtain ⟨ga, oa, rfl, hga, hcell⟩ := H2.out (by rw [HLEN.out]; omega)
      rcases (show j = 0 ∨ j = 1 ∨ j = 2 ∨ j = 3 ∨ j = 4 ∨ j = 5 ∨ j = 6 ∨ j = 7 by omega) with rfl | rfl | rfl | rfl | rfl | rfl | rfl | rfl
      case inl =>
        have c0 := hcell 0 (by rw [HLEN.out]; omega)
        rw [Nat.add_zero] at c0
        obtain ⟨hx, hy, hor, hnext⟩ := STEP.out 0 (by omega) _ _ rfl rfl
        have EQ : Hid (∀ z, z = 1 * bAt rb 0 → bits .or .u64 (leN (rb.take 0)) z = leN (rb.take 1)) := Lib.hid fun z hz => by
          rw [hz, hnext, ← hor, show (256 : Int) ^ 0 = 1 by decide]
        clear hcell hnext hor hx STEP
        rw [show (0 : Int).toNat = 0 from rfl]
        generalize leN (rb.take 0) = x at *
        generalize bAt rb 0 = y at *
        go_wp2_with fail
        exact ⟨⟨1, rfl, by omega, by omega, congrArg (Value.int IntKind.u64) (EQ.out _ (by omega))⟩, by simp [intOf]; omega⟩
      case inr.inl =>
        have c0 := hcell 1 (by rw [HLEN.out]; omega)
        obtain ⟨hx, hy, hor, hnext⟩ := STEP.out 1 (by omega) _ _ rfl rfl
        have EQ : Hid (∀ z, z = 256 * bAt rb 1 → bits .or .u64 (leN (rb.take 1)) z = leN (rb.take 2)) := Lib.hid fun z hz => by
          rw [hz, hnext, ← hor, show (256 : Int) ^ 1 = 256 by decide]
        clear hcell hnext hor hx STEP
        rw [show (1 : Int).toNat = 1 from rfl]
        generalize leN (rb.take 1) = x at *
        generalize bAt rb 1 = y at *
        go_wp2_with fail
        exact ⟨⟨2, rfl, by omega, by omega, congrArg (Value.int IntKind.u64) (EQ.out _ (by omega))⟩, by simp [intOf]; omega⟩
      case inr.inr.inl =>
        have c0 := hcell 2 (by rw [HLEN.out]; omega)
        obtain ⟨hx, hy, hor, hnext⟩ := STEP.out 2 (by omega) _ _ rfl rfl
        have EQ : Hid (∀ z, z = 65536 * bAt rb 2 → bits .or .u64 (leN (rb.take 2)) z = leN (rb.take 3)) := Lib.hid fun z hz => by
          rw [hz, hnext, ← hor, show (256 : Int) ^ 2 = 65536 by decide]
        clear hcell hnext hor hx STEP
        rw [show (2 : Int).toNat = 2 from rfl]
        generalize leN (rb.take 2) = x at *
        generalize bAt rb 2 = y at *
        go_wp2_with fail
        exact ⟨⟨3, rfl, by omega, by omega, congrArg (Value.int IntKind.u64) (EQ.out _ (by omega))⟩, by simp [intOf]; omega⟩
      case inr.inr.inr.inl =>
        have c0 := hcell 3 (by rw [HLEN.out]; omega)
        obtain ⟨hx, hy, hor, hnext⟩ := STEP.out 3 (by omega) _ _ rfl rfl
        have EQ : Hid (∀ z, z = 16777216 * bAt rb 3 → bits .or .u64 (leN (rb.take 3)) z = leN (rb.take 4)) := Lib.hid fun z hz => by
          rw [hz, hnext, ← hor, show (256 : Int) ^ 3 = 16777216 by decide]
        clear hcell hnext hor hx STEP
        rw [show (3 : Int).toNat = 3 from rfl]
        generalize leN (rb.take 3) = x at *
        generalize bAt rb 3 = y at *
        go_wp2_with fail
        exact ⟨⟨4, rfl, by omega, by omega, congrArg (Value.int IntKind.u64) (EQ.out _ (by omega))⟩, by simp [intOf]; omega⟩
      case inr.inr.inr.inr.inl =>
        have c0 := hcell 4 (by rw [HLEN.out]; omega)
        obtain ⟨hx, hy, hor, hnext⟩ := STEP.out 4 (by omega) _ _ rfl rfl
        have EQ : Hid (∀ z, z = 4294967296 * bAt rb 4 → bits .or .u64 (leN (rb.take 4)) z = leN (rb.take 5)) := Lib.hid fun z hz => by
          rw [hz, hnext, ← hor, show (256 : Int) ^ 4 = 4294967296 by decide]
        clear hcell hnext hor hx STEP
        rw [show (4 : Int).toNat = 4 from rfl]
        generalize leN (rb.take 4) = x at *
        generalize bAt rb 4 = y at *
        go_wp2_with fail
        exact ⟨⟨5, rfl, by omega, by omega, congrArg (Value.int IntKind.u64) (EQ.out _ (by omega))⟩, by simp [intOf]; omega⟩
      case inr.inr.inr.inr.inr.inl =>
        have c0 := hcell 5 (by rw [HLEN.out]; omega)
        obtain ⟨hx, hy, hor, hnext⟩ := STEP.out 5 (by omega) _ _ rfl rfl
        have EQ : Hid (∀ z, z = 1099511627776 * bAt rb 5 → bits .or .u64 (leN (rb.take 5)) z = leN (rb.take 6)) := Lib.hid fun z hz => by
          rw [hz, hnext, ← hor, show (256 : Int) ^ 5 = 1099511627776 by decide]
        clear hcell hnext hor hx STEP
        rw [show (5 : Int).toNat = 5 from rfl]
        generalize leN (rb.take 5) = x at *
        generalize bAt rb 5 = y at *
        go_wp2_with fail
        exact ⟨⟨6, rfl, by omega, by omega, congrArg (Value.int IntKind.u64) (EQ.out _ (by omega))⟩, by simp [intOf]; omega⟩
      case inr.inr.inr.inr.inr.inr.inl =>
        have c0 := hcell 6 (by rw [HLEN.out]; omega)
        obtain ⟨hx, hy, hor, hnext⟩ := STEP.out 6 (by omega) _ _ rfl rfl
        have EQ : Hid (∀ z, z = 281474976710656 * bAt rb 6 → bits .or .u64 (leN (rb.take 6)) z = leN (rb.take 7)) := Lib.hid fun z hz => by
          rw [hz, hnext, ← hor, show (256 : Int) ^ 6 = 281474976710656 by decide]
        clear hcell hnext hor hx STEP
        rw [show (6 : Int).toNat = 6 from rfl]
        generalize leN (rb.take 6) = x at *
        generalize bAt rb 6 = y at *
        go_wp2_with fail
        exact ⟨⟨7, rfl, by omega, by omega, congrArg (Value.int IntKind.u64) (EQ.out _ (by omega))⟩, by simp [intOf]; omega⟩
      case inr.inr.inr.inr.inr.inr.inr =>
        have c0 := hcell 7 (by rw [HLEN.out]; omega)
        obtain ⟨hx, hy, hor, hnext⟩ := STEP.out 7 (by omega) _ _ rfl rfl
        have EQ : Hid (∀ z, z = 72057594037927936 * bAt rb 7 → bits .or .u64 (leN (rb.take 7)) z = leN (rb.take 8)) := Lib.hid fun z hz => by
          rw [hz, hnext, ← hor, show (256 : Int) ^ 7 = 72057594037927936 by decide]
        clear hcell hnext hor hx STEP
        rw [show (7 : Int).toNat = 7 from rfl]
        generalize leN (rb.take 7) = x at *
        generalize bAt rb 7 = y at *
        go_wp2_with fail
        exact ⟨⟨8, rfl, by omega, by omega, congrArg (Value.int IntKind.u64) (EQ.out _ (by omega))⟩, by simp [intOf]; omega⟩
    · have hjn : j = n := by omega
      subst hjn
      rw [Int.toNat_natCast, HZ.out]
      clear STEP HZ
      go_wp2_with fail
      go_ret2
      exact ⟨rfl, V.out⟩

theorem c8_Load (w : World) (g : Nat) (M : PM) (F : Nat → Prop) (at_ s : Int) (h : RepP w g M F) (ha : 0 ≤ at_ ∧ at_ ≤ 18446744073709551615) :
    Calls Tryz.prog 111 #[.pointer (some ⟨g, 0, none⟩), .int .u64 at_, .int .i64 s] w (Gives (.tuple #[.int .u64 (pLoad M at_ s).1, .int .i64 (pLoad M at_ s).2]) w) := by
  unfold pLoad
  cases hf : fitsZ s
  · rw [if_neg Bool.false_ne_true]
    exact c8_Load_no w g at_ s hf
  · rw [if_pos rfl]
    by_cases he : (pRead M at_ s).2 = 0
    · rw [if_pos he]
      exact c8_Load_ok w g M F at_ s h ha hf he
    · rw [if_neg he]
      exact c8_Load_err w g M F at_ s h ha hf (beq_false_of_ne he)

end Go.Proofs.YtfniahmfoigceaaGreat
