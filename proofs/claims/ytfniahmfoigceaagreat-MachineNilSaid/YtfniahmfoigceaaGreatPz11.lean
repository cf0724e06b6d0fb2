/-
  Texts, one behind the other: Mem6.
  Conditions: those that each theorem states.
-/
import Derived.BigRegion
import Derived.Test.YtfniahmfoigceaaGreatPz10

namespace Go.Proofs.YtfniahmfoigceaaGreat
open Go.RowKit
set_option linter.unusedVariables false
set_option linter.unusedSimpArgs false

theorem memW_sameP {w w' : World} {g : Nat} {M : PM} {F : Nat → Prop} {v : Value} (h : RepP w g M F) (b : Below w.heap.size w w') : MemW RepP g F M v w (.returned v) w' :=
  ⟨rfl, F, h.after b, Turn.of_below b, fun x hx => .inl hx⟩

set_option maxRecDepth 100000 in
set_option maxHeartbeats 2000000 in
theorem c8_Store_no (w : World) (g : Nat) (M : PM) (F : Nat → Prop) (at_ s n : Int) (h : RepP w g M F) (hf : fitsZ s = false) :
    Calls Tryz.prog 113 #[.pointer (some ⟨g, 0, none⟩), .int .u64 at_, .int .i64 s, .int .u64 n] w (MemW RepP g F M (.int .i64 1) w) := by
  have C := Lib.hid (c8_isOf s)
  rw [hf] at C
  clear hf
  have H := Lib.hid h
  clear h
  go_enter Tryz.func113, Tryz.ntmps113
  go_wp2_with fail
  refine (C.out _).mono ?_
  rintro e w1 ⟨rfl, b1⟩
  have V := Lib.hid b1
  clear b1
  go_wp2_with fail
  go_ret
  exact memW_sameP H.out V.out

set_option maxRecDepth 100000 in
set_option maxHeartbeats 2000000 in
theorem c8_Store_out (w : World) (g : Nat) (mv : Value) (L : List AR) (F : Nat → Prop) (at_ s n : Int) (h : RepQ w g mv L F) (ha : 0 ≤ at_ ∧ at_ ≤ 18446744073709551615) (hf : fitsZ s = true) (hw : pWh (arM L) at_ s = none) :
    Calls Tryz.prog 113 #[.pointer (some ⟨g, 0, none⟩), .int .u64 at_, .int .i64 s, .int .u64 n] w (MemW RepP g F (arM L) (.int .i64 80) w) := by
  have C := Lib.hid (c8_isOf s)
  rw [hf] at C
  have hs : 0 ≤ s ∧ s ≤ 1024 := by
    unfold fitsZ at hf
    simp only [Bool.or_eq_true, beq_iff_eq] at hf
    omega
  have D := Lib.hid fun w' (b : Below w.heap.size w w') => c8_find_out w' g mv L F at_ s (h.after b) ha hs hw
  rw [show rgZ = .agg #[.slice none 0 0, .slice none 0 0, .bool false] from rfl] at D
  have H : Hid (RepP w g (arM L) F) := Lib.hid ⟨mv, L, rfl, h⟩
  clear h hf hw
  go_enter Tryz.func113, Tryz.ntmps113
  go_wp2_with fail
  refine (C.out _).mono ?_
  rintro e w1 ⟨rfl, b1⟩
  have V := Lib.hid b1
  clear b1
  go_wp2_with fail
  refine (D.out _ V.out).mono ?_
  rintro e w2 ⟨rfl, b2⟩
  replace V := Lib.hid (below_next' V.out b2)
  clear b2
  go_wp2_with fail
  go_ret
  exact memW_sameP H.out (below_alloc V.out _)

set_option maxRecDepth 100000 in
set_option maxHeartbeats 2000000 in
theorem c8_Store_fixed (w : World) (g : Nat) (mv : Value) (L : List AR) (F : Nat → Prop) (at_ s n : Int) (h : RepQ w g mv L F) (ha : 0 ≤ at_ ∧ at_ ≤ 18446744073709551615) (hf : fitsZ s = true) (k o : Nat) (hw : pWh (arM L) at_ s = some (k, o)) (hfx : (arAt L k).a.fx = true) :
    Calls Tryz.prog 113 #[.pointer (some ⟨g, 0, none⟩), .int .u64 at_, .int .i64 s, .int .u64 n] w (MemW RepP g F (arM L) (.int .i64 82) w) := by
  have C := Lib.hid (c8_isOf s)
  rw [hf] at C
  have hs : 0 ≤ s ∧ s ≤ 1024 := by
    unfold fitsZ at hf
    simp only [Bool.or_eq_true, beq_iff_eq] at hf
    omega
  have D := Lib.hid fun w' (b : Below w.heap.size w w') => c8_find_in w' g mv L F at_ s (h.after b) ha hs k o hw
  have hk := (pWh_some hw).2.1
  rw [arM_len] at hk
  obtain ⟨Ab, cb, hvb, _, _⟩ := own_slice (h.own k hk).1
  obtain ⟨Ak, ck, hvk, _, _⟩ := own_slice (h.own k hk).2
  unfold rgV at D
  rw [hfx, hvb, hvk] at D
  have H : Hid (RepP w g (arM L) F) := Lib.hid ⟨mv, L, rfl, h⟩
  clear h hf hw hfx hvb hvk
  generalize (arAt L k).a.b.length = lb at *
  generalize (arAt L k).a.bl.length = lk at *
  go_enter Tryz.func113, Tryz.ntmps113
  go_wp2_with fail
  refine (C.out _).mono ?_
  rintro e w1 ⟨rfl, b1⟩
  have V := Lib.hid b1
  clear b1
  go_wp2_with fail
  refine (D.out _ V.out).mono ?_
  rintro e w2 ⟨rfl, b2⟩
  replace V := Lib.hid (below_next' V.out b2)
  clear b2
  go_wp2_with fail
  go_ret
  exact memW_sameP H.out (below_alloc V.out _)

set_option maxRecDepth 100000 in
set_option maxHeartbeats 4000000 in
theorem c8_Store_in (w : World) (g : Nat) (mv : Value) (L : List AR) (F : Nat → Prop) (at_ s n : Int) (h : RepQ w g mv L F) (ha : 0 ≤ at_ ∧ at_ ≤ 18446744073709551615) (hf : fitsZ s = true) (hn : 0 ≤ n ∧ n ≤ 18446744073709551615) (k o : Nat) (hw : pWh (arM L) at_ s = some (k, o)) (hfx : (arAt L k).a.fx = false) :
    Calls Tryz.prog 113 #[.pointer (some ⟨g, 0, none⟩), .int .u64 at_, .int .i64 s, .int .u64 n] w (MemW RepP g F ((arM L).set k (paSet (arAt L k).a o s.toNat n)) (.int .i64 0) w) := by
  have C := Lib.hid (c8_isOf s)
  rw [hf] at C
  have hs : 0 ≤ s ∧ s ≤ 8 := by
    unfold fitsZ at hf
    simp only [Bool.or_eq_true, beq_iff_eq] at hf
    omega
  have D := Lib.hid fun w' (b : Below w.heap.size w w') => c8_find_in w' g mv L F at_ s (h.after b) ha ⟨hs.1, by omega⟩ k o hw
  obtain ⟨_, hk, _, hfit, _⟩ := pWh_some hw
  have hok := h.ok k hk
  rw [arM_len] at hk
  rw [arM_at] at hok hfit
  obtain ⟨hob, hbl, hb1024, _⟩ := hok
  have hfit2 := hfit hs.1
  have s1 : 1 ≤ s := by
    unfold fitsZ at hf
    simp only [Bool.or_eq_true, beq_iff_eq] at hf
    omega
  obtain ⟨sn, rfl⟩ : ∃ sn : Nat, s = sn := ⟨s.toNat, by omega⟩
  have en : ((sn : Int)).toNat = sn := by omega
  rw [en] at hfit2 ⊢
  obtain ⟨Ab, cb, hvb, hcb1, hcb2⟩ := own_slice (h.own k hk).1
  obtain ⟨Ak, ck, hvk, hck1, hck2⟩ := own_slice (h.own k hk).2
  obtain ⟨gb, hAb, _, _⟩ := own_addr (by have := (h.own k hk).1; rw [hvb] at this; exact this) (by omega)
  obtain ⟨gk, hAk, _, _⟩ := own_addr (by have := (h.own k hk).2; rw [hvk] at this; exact this) (by omega)
  subst hAb
  subst hAk
  unfold rgV at D
  rw [hfx, hvb, hvk, hbl] at D
  have HVB := Lib.hid hvb
  have HVK := Lib.hid hvk
  have HBL := Lib.hid hbl
  have HLT : Hid (∀ x, F x → x < w.heap.size) := Lib.hid fun x hx => h.lt hx
  have HEND : Hid (∀ w', (∃ b' bl', b' = putN (arAt L k).a.b o (leB n sn) ∧ bl' = putN (arAt L k).a.bl o (List.replicate sn false) ∧ RepQ w' g mv (L.set k (arPut (arAt L k) b' bl')) F) → RepP w' g ((arM L).set k (paSet (arAt L k).a o sn n)) F) := Lib.hid (by
    rintro w' ⟨b', bl', rfl, rfl, hr⟩
    exact ⟨mv, _, (arM_put _ _).symm, hr⟩)
  have Q0 : Hid (∀ w', Below w.heap.size w w' → Turn F w w' ∧ RepQ w' g mv (L.set k (arPut (arAt L k) (arAt L k).a.b (arAt L k).a.bl)) F) := Lib.hid fun w' b => ⟨Turn.of_below b, by
    rw [arPut_self hk]
    exact h.after b⟩
  clear h hw hfit en hvb hvk hbl hfx hob hf
  unfold maxLen at hcb2 hck2
  generalize hlen : (arAt L k).a.b.length = lb at *
  have HLEN := Lib.hid hlen
  clear hlen
  go_enter Tryz.func113, Tryz.ntmps113
  go_wp2_with fail
  refine (C.out _).mono ?_
  rintro e w1 ⟨rfl, b1⟩
  have V := Lib.hid b1
  clear b1
  go_wp2_with fail
  refine (D.out _ V.out).mono ?_
  rintro e w2 ⟨rfl, b2⟩
  have HG : Hid (∀ x, F x → w2.heap.size ≠ x) := Lib.hid fun x hx e => by have := HLT.out x hx; have := (below_next' V.out b2).size; omega
  replace V := Lib.hid (below_alloc (below_next' V.out b2) (.cells #[.slice (some ⟨gb, 0, none⟩) lb cb, .slice (some ⟨gk, 0, none⟩) lb ck, .bool false] 159))
  have BX : Hid (Blk w2.heap.size #[.slice (some ⟨gb, 0, none⟩) lb cb, .slice (some ⟨gk, 0, none⟩) lb ck, .bool false] 159 (w2.alloc (.cells #[.slice (some ⟨gb, 0, none⟩) lb cb, .slice (some ⟨gk, 0, none⟩) lb ck, .bool false] 159))) := Lib.hid (Blk.new w2 _ _ rfl)
  replace Q0 := Lib.hid (Q0.out _ V.out)
  clear b2 C D
  go_wp2_with fail
  generalize hgr : w2.heap.size = gr at *
  generalize hw1 : w2.alloc (.cells #[.slice (some ⟨gb, 0, none⟩) lb cb, .slice (some ⟨gk, 0, none⟩) lb ck, .bool false] 159) = w3 at *
  clear hw1 hgr
  go_loopw [31] (fun iv wr => ∃ (j : Int) (b' : List Int) (bl' : List Bool), iv = .int .i64 j ∧ 0 ≤ j ∧ j ≤ sn ∧ b'.length = lb ∧ bl'.length = lb ∧ Hid (putN b' (o + j.toNat) (leB (n / 256 ^ j.toNat) (sn - j.toNat)) = putN (arAt L k).a.b o (leB n sn) ∧ putN bl' (o + j.toNat) (List.replicate (sn - j.toNat) false) = putN (arAt L k).a.bl o (List.replicate sn false)) ∧ Hid (Turn F w wr ∧ RepQ wr g mv (L.set k (arPut (arAt L k) b' bl')) F) ∧ Hid (Blk gr #[.slice (some ⟨gb, 0, none⟩) lb cb, .slice (some ⟨gk, 0, none⟩) lb ck, .bool false] 159 wr)) (fun iv wr => sn - (intOf iv).toNat)
  case atStart => exact ⟨0, (arAt L k).a.b, (arAt L k).a.bl, rfl, by omega, by omega, HLEN.out, HBL.out, Lib.hid ⟨by simp, by simp⟩, Q0, BX⟩
  case round =>
    clear Q0 BX
    obtain ⟨j, b', bl', rfl, hj0, hj, hb', hbl', HP, Q, BX⟩ := hrel
    by_cases hlt : j < sn
    · obtain ⟨jn, rfl⟩ : ∃ jn : Nat, j = jn := ⟨j.toNat, by omega⟩
      obtain ⟨m, hm⟩ : ∃ m, sn - jn = m + 1 := ⟨sn - jn - 1, by omega⟩
      have hm2 : sn - (jn + 1) = m := by omega
      have en2 : ((jn : Int)).toNat = jn := by omega
      rw [en2] at HP
      have HP2 : Hid (∀ v, v = n / 256 ^ jn % 256 → putN (b'.set (o + jn) v) (o + (jn + 1)) (leB (n / 256 ^ (jn + 1)) (sn - (jn + 1))) = putN (arAt L k).a.b o (leB n sn) ∧ putN (bl'.set (o + jn) false) (o + (jn + 1)) (List.replicate (sn - (jn + 1)) false) = putN (arAt L k).a.bl o (List.replicate sn false)) := Lib.hid (by
        intro v hv
        have hp := HP.out
        rw [hm, leB_succ, List.replicate_succ, putN_cons, putN_cons, ← hv] at hp
        rw [hm2, show n / 256 ^ (jn + 1) = n / 256 ^ jn / 256 by rw [Int.pow_succ, Int.ediv_ediv_of_nonneg (Int.le_of_lt (Int.pow_pos (by omega)))]]
        exact hp)
      have QS : Hid (∀ v, 0 ≤ v ∧ v ≤ 255 → (Turn F w ((wr.setCell ⟨gb, o + jn, none⟩ (.int .u8 v)).setCell ⟨gk, o + jn, none⟩ (.bool false)).drew ∧ RepQ ((wr.setCell ⟨gb, o + jn, none⟩ (.int .u8 v)).setCell ⟨gk, o + jn, none⟩ (.bool false)).drew g mv (L.set k (arPut (arAt L k) (b'.set (o + jn) v) (bl'.set (o + jn) false))) F) ∧ F gb ∧ F gk ∧ gk ≠ gb) := Lib.hid (by
        intro v hv
        obtain ⟨RS, fb, fk, n1, n2⟩ := Q.out.2.step (j := o + jn) hk (by omega) HVB.out HVK.out hv
        exact ⟨⟨((Q.out.1.setCell (p := ⟨gb, o + jn, none⟩) (Or.inl fb) (.int .u8 v)).setCell (p := ⟨gk, o + jn, none⟩) (Or.inl fk) (.bool false)).drew, RS.keep (fun x _ => rfl)⟩, fb, fk, n2⟩)
      obtain ⟨-, fb, fk, hne⟩ := QS.out 0 (by omega)
      have BXS : Hid (∀ v, Blk gr #[.slice (some ⟨gb, 0, none⟩) lb cb, .slice (some ⟨gk, 0, none⟩) lb ck, .bool false] 159 (wr.setCell ⟨gb, o + jn, none⟩ (.int .u8 v)).drew ∧ Blk gr #[.slice (some ⟨gb, 0, none⟩) lb cb, .slice (some ⟨gk, 0, none⟩) lb ck, .bool false] 159 ((wr.setCell ⟨gb, o + jn, none⟩ (.int .u8 v)).setCell ⟨gk, o + jn, none⟩ (.bool false)).drew) := Lib.hid fun v =>
        have h1 : Blk gr _ _ (wr.setCell ⟨gb, o + jn, none⟩ (.int .u8 v)).drew := BX.out.other (.int .u8 v) (HG.out gb fb)
        ⟨h1, h1.other (.bool false) (HG.out gk fk)⟩
      have g1 := HG.out gb fb
      have g2 := HG.out gk fk
      have hown := Q.out.2.own k (by rw [List.length_set]; exact hk)
      rw [arAt_set hk, if_pos rfl] at hown
      obtain ⟨hb1, hk1⟩ := hown
      simp only [arPut] at hb1 hk1
      rw [HVB.out, hb'] at hb1
      rw [HVK.out, hbl', HBL.out] at hk1
      have cb0 := hb1.cellAt (o + jn) (by omega)
      rw [byC_at _ (by omega)] at cb0
      have ck0 := hk1.cellAt (o + jn) (by omega)
      rw [boC_at _ (by omega)] at ck0
      have fb0 := hb1.frozenAt (o + jn)
      have fk0 := hk1.frozenAt (o + jn)
      have x0 := BX.out.cell 0
      have x1 := BX.out.cell 1
      have o0 : (0 : Int) ≤ o := by omega
      have jn8 : jn < 8 := by omega
      clear hb1 hk1 fb fk hm hm2 en2 HP
      go_wp2_with fail
      go_region
      have hv0 : 0 ≤ n / 2 ^ (8 * jn) % 256 ∧ n / 2 ^ (8 * jn) % 256 ≤ 255 := by omega
      have hv1 : n / 2 ^ (8 * jn) % 256 = n / 256 ^ jn % 256 := by rw [Int.pow_mul]; rfl
      generalize n / 2 ^ (8 * jn) % 256 = v at *
      have hp := HP2.out v hv1
      have q1 := (QS.out v hv0).1
      obtain ⟨bx1, bx2⟩ := BXS.out v
      have y1 := bx1.cell 1
      have hk0 : (wr.setCell ⟨gb, o + jn, none⟩ (.int .u8 v)).drew.cell? ⟨gk, o + jn, none⟩ = some (.bool (bl'.getD (o + jn) false)) := by
        rw [← ck0]
        exact World.cell?_of_block (Below.heap_setCell _ _ _ _ hne)
      have HP := Lib.hid hp
      have Q1 := Lib.hid q1
      have BX2 := Lib.hid bx2
      clear hp q1 bx1 bx2 QS HP2 BXS BX Q cb0 ck0 x0 x1 hv1
      have en3 : ((jn : Int) + 1).toNat = jn + 1 := by omega
      go_wp2_with fail
      exact ⟨⟨jn + 1, b'.set (o + jn) v, bl'.set (o + jn) false, rfl, by omega, by omega, by rw [List.length_set]; exact hb', by rw [List.length_set]; exact hbl', by rw [en3]; exact HP, Q1, BX2⟩, by simp [intOf]; omega⟩
    · have hjs : j = sn := by omega
      subst hjs
      rw [Int.toNat_natCast, Nat.sub_self] at HP
      have HM := Lib.hid (HEND.out wr ⟨b', bl', HP.out.1, HP.out.2, Q.out.2⟩)
      go_wp2_with fail
      go_ret
      exact ⟨rfl, F, HM.out, Q.out.1, fun x hx => .inl hx⟩

theorem c8_Store (w : World) (g : Nat) (M : PM) (F : Nat → Prop) (at_ s n : Int) (h : RepP w g M F) (ha : 0 ≤ at_ ∧ at_ ≤ 18446744073709551615) (hn : 0 ≤ n ∧ n ≤ 18446744073709551615) :
    Calls Tryz.prog 113 #[.pointer (some ⟨g, 0, none⟩), .int .u64 at_, .int .i64 s, .int .u64 n] w (MemW RepP g F (pStore M at_ s n).1 (.int .i64 (pStore M at_ s n).2) w) := by
  obtain ⟨mv, L, rfl, h⟩ := h
  unfold pStore
  cases hf : fitsZ s
  · rw [if_neg Bool.false_ne_true]
    exact c8_Store_no w g _ F at_ s n ⟨mv, L, rfl, h⟩ hf
  · rw [if_pos rfl]
    cases hw : pWh (arM L) at_ s with
    | none => exact c8_Store_out w g mv L F at_ s n h ha hf hw
    | some p =>
      obtain ⟨k, o⟩ := p
      simp only
      rw [arM_at]
      cases hfx : (arAt L k).a.fx
      · rw [if_neg Bool.false_ne_true]
        exact c8_Store_in w g mv L F at_ s n h ha hf hn k o hw hfx
      · rw [if_pos rfl]
        exact c8_Store_fixed w g mv L F at_ s n h ha hf k o hw hfx

end Go.Proofs.YtfniahmfoigceaaGreat
