/-
  Layer 10: the document's Right, and whether two are told the same; the document's examples.
  Conditions: the rows are not of memory's size.
-/
import Derived.Test.YtlgpollefkkbdaaHelp6
namespace Go.Proofs.Ytlgpollefkkbdaa
open Go.RowKit
set_option maxRecDepth 100000
set_option linter.unusedVariables false
set_option linter.unusedSimpArgs false

theorem hPre_no {s p : List Int} {k : Nat} (hk : k < p.length) (hl : p.length ≤ s.length) (h : bAt s k ≠ bAt p k) : hPre s p = false := by
  unfold hPre
  rw [decide_eq_true hl, Bool.true_and]
  refine byt_ne (k := k) (by rw [List.length_take]; omega) (by rw [List.length_take]; omega) ?_
  rw [bAt_take s p.length k hk]
  exact h
theorem hPre_yes {s p : List Int} (hl : p.length ≤ s.length) (h : ∀ k, k < p.length → bAt s k = bAt p k) : hPre s p = true := by
  unfold hPre
  rw [decide_eq_true hl, Bool.true_and, beq_iff_eq]
  refine byt_ext (by rw [List.length_take]; omega) fun k hk => ?_
  rw [List.length_take] at hk
  rw [bAt_take s p.length k (by omega)]
  exact h k (by omega)

set_option maxHeartbeats 2000000 in
theorem r10_Right (i : Int) (told : List Int) (A : Option Addr) (n c : Nat) (w : World) (hn : told.length = n) (hnc : n ≤ c) (hn1 : n ≤ 1000) (h : BytS w A told) :
    Calls Try.prog 16 #[.int .i64 i, .slice A n c] w (Gives (.bool (hRt i told)) w) := by
  have C := Lib.hid (r10_Sig i w)
  have HT := hS_told i
  unfold hRt
  generalize hS i = S at *
  generalize hOk i = ok at *
  obtain ⟨pre, tells, draws, most⟩ := S
  dsimp only at *
  cases ok
  · rw [Bool.false_and]
    clear h
    go_enter Try.func16, Try.ntmps16
    go_wp2_with fail
    refine (C.out).mono ?_
    rintro e w1 ⟨A1, c1, he, b1, hrow⟩
    unfold sgV at he
    subst he
    have V := Lib.hid (below_alloc b1 (.cells #[.slice A1 pre.length c1, .int .u8 tells, .bool draws, .int .u64 most] 26))
    clear b1 hrow HT
    generalize pre.length = tl at *
    go_wp2_with fail
    go_ret
    exact ⟨rfl, V.out⟩
  rw [Bool.true_and]
  by_cases hlt : n < pre.length
  · rw [show hPre told pre = false by unfold hPre; rw [decide_eq_false (by omega), Bool.false_and]]
    clear h
    have hlt' : (n : Int) < pre.length := by omega
    go_enter Try.func16, Try.ntmps16
    go_wp2_with fail
    refine (C.out).mono ?_
    rintro e w1 ⟨A1, c1, he, b1, hrow⟩
    unfold sgV at he
    subst he
    have V := Lib.hid (below_alloc b1 (.cells #[.slice A1 pre.length c1, .int .u8 tells, .bool draws, .int .u64 most] 26))
    clear b1 hrow HT C
    generalize pre.length = tl at *
    go_wp2_with fail
    go_ret
    exact ⟨rfl, V.out⟩
  have hge : (pre.length : Int) ≤ n := by omega
  have HB := Lib.hid h
  have HN := Lib.hid hn
  have HNO : Hid (∀ k, k < pre.length → bAt told k ≠ bAt pre k → hPre told pre = false) := Lib.hid fun k hk he => hPre_no hk (by omega) he
  have HYES : Hid ((∀ k, k < pre.length → bAt told k = bAt pre k) → hPre told pre = true) := Lib.hid fun he => hPre_yes (by omega) he
  have hp4 := HT.1
  generalize hPre told pre = sb at *
  clear h hn HT
  go_enter Try.func16, Try.ntmps16
  go_wp2_with fail
  refine (C.out).mono ?_
  rintro e w1 ⟨A1, c1, he, b1, hrow⟩
  unfold sgV at he
  subst he
  have V := Lib.hid (below_alloc b1 (.cells #[.slice A1 pre.length c1, .int .u8 tells, .bool draws, .int .u64 most] 26))
  obtain ⟨A2, c2, hv, k1, k2⟩ := own_slice hrow
  injection hv with hv1 hv2 hv3
  subst hv1 hv3
  have HP := Lib.hid ((own_bytS rfl hrow).after (below_alloc (Below.refl _ _) (.cells #[.slice A1 pre.length c1, .int .u8 tells, .bool draws, .int .u64 most] 26)))
  have Z0 := Lib.hid (Blk.new w1 #[.slice A1 pre.length c1, .int .u8 tells, .bool draws, .int .u64 most] 26 rfl)
  have HB1 := Lib.hid (HB.out.after V.out)
  clear b1 hrow hv2 C hlt HB k2
  generalize hpl : pre.length = tl at *
  have HPL := Lib.hid hpl
  clear hpl
  have tl0 : (0 : Int) ≤ tl := by omega
  go_wp2_with fail
  generalize hgs : w1.heap.size = gs at *
  clear hgs
  generalize hw2 : w1.alloc (.cells #[.slice A1 tl c1, .int .u8 tells, .bool draws, .int .u64 most] 26) = w2 at *
  clear hw2
  go_loopw [7] (fun iv wr => ∃ j : Nat, iv = .int .i64 j ∧ j ≤ tl ∧ Hid (∀ k, k < j → bAt told k = bAt pre k) ∧ Hid (Below w2.heap.size w2 wr)) (fun iv wr => tl - (intOf iv).toNat)
  case atStart => exact ⟨0, rfl, by omega, Lib.hid (fun k hk => absurd hk (by omega)), Lib.hid (Below.refl _ _)⟩
  case round =>
    obtain ⟨j, rfl, hj, HK, Q⟩ := hrel
    have hj0 : (0 : Int) ≤ j := by omega
    have z0 : wr.cell? ⟨gs, 0, none⟩ = some (.slice A1 tl c1) := Blk.cell (Z0.out.after Q.out) 0
    by_cases hlt : (j : Int) < tl
    · have LT : Hid (j < told.length) := Lib.hid (by rw [HN.out]; omega)
      have LT' : Hid (j < pre.length) := Lib.hid (by rw [HPL.out]; omega)
      obtain ⟨g, o, hA, hg, hc⟩ := (HB1.out.after Q.out) (by have := LT.out; omega)
      obtain ⟨g', o', hB, hg', hd⟩ := (HP.out.after Q.out) (by have := LT'.out; omega)
      have c0 := hc j LT.out
      have d0 := hd j LT'.out
      have NO : Hid (bAt told j ≠ bAt pre j → sb = false) := Lib.hid (fun he => HNO.out j (by omega) he)
      have YES : Hid (bAt told j = bAt pre j → ∀ k, k < j + 1 → bAt told k = bAt pre k) := Lib.hid (fun he k hk => by
        by_cases hkj : k = j
        · rw [hkj]; exact he
        · exact HK.out k (by omega))
      have hjn : (j : Int) < n := by omega
      clear hc hd
      generalize bAt told j = x at *
      generalize bAt pre j = y at *
      subst hA hB
      clear HB1 HP HNO HYES
      have z1 := fun q => (show (wr.drewN q).cell? ⟨gs, 0, none⟩ = some (.slice (some ⟨g', o', none⟩) tl c1) from z0)
      by_cases h0 : x = y
      rotate_left 1
      · have E : Hid (sb = false) := Lib.hid (NO.out h0)
        clear NO YES HK
        go_wp2_with fail
        go_quiet (fail)
        go_wp2
        go_ret
        exact ⟨by rw [E.out]; rfl, below_next' V.out (below_drewN Q.out _)⟩
      have HR := Lib.hid (YES.out h0)
      clear NO YES HK
      go_wp2_with fail
      go_quiet (fail)
      go_wp2
      go_round
      case rel => exact ⟨j + 1, by go_num, by omega, HR, Lib.hid (below_drewN Q.out _)⟩
      case measure => simp [intOf]; omega
    · have hjn : j = tl := by omega
      have E : Hid (sb = true) := Lib.hid (HYES.out (fun k hk => HK.out k (by omega)))
      clear HK hjn
      go_wp2_with fail
      go_ret
      exact ⟨by rw [E.out]; rfl, below_next' V.out Q.out⟩

set_option maxHeartbeats 2000000 in
theorem r10_Same (S : Sg) (A B : Option Addr) (n c d : Nat) (w : World) (hn : S.told.length = n) (hn1 : n ≤ 1000) (h : BytS w A S.told) (h' : BytS w B S.told) :
    Calls Try.prog 13 #[.agg #[.slice A n c, .int .u8 S.tells, .bool S.draws, .int .u64 S.most], .agg #[.slice B n d, .int .u8 S.tells, .bool S.draws, .int .u64 S.most]] w (Gives (.bool true) w) := by
  obtain ⟨told, tells, draws, most⟩ := S
  dsimp only at *
  have B1 := Lib.hid (below_alloc (below_alloc (Below.refl w.heap.size w) (.cells #[.slice A n c, .int .u8 tells, .bool draws, .int .u64 most] 26)) (.cells #[.slice B n d, .int .u8 tells, .bool draws, .int .u64 most] 26))
  have Y0 := Lib.hid ((Blk.new w #[.slice A n c, .int .u8 tells, .bool draws, .int .u64 most] 26 rfl).after (below_alloc (Below.refl _ _) (.cells #[.slice B n d, .int .u8 tells, .bool draws, .int .u64 most] 26)))
  have Z0 := Lib.hid (Blk.new (w.alloc (.cells #[.slice A n c, .int .u8 tells, .bool draws, .int .u64 most] 26)) #[.slice B n d, .int .u8 tells, .bool draws, .int .u64 most] 26 rfl)
  rw [show (w.alloc (.cells #[.slice A n c, .int .u8 tells, .bool draws, .int .u64 most] 26)).heap.size = w.heap.size + 1 by simp] at Z0
  have HA := Lib.hid (h.after B1.out)
  have HB := Lib.hid (h'.after B1.out)
  have HN := Lib.hid hn
  have n0 : (0 : Int) ≤ n := by omega
  have FIN : Hid (∀ u, Below ((w.alloc (.cells #[.slice A n c, .int .u8 tells, .bool draws, .int .u64 most] 26)).alloc (.cells #[.slice B n d, .int .u8 tells, .bool draws, .int .u64 most] 26)).heap.size ((w.alloc (.cells #[.slice A n c, .int .u8 tells, .bool draws, .int .u64 most] 26)).alloc (.cells #[.slice B n d, .int .u8 tells, .bool draws, .int .u64 most] 26)) u → Gives (.bool true) w (.returned (.bool true)) u) := Lib.hid fun u b => ⟨rfl, below_next' B1.out b⟩
  clear B1
  have hdd : (draws != draws) = false := by cases draws <;> rfl
  clear h h' hn
  go_enter Try.func13, Try.ntmps13
  go_wp2_with fail
  generalize hgs : w.heap.size = gs at *
  clear hgs
  generalize hw2 : (w.alloc (.cells #[.slice A n c, .int .u8 tells, .bool draws, .int .u64 most] 26)).alloc (.cells #[.slice B n d, .int .u8 tells, .bool draws, .int .u64 most] 26) = w2 at *
  clear hw2
  go_loopw [5] (fun iv wr => ∃ j : Nat, iv = .int .i64 j ∧ j ≤ n ∧ Hid (Below w2.heap.size w2 wr)) (fun iv wr => n - (intOf iv).toNat)
  case atStart => exact ⟨0, rfl, by omega, Lib.hid (Below.refl _ _)⟩
  case round =>
    obtain ⟨j, rfl, hj, Q⟩ := hrel
    have hj0 : (0 : Int) ≤ j := by omega
    have z0 : wr.cell? ⟨gs, 0, none⟩ = some (.slice A n c) := Blk.cell (Y0.out.after Q.out) 0
    have y0 : wr.cell? ⟨gs + 1, 0, none⟩ = some (.slice B n d) := Blk.cell (Z0.out.after Q.out) 0
    by_cases hlt : (j : Int) < n
    · obtain ⟨g, o, hA, hg, hc⟩ := (HA.out.after Q.out) (by rw [HN.out]; omega)
      obtain ⟨g', o', hB, hg', hd⟩ := (HB.out.after Q.out) (by rw [HN.out]; omega)
      have c0 := hc j (by rw [HN.out]; omega)
      have d0 := hd j (by rw [HN.out]; omega)
      clear hc hd
      generalize bAt told j = x at *
      subst hA hB
      clear HA HB
      have z1 := fun q => (show (wr.drewN q).cell? ⟨gs, 0, none⟩ = some (.slice (some ⟨g, o, none⟩) n c) from z0)
      have y1 := fun q => (show (wr.drewN q).cell? ⟨gs + 1, 0, none⟩ = some (.slice (some ⟨g', o', none⟩) n d) from y0)
      go_wp2_with fail
      go_quiet (fail)
      go_wp2
      go_round
      case rel => exact ⟨j + 1, by go_num, by omega, Lib.hid (below_drewN Q.out _)⟩
      case measure => simp [intOf]; omega
    · go_wp2_with fail
      go_ret
      exact FIN.out _ Q.out

end Go.Proofs.Ytlgpollefkkbdaa
