/-
  Texts, one behind the other: St5, St6, St7, St8.
  Conditions: those that each theorem states.
-/
import Derived.Test.YtdgckjkdimnpoaaMl7
import Derived.StillTailTactics

namespace Go.Proofs.Ytdgckjkdimnpoaa
open Go Go.RowKit
set_option maxRecDepth 100000
set_option linter.unusedVariables false
set_option linter.unusedSimpArgs false

def stIn (x : St) : Prop := (∀ i, vIn (x.r i)) ∧ ∀ i, slIn (x.s i)
theorem all_no {n j : Nat} {f : Nat → Bool} (hj : j < n) (h : f j = false) : ((List.range n).all f) = false := by
  rw [List.all_eq_false]
  exact ⟨j, List.mem_range.mpr hj, by rw [h]; exact Bool.false_ne_true⟩
theorem all_yes {n : Nat} {f : Nat → Bool} (h : ∀ t, t < n → f t = true) : ((List.range n).all f) = true := by
  rw [List.all_eq_true]
  exact fun t ht => h t (List.mem_range.mp ht)
theorem all_get {n j : Nat} {f : Nat → Bool} (h : ((List.range n).all f) = true) (hj : j < n) : f j = true := List.all_eq_true.mp h j (List.mem_range.mpr hj)
theorem stR_no1 {x : St} {j : Nat} (hj : j < 11) (h : vR (x.r j) = false) : stR x = false := by
  unfold stR sRr
  rw [all_no hj h]; rfl
theorem stR_no2 {x : St} {j : Nat} (hj : j < 64) (h : slR (x.s j) = false) : stR x = false := by
  unfold stR sRs
  rw [all_no hj h, Bool.and_false]
theorem stR_yes {x : St} (h1 : ∀ t, t < 11 → vR (x.r t) = true) (h2 : ∀ t, t < 64 → slR (x.s t) = true) : stR x = true := by
  unfold stR sRr sRs
  rw [all_yes h1, all_yes h2]; rfl
set_option maxHeartbeats 8000000 in
theorem sp_right (x : St) (w : World) (hx : stIn x) : Calls Try.prog 13 #[stV x] w (Gives (.bool (stR x)) w) := by
  have RV := Lib.hid fun j w => vp_right (x.r j) w (hx.1 j)
  have RS := Lib.hid fun j w => sp_isRightSlot (x.s j) w (hx.2 j)
  have IR := Lib.hid fun (j : Nat) (hj : j < 11) w => run_index_reg x hj w
  have IS := Lib.hid fun (j : Nat) (hj : j < 64) w => run_index_slot x hj w
  have NO1 := Lib.hid fun (j : Nat) (hj : j < 11) (h : vR (x.r j) = false) => stR_no1 hj h
  have NO2 := Lib.hid fun (j : Nat) (hj : j < 64) (h : slR (x.s j) = false) => stR_no2 hj h
  have YES := Lib.hid (stR_yes (x := x))
  generalize stR x = R at *
  have X0 := Lib.hid (stB.new w x rfl)
  have B0 := Lib.hid (below_alloc (Below.refl w.heap.size w) (.cells (stC x) 36))
  go_enter Try.func13, Try.ntmps13
  go_wp2_with (first | (refine st_loadr rfl _ rfl rfl X0.out ?_) | fail)
  go_loopw [9] (fun iv wr => ∃ j : Nat, iv = .int .i64 j ∧ j ≤ 11 ∧ Hid (stB w.heap.size x wr ∧ Below w.heap.size w wr ∧ ∀ t : Nat, t < j → vR (x.r t) = true)) (fun iv wr => 11 - (intOf iv).toNat)
  case atStart => exact ⟨0, rfl, by omega, Lib.hid ⟨X0.out, B0.out, fun t ht => by omega⟩⟩
  case round =>
    obtain ⟨j, rfl, hj, V⟩ := hrel
    have j0 : (0 : Int) ≤ (j : Int) := by omega
    by_cases hlt : (j : Int) < 11
    · have IJ := IR.out j (by omega)
      have RJ := Lib.hid (RV.out j)
      have NJ := Lib.hid (NO1.out j (by omega))
      have V1 := Lib.hid (V.out.1.after (below_alloc (Below.refl _ wr) (.cells (vCells (x.r j)) 30)))
      have V2 := Lib.hid (below_alloc V.out.2.1 (.cells (vCells (x.r j)) 30))
      go_wp2_with fail
      clear IJ
      generalize wr.alloc (.cells (vCells (x.r j)) 30) = w3 at *
      refine (RJ.out _).mono ?_; rintro e w4 ⟨rfl, b4⟩
      have V3 := Lib.hid (V1.out.after b4)
      have V4 := Lib.hid (below_next' V2.out b4)
      clear V1 V2 b4 RJ
      cases hv : vR (x.r j)
      · have Y := NJ.out hv
        subst Y
        clear hv
        go_wp2_with fail
        go_ret
        exact ⟨rfl, V4.out⟩
      · have VN : Hid (∀ t : Nat, t < j + 1 → vR (x.r t) = true) := Lib.hid fun t ht => by
          by_cases e : t = j
          · subst e; exact hv
          · exact V.out.2.2 t (by omega)
        clear hv NJ
        go_wp2_with fail
        go_round
        case rel => exact ⟨j + 1, by go_num, by omega, Lib.hid ⟨V3.out, V4.out, VN.out⟩⟩
        case measure => simp [intOf]; omega
    · have hj2 : j = 11 := by omega
      subst hj2
      have V1 := Lib.hid V.out.1
      have V2 := Lib.hid V.out.2.1
      have V3 := Lib.hid V.out.2.2
      clear V IR RV NO1 X0 B0
      go_wp2_with (first | (refine st_loadz rfl _ rfl rfl V1.out ?_) | fail)
      go_loopw [18] (fun iv wr => ∃ j : Nat, iv = .int .i64 j ∧ j ≤ 64 ∧ Hid (stB w.heap.size x wr ∧ Below w.heap.size w wr ∧ ∀ t : Nat, t < j → slR (x.s t) = true)) (fun iv wr => 64 - (intOf iv).toNat)
      case atStart => exact ⟨0, rfl, by omega, Lib.hid ⟨V1.out, V2.out, fun t ht => by omega⟩⟩
      case round =>
        obtain ⟨j, rfl, hj, V⟩ := hrel
        have j0 : (0 : Int) ≤ (j : Int) := by omega
        by_cases hlt : (j : Int) < 64
        · have IJ := IS.out j (by omega)
          have RJ := Lib.hid (RS.out j)
          have NJ := Lib.hid (NO2.out j (by omega))
          have V1 := Lib.hid (V.out.1.after (below_alloc (Below.refl _ wr) (.cells (slC (x.s j)) 33)))
          have V2 := Lib.hid (below_alloc V.out.2.1 (.cells (slC (x.s j)) 33))
          go_wp2_with fail
          clear IJ
          generalize wr.alloc (.cells (slC (x.s j)) 33) = w3 at *
          refine (RJ.out _).mono ?_; rintro e w4 ⟨rfl, b4⟩
          have V4 := Lib.hid (V1.out.after b4)
          have V5 := Lib.hid (below_next' V2.out b4)
          clear V1 V2 b4 RJ
          cases hv : slR (x.s j)
          · have Y := NJ.out hv
            subst Y
            clear hv
            go_wp2_with fail
            go_ret
            exact ⟨rfl, V5.out⟩
          · have VN : Hid (∀ t : Nat, t < j + 1 → slR (x.s t) = true) := Lib.hid fun t ht => by
              by_cases e : t = j
              · subst e; exact hv
              · exact V.out.2.2 t (by omega)
            clear hv NJ
            go_wp2_with fail
            go_round
            case rel => exact ⟨j + 1, by go_num, by omega, Lib.hid ⟨V4.out, V5.out, VN.out⟩⟩
            case measure => simp [intOf]; omega
        · have hj2 : j = 64 := by omega
          subst hj2
          have Y := YES.out V3.out V.out.2.2
          subst Y
          go_wp2_with fail
          go_ret
          exact ⟨rfl, V.out.2.1⟩
set_option maxHeartbeats 8000000 in
theorem sr_right (x : St) (w : World) (hx : stIn x) : Calls Try.prog 14 #[stV x] w (Gives (.bool (stR x)) w) := by
  have RV := Lib.hid fun j w => rv_right (x.r j) w (hx.1 j)
  have RS := Lib.hid fun j w => rv_right (x.s j).v w (hx.2 j)
  have NO1 := Lib.hid fun (j : Nat) (hj : j < 11) (h : vR (x.r j) = false) => stR_no1 hj h
  have NO2 := Lib.hid fun (j : Nat) (hj : j < 64) (h : slR (x.s j) = false) => stR_no2 hj h
  have YES := Lib.hid (stR_yes (x := x))
  generalize stR x = R at *
  have X0 := Lib.hid (stB.new w x rfl)
  have B0 := Lib.hid (below_alloc (Below.refl w.heap.size w) (.cells (stC x) 36))
  go_enter Try.func14, Try.ntmps14
  go_wp2_with fail
  go_loopw [3] (fun iv wr => ∃ j : Nat, iv = .int .i64 j ∧ j ≤ 11 ∧ Hid (stB w.heap.size x wr ∧ Below w.heap.size w wr ∧ ∀ t : Nat, t < j → vR (x.r t) = true)) (fun iv wr => 11 - (intOf iv).toNat)
  case atStart => exact ⟨0, rfl, by omega, Lib.hid ⟨X0.out, B0.out, fun t ht => by omega⟩⟩
  case round =>
    obtain ⟨j, rfl, hj, V⟩ := hrel
    have j0 : (0 : Int) ≤ (j : Int) := by omega
    by_cases hlt : (j : Int) < 11
    · have RJ := Lib.hid (RV.out j)
      have NJ := Lib.hid (NO1.out j (by omega))
      have hj' : Hid (j < 11) := Lib.hid (by omega)
      go_wp2_with (first | (refine st_loadV rfl _ rfl rfl (st_reg V.out.1 hj'.out (Nat.mul_comm _ _)) ?_) | fail)
      refine (RJ.out _).mono ?_; rintro e w4 ⟨rfl, b4⟩
      have V3 := Lib.hid (V.out.1.after b4)
      have V4 := Lib.hid (below_next' V.out.2.1 b4)
      clear b4 RJ
      cases hv : vR (x.r j)
      · have Y := NJ.out hv
        subst Y
        clear hv
        go_wp2_with fail
        go_ret
        exact ⟨rfl, V4.out⟩
      · have VN : Hid (∀ t : Nat, t < j + 1 → vR (x.r t) = true) := Lib.hid fun t ht => by
          by_cases e : t = j
          · subst e; exact hv
          · exact V.out.2.2 t (by omega)
        clear hv NJ
        go_wp2_with fail
        go_round
        case rel => exact ⟨j + 1, by go_num, by omega, Lib.hid ⟨V3.out, V4.out, VN.out⟩⟩
        case measure => simp [intOf]; omega
    · have hj2 : j = 11 := by omega
      subst hj2
      have V1 := Lib.hid V.out.1
      have V2 := Lib.hid V.out.2.1
      have V3 := Lib.hid V.out.2.2
      clear V RV NO1 X0 B0
      go_wp2_with fail
      go_loopw [4] (fun iv wr => ∃ j : Nat, iv = .int .i64 j ∧ j ≤ 64 ∧ Hid (stB w.heap.size x wr ∧ Below w.heap.size w wr ∧ ∀ t : Nat, t < j → slR (x.s t) = true)) (fun iv wr => 64 - (intOf iv).toNat)
      case atStart => exact ⟨0, rfl, by omega, Lib.hid ⟨V1.out, V2.out, fun t ht => by omega⟩⟩
      case round =>
        obtain ⟨j, rfl, hj, V⟩ := hrel
        have j0 : (0 : Int) ≤ (j : Int) := by omega
        by_cases hlt : (j : Int) < 64
        · have RJ := Lib.hid (RS.out j)
          have NJ := Lib.hid (NO2.out j (by omega))
          have hj' : Hid (j < 64) := Lib.hid (by omega)
          have ho : Hid (77 + j * 8 = 77 + 8 * j) := Lib.hid (by omega)
          go_wp2_with (first | (refine st_loadV rfl _ rfl rfl (st_slotv V.out.1 hj'.out ho.out) ?_) | fail)
          refine (RJ.out _).mono ?_; rintro e w4 ⟨rfl, b4⟩
          have V4 := Lib.hid (V.out.1.after b4)
          have V5 := Lib.hid (below_next' V.out.2.1 b4)
          clear b4 RJ
          have S7 : w4.cell? ⟨w.heap.size, 77 + j * 8 + 7, none⟩ = some (bV (x.s j).p) := st_slot V4.out hj'.out ho.out 7 _ rfl
          have S0 : w4.cell? ⟨w.heap.size, 77 + j * 8, none⟩ = some (.int .u8 (x.s j).v.k) := st_slot V4.out hj'.out ho.out 0 _ rfl
          have q := b8_eq255 (x.s j).p
          have q2 : (((x.s j).p.toNat : Int) != 255) = !((x.s j).p == 255#8) := by rw [bne, q]
          clear q
          unfold slR at NJ
          have VN : Hid ((vR (x.s j).v && ((x.s j).v.k == 0 || (x.s j).p == 255#8)) = true → ∀ t : Nat, t < j + 1 → slR (x.s t) = true) := Lib.hid fun h t ht => by
            by_cases e : t = j
            · subst e; exact h
            · exact V.out.2.2 t (by omega)
          cases h1 : vR (x.s j).v
          · rw [h1] at NJ
            have Y := NJ.out rfl
            subst Y
            clear h1 VN
            go_wp2_with fail
            go_ret
            exact ⟨rfl, V5.out⟩
          · rw [h1] at NJ VN
            cases h2 : ((x.s j).v.k == 0)
            · rw [h2] at NJ VN
              have h2' : ((x.s j).v.k != 0) = true := by simp [bne, h2]
              cases h3 : ((x.s j).p == 255#8)
              · rw [h3] at NJ q2
                have Y := NJ.out rfl
                subst Y
                clear VN h1 h3
                go_wp2_with fail
                go_ret
                exact ⟨rfl, V5.out⟩
              · rw [h3] at VN q2
                clear NJ h1 h3
                go_wp2_with fail
                go_round
                case rel => exact ⟨j + 1, by go_num, by omega, Lib.hid ⟨V4.out, V5.out, VN.out rfl⟩⟩
                case measure => simp [intOf]; omega
            · rw [h2] at VN
              have h2' : ((x.s j).v.k != 0) = false := by simp [bne, h2]
              clear NJ h1
              go_wp2_with fail
              go_round
              case rel => exact ⟨j + 1, by go_num, by omega, Lib.hid ⟨V4.out, V5.out, VN.out rfl⟩⟩
              case measure => simp [intOf]; omega
        · have hj2 : j = 64 := by omega
          subst hj2
          have Y := YES.out V3.out V.out.2.2
          subst Y
          go_wp2_with fail
          go_ret
          exact ⟨rfl, V.out.2.1⟩

end Go.Proofs.Ytdgckjkdimnpoaa

namespace Go.Proofs.Ytdgckjkdimnpoaa
open Go Go.RowKit
set_option maxRecDepth 100000
set_option linter.unusedVariables false
set_option linter.unusedSimpArgs false

def StDuo (a b : St) (w u : World) : Prop := stB w.heap.size a u ∧ stB (w.heap.size + 1) b u ∧ Below w.heap.size w u
theorem StDuo.new (a b : St) (w : World) : StDuo a b w ((w.alloc (.cells (stC a) 36)).alloc (.cells (stC b) 36)) := by
  have hz : (w.alloc (.cells (stC a) 36)).heap.size = w.heap.size + 1 := by simp
  refine ⟨(stB.new w a rfl).after (below_alloc (Below.refl _ _) _), stB.new _ b hz.symm, below_alloc (below_alloc (Below.refl _ _) _) _⟩
theorem StDuo.after {a b : St} {w u u' : World} (h : StDuo a b w u) (k : Below u.heap.size u u') : StDuo a b w u' := ⟨h.1.after k, h.2.1.after k, below_next' h.2.2 k⟩
theorem stW_no0 {a b : St} (h : stR a = false) : stW a b = false := by unfold stW; rw [h]; rfl
theorem stW_no1 {a b : St} (h : stR b = false) : stW a b = false := by unfold stW; rw [h, Bool.and_false]; rfl
theorem stW_no2 {a b : St} {j : Nat} (hj : j < 11) (h : vW (a.r j) (b.r j) = false) : stW a b = false := by
  unfold stW sWr
  rw [all_no hj h]; simp
theorem stW_no3 {a b : St} {j : Nat} (hj : j < 64) (h : slW (a.s j) (b.s j) = false) : stW a b = false := by
  unfold stW sWs
  rw [all_no hj h]; simp
theorem stW_yes {a b : St} (ha : stR a = true) (hb : stR b = true) (h1 : ∀ t, t < 11 → vW (a.r t) (b.r t) = true) (h2 : ∀ t, t < 64 → slW (a.s t) (b.s t) = true) : stW a b = true := by
  unfold stW sWr sWs
  rw [ha, hb, all_yes h1, all_yes h2]; rfl
set_option maxHeartbeats 8000000 in
theorem sp_within (a b : St) (w : World) (ha : stIn a) (hb : stIn b) : Calls Try.prog 15 #[stV a, stV b] w (Gives (.bool (stW a b)) w) := by
  have RA := Lib.hid fun w => sp_right a w ha
  have RB := Lib.hid fun w => sp_right b w hb
  have X0 := Lib.hid (StDuo.new a b w)
  have hz : (w.alloc (.cells (stC a) 36)).heap.size = w.heap.size + 1 := by simp
  cases hra : stR a
  · rw [stW_no0 hra]
    rw [hra] at RA
    go_enter Try.func15, Try.ntmps15
    go_wp2_with (first | (refine st_load rfl _ rfl rfl X0.out.1 ?_) | fail)
    refine (RA.out _).mono ?_; rintro e w1 ⟨rfl, b1⟩
    have X1 := Lib.hid (X0.out.after b1)
    clear X0 b1
    go_wp2_with fail
    go_ret
    exact ⟨rfl, X1.out.2.2⟩
  rw [hra] at RA
  cases hrb : stR b
  · rw [stW_no1 hrb]
    rw [hrb] at RB
    go_enter Try.func15, Try.ntmps15
    go_wp2_with (first | (refine st_load rfl _ rfl rfl X0.out.1 ?_) | fail)
    refine (RA.out _).mono ?_; rintro e w1 ⟨rfl, b1⟩
    have X1 := Lib.hid (X0.out.after b1)
    clear X0 b1
    go_wp2_with (first | (refine st_load_w (by kernel_rfl) _ rfl rfl X1.out.2.1 ?_) | fail)
    refine (RB.out _).mono ?_; rintro e w2 ⟨rfl, b2⟩
    have X2 := Lib.hid (X1.out.after b2)
    clear X1 b2
    go_wp2_with fail
    go_ret
    exact ⟨rfl, X2.out.2.2⟩
  rw [hrb] at RB
  have YES := Lib.hid (stW_yes hra hrb)
  clear hra hrb
  have VW := Lib.hid fun j w => vp_within (a.r j) (b.r j) w (ha.1 j) (hb.1 j)
  have SW := Lib.hid fun j w => sp_isWithinSlot (a.s j) (b.s j) w (ha.2 j) (hb.2 j)
  have IR := Lib.hid fun (j : Nat) (hj : j < 11) w => run_index_reg a hj w
  have IS := Lib.hid fun (j : Nat) (hj : j < 64) w => run_index_slot a hj w
  have NO1 := Lib.hid fun (j : Nat) (hj : j < 11) (h : vW (a.r j) (b.r j) = false) => stW_no2 (a := a) (b := b) hj h
  have NO2 := Lib.hid fun (j : Nat) (hj : j < 64) (h : slW (a.s j) (b.s j) = false) => stW_no3 (a := a) (b := b) hj h
  generalize stW a b = R at *
  go_enter Try.func15, Try.ntmps15
  go_wp2_with (first | (refine st_load rfl _ rfl rfl X0.out.1 ?_) | fail)
  refine (RA.out _).mono ?_; rintro e w1 ⟨rfl, b1⟩
  have X1 := Lib.hid (X0.out.after b1)
  clear X0 b1
  go_wp2_with (first | (refine st_load_w (by kernel_rfl) _ rfl rfl X1.out.2.1 ?_) | fail)
  refine (RB.out _).mono ?_; rintro e w2 ⟨rfl, b2⟩
  have X2 := Lib.hid (X1.out.after b2)
  clear X1 b2 RA RB hz
  go_wp2_with (first | (refine st_loadr rfl _ rfl rfl X2.out.1 ?_) | fail)
  go_loopw [19] (fun iv wr => ∃ j : Nat, iv = .int .i64 j ∧ j ≤ 11 ∧ Hid (StDuo a b w wr ∧ ∀ t : Nat, t < j → vW (a.r t) (b.r t) = true)) (fun iv wr => 11 - (intOf iv).toNat)
  case atStart => exact ⟨0, rfl, by omega, Lib.hid ⟨X2.out, fun t ht => by omega⟩⟩
  case round =>
    obtain ⟨j, rfl, hj, V⟩ := hrel
    have j0 : (0 : Int) ≤ (j : Int) := by omega
    by_cases hlt : (j : Int) < 11
    · have IJ := IR.out j (by omega)
      have RJ := Lib.hid (VW.out j)
      have NJ := Lib.hid (NO1.out j (by omega))
      have V1 := Lib.hid (V.out.1.after (below_alloc (Below.refl _ wr) (.cells (vCells (a.r j)) 30)))
      have C1 := Lib.hid (Blk.new wr (vCells (a.r j)) 30 rfl)
      go_upto_region 6 with fail
      clear IJ
      generalize wr.alloc (.cells (vCells (a.r j)) 30) = w3 at *
      generalize wr.heap.size = gx at *
      obtain ⟨c0, c1, c2, c3, c4, c5, c6⟩ := vB.cells C1.out
      obtain ⟨d0, d1, d2, d3, d4, d5, d6⟩ := reg_cells V1.out.2.1 (j := j) (by omega)
      go_still_tail 5, (by kernel_rfl)
      change wpList _ _ _ _ _ w3.drew
      have V2 := Lib.hid (V1.out.after (Below.drew (Below.refl _ _)))
      clear V1 C1 c0 c1 c2 c3 c4 c5 c6 d0 d1 d2 d3 d4 d5 d6
      generalize w3.drew = w4 at *
      go_wp2_with fail
      refine (RJ.out _).mono ?_; rintro e w5 ⟨rfl, b5⟩
      have V3 := Lib.hid (V2.out.after b5)
      clear V2 b5 RJ
      cases hv : vW (a.r j) (b.r j)
      · have Y := NJ.out hv
        subst Y
        clear hv
        go_wp2_with fail
        go_ret
        exact ⟨rfl, V3.out.2.2⟩
      · have VN : Hid (∀ t : Nat, t < j + 1 → vW (a.r t) (b.r t) = true) := Lib.hid fun t ht => by
          by_cases e : t = j
          · subst e; exact hv
          · exact V.out.2 t (by omega)
        clear hv NJ
        go_wp2_with fail
        go_round
        case rel => exact ⟨j + 1, by go_num, by omega, Lib.hid ⟨V3.out, VN.out⟩⟩
        case measure => simp [intOf]; omega
    · have hj2 : j = 11 := by omega
      subst hj2
      have V1 := Lib.hid V.out.1
      have V3 := Lib.hid V.out.2
      clear V IR VW NO1 X2
      go_wp2_with (first | (refine st_loadz rfl _ rfl rfl V1.out.1 ?_) | fail)
      go_loopw [33] (fun iv wr => ∃ j : Nat, iv = .int .i64 j ∧ j ≤ 64 ∧ Hid (StDuo a b w wr ∧ ∀ t : Nat, t < j → slW (a.s t) (b.s t) = true)) (fun iv wr => 64 - (intOf iv).toNat)
      case atStart => exact ⟨0, rfl, by omega, Lib.hid ⟨V1.out, fun t ht => by omega⟩⟩
      case round =>
        obtain ⟨j, rfl, hj, V⟩ := hrel
        have j0 : (0 : Int) ≤ (j : Int) := by omega
        by_cases hlt : (j : Int) < 64
        · have IJ := IS.out j (by omega)
          have RJ := Lib.hid (SW.out j)
          have NJ := Lib.hid (NO2.out j (by omega))
          have V1 := Lib.hid (V.out.1.after (below_alloc (Below.refl _ wr) (.cells (slC (a.s j)) 33)))
          have C1 := Lib.hid (Blk.new wr (slC (a.s j)) 33 rfl)
          go_upto_region 12 with fail
          clear IJ
          generalize wr.alloc (.cells (slC (a.s j)) 33) = w3 at *
          generalize wr.heap.size = gx at *
          obtain ⟨c0, c1, c2, c3, c4, c5, c6, c7⟩ := Blk.eight C1.out
          obtain ⟨d0, d1, d2, d3, d4, d5, d6, d7⟩ := slot_cells V1.out.2.1 (j := j) (by omega)
          go_still_tail 5, (by kernel_rfl)
          change wpList _ _ _ _ _ w3.drew
          have V2 := Lib.hid (V1.out.after (Below.drew (Below.refl _ _)))
          clear V1 C1 c0 c1 c2 c3 c4 c5 c6 c7 d0 d1 d2 d3 d4 d5 d6 d7
          generalize w3.drew = w4 at *
          go_wp2_with fail
          refine (RJ.out _).mono ?_; rintro e w5 ⟨rfl, b5⟩
          have V3 := Lib.hid (V2.out.after b5)
          clear V2 b5 RJ
          cases hv : slW (a.s j) (b.s j)
          · have Y := NJ.out hv
            subst Y
            clear hv
            go_wp2_with fail
            go_ret
            exact ⟨rfl, V3.out.2.2⟩
          · have VN : Hid (∀ t : Nat, t < j + 1 → slW (a.s t) (b.s t) = true) := Lib.hid fun t ht => by
              by_cases e : t = j
              · subst e; exact hv
              · exact V.out.2 t (by omega)
            clear hv NJ
            go_wp2_with fail
            go_round
            case rel => exact ⟨j + 1, by go_num, by omega, Lib.hid ⟨V3.out, VN.out⟩⟩
            case measure => simp [intOf]; omega
        · have hj2 : j = 64 := by omega
          subst hj2
          have Y := YES.out V3.out V.out.2
          subst Y
          go_wp2_with fail
          go_ret
          exact ⟨rfl, V.out.1.2.2⟩

end Go.Proofs.Ytdgckjkdimnpoaa

namespace Go.Proofs.Ytdgckjkdimnpoaa
open Go Go.RowKit
set_option maxRecDepth 100000
set_option linter.unusedVariables false
set_option linter.unusedSimpArgs false

set_option maxHeartbeats 8000000 in
theorem sr_within (a b : St) (w : World) (ha : stIn a) (hb : stIn b) : Calls Try.prog 16 #[stV a, stV b] w (Gives (.bool (stW a b)) w) := by
  have RA := Lib.hid fun w => sr_right a w ha
  have RB := Lib.hid fun w => sr_right b w hb
  have X0 := Lib.hid (StDuo.new a b w)
  have hz : (w.alloc (.cells (stC a) 36)).heap.size = w.heap.size + 1 := by simp
  cases hra : stR a
  · rw [stW_no0 hra]
    rw [hra] at RA
    go_enter Try.func16, Try.ntmps16
    go_wp2_with (first | (refine st_load rfl _ rfl rfl X0.out.1 ?_) | fail)
    refine (RA.out _).mono ?_; rintro e w1 ⟨rfl, b1⟩
    have X1 := Lib.hid (X0.out.after b1)
    clear X0 b1
    go_wp2_with fail
    go_ret
    exact ⟨rfl, X1.out.2.2⟩
  rw [hra] at RA
  cases hrb : stR b
  · rw [stW_no1 hrb]
    rw [hrb] at RB
    go_enter Try.func16, Try.ntmps16
    go_wp2_with (first | (refine st_load rfl _ rfl rfl X0.out.1 ?_) | fail)
    refine (RA.out _).mono ?_; rintro e w1 ⟨rfl, b1⟩
    have X1 := Lib.hid (X0.out.after b1)
    clear X0 b1
    go_wp2_with (first | (refine st_load_w (by kernel_rfl) _ rfl rfl X1.out.2.1 ?_) | fail)
    refine (RB.out _).mono ?_; rintro e w2 ⟨rfl, b2⟩
    have X2 := Lib.hid (X1.out.after b2)
    clear X1 b2
    go_wp2_with fail
    go_ret
    exact ⟨rfl, X2.out.2.2⟩
  rw [hrb] at RB
  have YES := Lib.hid (stW_yes hra hrb)
  clear hra hrb
  have VW := Lib.hid fun j w => rv_within (a.r j) (b.r j) w (ha.1 j) (hb.1 j)
  have SW := Lib.hid fun j w => sr_slot (a.s j) (b.s j) w (ha.2 j) (hb.2 j)
  have NO1 := Lib.hid fun (j : Nat) (hj : j < 11) (h : vW (a.r j) (b.r j) = false) => stW_no2 (a := a) (b := b) hj h
  have NO2 := Lib.hid fun (j : Nat) (hj : j < 64) (h : slW (a.s j) (b.s j) = false) => stW_no3 (a := a) (b := b) hj h
  generalize stW a b = R at *
  go_enter Try.func16, Try.ntmps16
  go_wp2_with (first | (refine st_load rfl _ rfl rfl X0.out.1 ?_) | fail)
  refine (RA.out _).mono ?_; rintro e w1 ⟨rfl, b1⟩
  have X1 := Lib.hid (X0.out.after b1)
  clear X0 b1
  go_wp2_with (first | (refine st_load_w (by kernel_rfl) _ rfl rfl X1.out.2.1 ?_) | fail)
  refine (RB.out _).mono ?_; rintro e w2 ⟨rfl, b2⟩
  have X2 := Lib.hid (X1.out.after b2)
  clear X1 b2 RA RB hz
  go_wp2_with fail
  go_loopw [5] (fun iv wr => ∃ j : Nat, iv = .int .i64 j ∧ j ≤ 11 ∧ Hid (StDuo a b w wr ∧ ∀ t : Nat, t < j → vW (a.r t) (b.r t) = true)) (fun iv wr => 11 - (intOf iv).toNat)
  case atStart => exact ⟨0, rfl, by omega, Lib.hid ⟨X2.out, fun t ht => by omega⟩⟩
  case round =>
    obtain ⟨j, rfl, hj, V⟩ := hrel
    have j0 : (0 : Int) ≤ (j : Int) := by omega
    by_cases hlt : (j : Int) < 11
    · have RJ := Lib.hid (VW.out j)
      have NJ := Lib.hid (NO1.out j (by omega))
      have V1 := Lib.hid V.out.1
      go_upto_region 6 with fail
      obtain ⟨c0, c1, c2, c3, c4, c5, c6⟩ := reg_cells V1.out.1 (j := j) (by omega)
      obtain ⟨d0, d1, d2, d3, d4, d5, d6⟩ := reg_cells V1.out.2.1 (j := j) (by omega)
      go_still_tail 8, (by kernel_rfl)
      change wpList _ _ _ _ _ wr.drew
      have V2 := Lib.hid (V1.out.after (Below.drew (Below.refl _ _)))
      clear V1 c0 c1 c2 c3 c4 c5 c6 d0 d1 d2 d3 d4 d5 d6
      generalize wr.drew = w4 at *
      go_wp2_with fail
      refine (RJ.out _).mono ?_; rintro e w5 ⟨rfl, b5⟩
      have V3 := Lib.hid (V2.out.after b5)
      clear V2 b5 RJ
      cases hv : vW (a.r j) (b.r j)
      · have Y := NJ.out hv
        subst Y
        clear hv
        go_wp2_with fail
        go_ret
        exact ⟨rfl, V3.out.2.2⟩
      · have VN : Hid (∀ t : Nat, t < j + 1 → vW (a.r t) (b.r t) = true) := Lib.hid fun t ht => by
          by_cases e : t = j
          · subst e; exact hv
          · exact V.out.2 t (by omega)
        clear hv NJ
        go_wp2_with fail
        go_round
        case rel => exact ⟨j + 1, by go_num, by omega, Lib.hid ⟨V3.out, VN.out⟩⟩
        case measure => simp [intOf]; omega
    · have hj2 : j = 11 := by omega
      subst hj2
      have V1 := Lib.hid V.out.1
      have V3 := Lib.hid V.out.2
      clear V VW NO1 X2
      go_wp2_with fail
      go_loopw [6] (fun iv wr => ∃ j : Nat, iv = .int .i64 j ∧ j ≤ 64 ∧ Hid (StDuo a b w wr ∧ ∀ t : Nat, t < j → slW (a.s t) (b.s t) = true)) (fun iv wr => 64 - (intOf iv).toNat)
      case atStart => exact ⟨0, rfl, by omega, Lib.hid ⟨V1.out, fun t ht => by omega⟩⟩
      case round =>
        obtain ⟨j, rfl, hj, V⟩ := hrel
        have j0 : (0 : Int) ≤ (j : Int) := by omega
        by_cases hlt : (j : Int) < 64
        · have RJ := Lib.hid (SW.out j)
          have NJ := Lib.hid (NO2.out j (by omega))
          have V1 := Lib.hid V.out.1
          go_upto_region 11 with fail
          obtain ⟨c0, c1, c2, c3, c4, c5, c6, c7⟩ := slot_cells V1.out.1 (j := j) (by omega)
          obtain ⟨d0, d1, d2, d3, d4, d5, d6, d7⟩ := slot_cells V1.out.2.1 (j := j) (by omega)
          go_still_tail 8, (by kernel_rfl)
          change wpList _ _ _ _ _ wr.drew
          have V2 := Lib.hid (V1.out.after (Below.drew (Below.refl _ _)))
          clear V1 c0 c1 c2 c3 c4 c5 c6 c7 d0 d1 d2 d3 d4 d5 d6 d7
          generalize wr.drew = w4 at *
          go_wp2_with fail
          refine (RJ.out _).mono ?_; rintro e w5 ⟨rfl, b5⟩
          have V3 := Lib.hid (V2.out.after b5)
          clear V2 b5 RJ
          cases hv : slW (a.s j) (b.s j)
          · have Y := NJ.out hv
            subst Y
            clear hv
            go_wp2_with fail
            go_ret
            exact ⟨rfl, V3.out.2.2⟩
          · have VN : Hid (∀ t : Nat, t < j + 1 → slW (a.s t) (b.s t) = true) := Lib.hid fun t ht => by
              by_cases e : t = j
              · subst e; exact hv
              · exact V.out.2 t (by omega)
            clear hv NJ
            go_wp2_with fail
            go_round
            case rel => exact ⟨j + 1, by go_num, by omega, Lib.hid ⟨V3.out, VN.out⟩⟩
            case measure => simp [intOf]; omega
        · have hj2 : j = 64 := by omega
          subst hj2
          have Y := YES.out V3.out V.out.2
          subst Y
          go_wp2_with fail
          go_ret
          exact ⟨rfl, V.out.1.2.2⟩

end Go.Proofs.Ytdgckjkdimnpoaa

namespace Go.Proofs.Ytdgckjkdimnpoaa
open Go Go.RowKit
set_option maxRecDepth 100000
set_option linter.unusedVariables false
set_option linter.unusedSimpArgs false

/-- A state's box, a Val's, and a result's. -/
def StTrio (x : St) (v : Vl) (w u : World) : Prop := stB w.heap.size x u ∧ vB (w.heap.size + 1) v u ∧ stB (w.heap.size + 2) stZ u ∧ Below w.heap.size w u
theorem StTrio.new (x : St) (v : Vl) (w : World) : StTrio x v w (((w.alloc (.cells (stC x) 36)).alloc (.cells (vCells v) 30)).alloc (.cells Try.zeroCells36 36)) :=
  ⟨((stB.new w x rfl).after (below_alloc (Below.refl _ _) _)).after (below_alloc (Below.refl _ _) _), (vB.new _ v (by simp)).after (below_alloc (Below.refl _ _) _), stB.newz _ (by simp), below_alloc (below_alloc (below_alloc (Below.refl _ _) _) _) _⟩
theorem StTrio.after {x : St} {v : Vl} {w u u' : World} (h : StTrio x v w u) (k : Below u.heap.size u u') : StTrio x v w u' := ⟨h.1.after k, h.2.1.after k, h.2.2.1.after k, below_next' h.2.2.2 k⟩
theorem StTrio.zero {x : St} {v : Vl} {w u : World} (h : StTrio x v w u) : stB (w.heap.size + 2) stZ (u.setRow (w.heap.size + 2) (stC stZ)) ∧ Below w.heap.size w (u.setRow (w.heap.size + 2) (stC stZ)) := ⟨st_row h.2.2.1 stZ, below_row h.2.2.2 (by omega) _⟩
def setX (x : St) (i : Int) (v : Vl) : St := if setE x i v = 0 then x.reg i.toNat v else stZ
theorem setE_no {x : St} {i : Int} {v : Vl} (h : (stR x && (decide (0 ≤ i) && decide (i < 11)) && vR v) = false) : setE x i v = 1 ∧ setX x i v = stZ := by
  have e : setE x i v = 1 := by unfold setE; rw [h]; rfl
  exact ⟨e, by unfold setX; rw [e, if_neg (by decide)]⟩
theorem setE_yes {x : St} {i : Int} {v : Vl} (h : (stR x && (decide (0 ≤ i) && decide (i < 11)) && vR v) = true) : setE x i v = 0 ∧ setX x i v = x.reg i.toNat v := by
  have e : setE x i v = 0 := by unfold setE; rw [h]; rfl
  exact ⟨e, by unfold setX; rw [e, if_pos rfl]⟩
/-- A register's cells, stored into the first box; then the box read into the result. -/
theorem StTrio.set {x : St} {v y : Vl} {w u : World} (h : StTrio x v w u) {i : Nat} (hi : i < 11) : stB w.heap.size (x.reg i y) (u.setCells w.heap.size (i * 7) (vL y)) ∧ stB (w.heap.size + 2) stZ (u.setCells w.heap.size (i * 7) (vL y)) ∧ Below w.heap.size w (u.setCells w.heap.size (i * 7) (vL y)) :=
  ⟨st_setr h.1 hi (Nat.mul_comm _ _) y, h.2.2.1.sets_other (vL y) (by omega), below_sets (Nat.le_refl _) _ _ _ h.2.2.2⟩

set_option maxHeartbeats 8000000 in
theorem sp_set (x : St) (i : Int) (v : Vl) (w : World) (hx : stIn x) (hv : vIn v) : Calls Try.prog 19 #[stV x, .int .i64 i, vV v] w (Gives (.tuple #[stV (setX x i v), .int .i64 (setE x i v)]) w) := by
  have RA := Lib.hid fun w => sp_right x w hx
  have VR := Lib.hid fun w => vp_right v w hv
  have X0 := Lib.hid (StTrio.new x v w)
  have hz1 : (w.alloc (.cells (stC x) 36)).heap.size = w.heap.size + 1 := by simp
  have hz2 : ((w.alloc (.cells (stC x) 36)).alloc (.cells (vCells v) 30)).heap.size = w.heap.size + 2 := by simp
  cases hra : stR x
  · obtain ⟨e1, e2⟩ := setE_no (x := x) (i := i) (v := v) (by rw [hra]; rfl)
    rw [e1, e2]
    rw [hra] at RA
    clear e1 e2 hra
    go_enter Try.func19, Try.ntmps19
    go_wp2_with (first | (refine st_load rfl _ rfl rfl X0.out.1 ?_) | fail)
    refine (RA.out _).mono ?_; rintro e w1 ⟨rfl, b1⟩
    have X1 := Lib.hid (X0.out.after b1)
    clear X0 b1
    have X9 := Lib.hid X1.out.zero
    go_wp2_with (first | (refine st_storeZ rfl _ _ rfl rfl rfl X1.out.2.2.1 ?_) | fail)
    generalize w1.setRow (w.heap.size + 2) (stC stZ) = w9 at *
    exact bodyPost_ret (v := .tuple #[stV stZ, .int .i64 1]) (by rw [results_cell_tmp rfl]; simp [asAddr, Act.put, Result.andThen, st_result X9.out.1]) rfl ⟨rfl, X9.out.2⟩
  rw [hra] at RA
  by_cases k1 : 0 ≤ i
  · by_cases k2 : i < 11
    · cases hvr : vR v
      · obtain ⟨e1, e2⟩ := setE_no (x := x) (i := i) (v := v) (by rw [hvr, Bool.and_false])
        rw [e1, e2]
        rw [hvr] at VR
        clear e1 e2 hra hvr
        have k3 : ¬ i < 0 := by omega
        have k4 : ¬ 11 ≤ i := by omega
        have k5 : ¬ 10 < i := by omega
        go_enter Try.func19, Try.ntmps19
        go_wp2_with (first | (refine st_load rfl _ rfl rfl X0.out.1 ?_) | fail)
        refine (RA.out _).mono ?_; rintro e w1 ⟨rfl, b1⟩
        have X1 := Lib.hid (X0.out.after b1)
        clear X0 b1
        obtain ⟨c0, c1, c2, c3, c4, c5, c6⟩ := vB.cells X1.out.2.1
        go_wp2_with fail
        refine (VR.out _).mono ?_; rintro e w2 ⟨rfl, b2⟩
        have X2 := Lib.hid (X1.out.after b2)
        clear X1 b2 c0 c1 c2 c3 c4 c5 c6
        have X9 := Lib.hid X2.out.zero
        go_wp2_with (first | (refine st_storeZ rfl _ _ rfl rfl rfl X2.out.2.2.1 ?_) | fail)
        generalize w2.setRow (w.heap.size + 2) (stC stZ) = w9 at *
        exact bodyPost_ret (v := .tuple #[stV stZ, .int .i64 1]) (by rw [results_cell_tmp rfl]; simp [asAddr, Act.put, Result.andThen, st_result X9.out.1]) rfl ⟨rfl, X9.out.2⟩
      · obtain ⟨e1, e2⟩ := setE_yes (x := x) (i := i) (v := v) (by rw [hra, hvr, decide_eq_true k1, decide_eq_true k2]; rfl)
        rw [e1, e2]
        rw [hvr] at VR
        clear e1 e2 hra hvr
        obtain ⟨k, rfl⟩ : ∃ k : Nat, i = (k : Int) := ⟨i.toNat, by omega⟩
        have hk : Hid (k < 11) := Lib.hid (by omega)
        have k3 : ¬ (k : Int) < 0 := by omega
        have k4 : ¬ 11 ≤ (k : Int) := by omega
        have k5 : ¬ 10 < (k : Int) := by omega
        rw [Int.toNat_natCast]
        go_enter Try.func19, Try.ntmps19
        go_wp2_with (first | (refine st_load rfl _ rfl rfl X0.out.1 ?_) | fail)
        refine (RA.out _).mono ?_; rintro e w1 ⟨rfl, b1⟩
        have X1 := Lib.hid (X0.out.after b1)
        clear X0 b1
        obtain ⟨c0, c1, c2, c3, c4, c5, c6⟩ := vB.cells X1.out.2.1
        go_wp2_with fail
        refine (VR.out _).mono ?_; rintro e w2 ⟨rfl, b2⟩
        have X2 := Lib.hid (X1.out.after b2)
        clear X1 b2 c0 c1 c2 c3 c4 c5 c6
        obtain ⟨c0, c1, c2, c3, c4, c5, c6⟩ := vB.cells X2.out.2.1
        go_upto_region 4 with (refine st_storeV rfl _ _ rfl (g := w.heap.size) (o := k * 7) (v := v) rfl rfl (st_there X2.out.1 (by have := hk.out; omega)) ?_)
        have X3 := Lib.hid (X2.out.set (y := v) hk.out)
        clear X2 c0 c1 c2 c3 c4 c5 c6
        generalize w2.setCells w.heap.size (k * 7) (vL v) = w3 at *
        have X9 := Lib.hid (And.intro (st_row X3.out.2.1 (x.reg k v)) (below_row X3.out.2.2 (g := w.heap.size + 2) (by omega) (stC (x.reg k v))))
        go_wp2_with (first | (refine st_load rfl _ rfl rfl X3.out.1 ?_) | (refine st_store rfl _ _ rfl rfl rfl X3.out.2.1 ?_) | fail)
        generalize w3.setRow (w.heap.size + 2) (stC (x.reg k v)) = w9 at *
        exact bodyPost_ret (v := .tuple #[stV (x.reg k v), .int .i64 0]) (by rw [results_cell_tmp rfl]; simp [asAddr, Act.put, Result.andThen, st_result X9.out.1]) rfl ⟨rfl, X9.out.2⟩
    · obtain ⟨e1, e2⟩ := setE_no (x := x) (i := i) (v := v) (by rw [decide_eq_false k2, Bool.and_false, Bool.and_false]; rfl)
      rw [e1, e2]
      clear e1 e2 hra
      have k3 : ¬ i < 0 := by omega
      have k4 : 11 ≤ i := by omega
      have k5 : 10 < i := by omega
      go_enter Try.func19, Try.ntmps19
      go_wp2_with (first | (refine st_load rfl _ rfl rfl X0.out.1 ?_) | fail)
      refine (RA.out _).mono ?_; rintro e w1 ⟨rfl, b1⟩
      have X1 := Lib.hid (X0.out.after b1)
      clear X0 b1
      have X9 := Lib.hid X1.out.zero
      go_wp2_with (first | (refine st_storeZ rfl _ _ rfl rfl rfl X1.out.2.2.1 ?_) | fail)
      generalize w1.setRow (w.heap.size + 2) (stC stZ) = w9 at *
      exact bodyPost_ret (v := .tuple #[stV stZ, .int .i64 1]) (by rw [results_cell_tmp rfl]; simp [asAddr, Act.put, Result.andThen, st_result X9.out.1]) rfl ⟨rfl, X9.out.2⟩
  · obtain ⟨e1, e2⟩ := setE_no (x := x) (i := i) (v := v) (by rw [decide_eq_false k1, Bool.false_and, Bool.and_false]; rfl)
    rw [e1, e2]
    clear e1 e2 hra
    have k3 : i < 0 := by omega
    go_enter Try.func19, Try.ntmps19
    go_wp2_with (first | (refine st_load rfl _ rfl rfl X0.out.1 ?_) | fail)
    refine (RA.out _).mono ?_; rintro e w1 ⟨rfl, b1⟩
    have X1 := Lib.hid (X0.out.after b1)
    clear X0 b1
    have X9 := Lib.hid X1.out.zero
    go_wp2_with (first | (refine st_storeZ rfl _ _ rfl rfl rfl X1.out.2.2.1 ?_) | fail)
    generalize w1.setRow (w.heap.size + 2) (stC stZ) = w9 at *
    exact bodyPost_ret (v := .tuple #[stV stZ, .int .i64 1]) (by rw [results_cell_tmp rfl]; simp [asAddr, Act.put, Result.andThen, st_result X9.out.1]) rfl ⟨rfl, X9.out.2⟩
set_option maxHeartbeats 8000000 in
theorem sr_set (x : St) (i : Int) (v : Vl) (w : World) (hx : stIn x) (hv : vIn v) : Calls Try.prog 20 #[stV x, .int .i64 i, vV v] w (Gives (.tuple #[stV (setX x i v), .int .i64 (setE x i v)]) w) := by
  have RA := Lib.hid fun w => sr_right x w hx
  have VR := Lib.hid fun w => rv_right v w hv
  have X0 := Lib.hid (StTrio.new x v w)
  have hz1 : (w.alloc (.cells (stC x) 36)).heap.size = w.heap.size + 1 := by simp
  have hz2 : ((w.alloc (.cells (stC x) 36)).alloc (.cells (vCells v) 30)).heap.size = w.heap.size + 2 := by simp
  cases hra : stR x
  · obtain ⟨e1, e2⟩ := setE_no (x := x) (i := i) (v := v) (by rw [hra]; rfl)
    rw [e1, e2]
    rw [hra] at RA
    clear e1 e2 hra
    go_enter Try.func20, Try.ntmps20
    go_wp2_with (first | (refine st_load rfl _ rfl rfl X0.out.1 ?_) | fail)
    refine (RA.out _).mono ?_; rintro e w1 ⟨rfl, b1⟩
    have X1 := Lib.hid (X0.out.after b1)
    clear X0 b1
    have X9 := Lib.hid X1.out.zero
    go_wp2_with (first | (refine st_storeZ rfl _ _ rfl rfl rfl X1.out.2.2.1 ?_) | fail)
    generalize w1.setRow (w.heap.size + 2) (stC stZ) = w9 at *
    exact bodyPost_ret (v := .tuple #[stV stZ, .int .i64 1]) (by rw [results_cell_tmp rfl]; simp [asAddr, Act.put, Result.andThen, st_result X9.out.1]) rfl ⟨rfl, X9.out.2⟩
  rw [hra] at RA
  by_cases k1 : 0 ≤ i
  · by_cases k2 : i < 11
    · cases hvr : vR v
      · obtain ⟨e1, e2⟩ := setE_no (x := x) (i := i) (v := v) (by rw [hvr, Bool.and_false])
        rw [e1, e2]
        rw [hvr] at VR
        clear e1 e2 hra hvr
        have k3 : ¬ i < 0 := by omega
        have k4 : ¬ 11 ≤ i := by omega
        have k5 : ¬ 10 < i := by omega
        go_enter Try.func20, Try.ntmps20
        go_wp2_with (first | (refine st_load rfl _ rfl rfl X0.out.1 ?_) | fail)
        refine (RA.out _).mono ?_; rintro e w1 ⟨rfl, b1⟩
        have X1 := Lib.hid (X0.out.after b1)
        clear X0 b1
        obtain ⟨c0, c1, c2, c3, c4, c5, c6⟩ := vB.cells X1.out.2.1
        go_wp2_with fail
        refine (VR.out _).mono ?_; rintro e w2 ⟨rfl, b2⟩
        have X2 := Lib.hid (X1.out.after b2)
        clear X1 b2 c0 c1 c2 c3 c4 c5 c6
        have X9 := Lib.hid X2.out.zero
        go_wp2_with (first | (refine st_storeZ rfl _ _ rfl rfl rfl X2.out.2.2.1 ?_) | fail)
        generalize w2.setRow (w.heap.size + 2) (stC stZ) = w9 at *
        exact bodyPost_ret (v := .tuple #[stV stZ, .int .i64 1]) (by rw [results_cell_tmp rfl]; simp [asAddr, Act.put, Result.andThen, st_result X9.out.1]) rfl ⟨rfl, X9.out.2⟩
      · obtain ⟨e1, e2⟩ := setE_yes (x := x) (i := i) (v := v) (by rw [hra, hvr, decide_eq_true k1, decide_eq_true k2]; rfl)
        rw [e1, e2]
        rw [hvr] at VR
        clear e1 e2 hra hvr
        obtain ⟨k, rfl⟩ : ∃ k : Nat, i = (k : Int) := ⟨i.toNat, by omega⟩
        have hk : Hid (k < 11) := Lib.hid (by omega)
        have k3 : ¬ (k : Int) < 0 := by omega
        have k4 : ¬ 11 ≤ (k : Int) := by omega
        have k5 : ¬ 10 < (k : Int) := by omega
        rw [Int.toNat_natCast]
        go_enter Try.func20, Try.ntmps20
        go_wp2_with (first | (refine st_load rfl _ rfl rfl X0.out.1 ?_) | fail)
        refine (RA.out _).mono ?_; rintro e w1 ⟨rfl, b1⟩
        have X1 := Lib.hid (X0.out.after b1)
        clear X0 b1
        obtain ⟨c0, c1, c2, c3, c4, c5, c6⟩ := vB.cells X1.out.2.1
        go_wp2_with fail
        refine (VR.out _).mono ?_; rintro e w2 ⟨rfl, b2⟩
        have X2 := Lib.hid (X1.out.after b2)
        clear X1 b2 c0 c1 c2 c3 c4 c5 c6
        obtain ⟨c0, c1, c2, c3, c4, c5, c6⟩ := vB.cells X2.out.2.1
        go_upto_region 4 with (refine st_storeV rfl _ _ rfl (g := w.heap.size) (o := k * 7) (v := v) rfl rfl (st_there X2.out.1 (by have := hk.out; omega)) ?_)
        have X3 := Lib.hid (X2.out.set (y := v) hk.out)
        clear X2 c0 c1 c2 c3 c4 c5 c6
        generalize w2.setCells w.heap.size (k * 7) (vL v) = w3 at *
        have X9 := Lib.hid (And.intro (st_row X3.out.2.1 (x.reg k v)) (below_row X3.out.2.2 (g := w.heap.size + 2) (by omega) (stC (x.reg k v))))
        go_wp2_with (first | (refine st_load rfl _ rfl rfl X3.out.1 ?_) | (refine st_store rfl _ _ rfl rfl rfl X3.out.2.1 ?_) | fail)
        generalize w3.setRow (w.heap.size + 2) (stC (x.reg k v)) = w9 at *
        exact bodyPost_ret (v := .tuple #[stV (x.reg k v), .int .i64 0]) (by rw [results_cell_tmp rfl]; simp [asAddr, Act.put, Result.andThen, st_result X9.out.1]) rfl ⟨rfl, X9.out.2⟩
    · obtain ⟨e1, e2⟩ := setE_no (x := x) (i := i) (v := v) (by rw [decide_eq_false k2, Bool.and_false, Bool.and_false]; rfl)
      rw [e1, e2]
      clear e1 e2 hra
      have k3 : ¬ i < 0 := by omega
      have k4 : 11 ≤ i := by omega
      have k5 : 10 < i := by omega
      go_enter Try.func20, Try.ntmps20
      go_wp2_with (first | (refine st_load rfl _ rfl rfl X0.out.1 ?_) | fail)
      refine (RA.out _).mono ?_; rintro e w1 ⟨rfl, b1⟩
      have X1 := Lib.hid (X0.out.after b1)
      clear X0 b1
      have X9 := Lib.hid X1.out.zero
      go_wp2_with (first | (refine st_storeZ rfl _ _ rfl rfl rfl X1.out.2.2.1 ?_) | fail)
      generalize w1.setRow (w.heap.size + 2) (stC stZ) = w9 at *
      exact bodyPost_ret (v := .tuple #[stV stZ, .int .i64 1]) (by rw [results_cell_tmp rfl]; simp [asAddr, Act.put, Result.andThen, st_result X9.out.1]) rfl ⟨rfl, X9.out.2⟩
  · obtain ⟨e1, e2⟩ := setE_no (x := x) (i := i) (v := v) (by rw [decide_eq_false k1, Bool.false_and, Bool.and_false]; rfl)
    rw [e1, e2]
    clear e1 e2 hra
    have k3 : i < 0 := by omega
    go_enter Try.func20, Try.ntmps20
    go_wp2_with (first | (refine st_load rfl _ rfl rfl X0.out.1 ?_) | fail)
    refine (RA.out _).mono ?_; rintro e w1 ⟨rfl, b1⟩
    have X1 := Lib.hid (X0.out.after b1)
    clear X0 b1
    have X9 := Lib.hid X1.out.zero
    go_wp2_with (first | (refine st_storeZ rfl _ _ rfl rfl rfl X1.out.2.2.1 ?_) | fail)
    generalize w1.setRow (w.heap.size + 2) (stC stZ) = w9 at *
    exact bodyPost_ret (v := .tuple #[stV stZ, .int .i64 1]) (by rw [results_cell_tmp rfl]; simp [asAddr, Act.put, Result.andThen, st_result X9.out.1]) rfl ⟨rfl, X9.out.2⟩

end Go.Proofs.Ytdgckjkdimnpoaa
