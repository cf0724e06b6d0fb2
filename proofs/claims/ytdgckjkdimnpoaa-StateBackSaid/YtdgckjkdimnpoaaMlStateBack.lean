/-
  The statement StateBack: for every row of acts, and act, the law returns true, and its arguments read as they did.
  Conditions: none beyond the row's own.
-/
import Derived.Deep.RegionHeld
import Derived.Test.YtdgckjkdimnpoaaMl12

namespace Go.Proofs.Ytdgckjkdimnpoaa
open Go Go.RowKit
set_option maxRecDepth 100000
set_option linter.unusedVariables false
set_option linter.unusedSimpArgs false

set_option maxHeartbeats 8000000 in
theorem sback_walk (A : Option Addr) (c : Nat) (l : List Sa) (a : Sa) (w : World) (hl : SaS w A l) (hv : ∀ k, saIn (saAt l k)) (hc : l.length ≤ c) (hm : c ≤ maxLen) (ha : saIn a) : Calls Try.prog 6 #[.slice A l.length c, saV a] w (Gives (.bool true) w) := by
  have SH := Lib.hid l13_shown
  have MD := Lib.hid fun u hb => l13_made A c l w u hb hl hv hc hm
  have PU := Lib.hid fun w => sp_Put (saM l) a.o a.z a.v w (saM_in hv) ha.2.2.2 ha.2.1
  have SI := Lib.hid (saM_in hv)
  generalize saM l = S at *
  clear hl hv hc hm
  by_cases hE : putE S a.o a.z a.v = 0
  · obtain ⟨q1, q2, q3, q4⟩ := putE_zero hE
    obtain ⟨Y, hY⟩ : ∃ Y, Y = putX S a.o a.z a.v := ⟨_, rfl⟩
    have e2 : putY S a.o a.z a.v = Y := by unfold putY; rw [if_pos hE, hY]
    rw [hE, e2] at PU
    have hYI : stIn Y := by rw [hY]; exact putX_in SI.out a.o a.z ha.2.2.2
    have GE := Lib.hid fun w => sp_Get Y a.o a.z w hYI ha.2.1
    have FU := Lib.hid fun w => sp_Full Y a.o a.z w hYI ha.2.1 ha.2.2.1
    have RT := Lib.hid fun w => sp_right Y w hYI
    obtain ⟨g1, g2, g3, g4⟩ := put_get hE
    rw [← hY] at g1 g2 g3 g4
    rw [g1] at GE
    rw [g4] at FU
    rw [show stR Y = true by rw [hY]; exact putX_right hE] at RT
    obtain ⟨k1, k2, k3⟩ := rch_ok q2 q4
    obtain ⟨q, hq, hq3, hq2⟩ : ∃ q : Nat, a.o.tdiv 8 = (q : Int) ∧ (a.o / 8).toNat = q ∧ q < 64 := ⟨(a.o / 8).toNat, by rw [Int.tdiv_eq_ediv_of_nonneg k1]; omega, rfl, by rcases isSz_iff.mp q2 with h | h | h | h <;> omega⟩
    have hqw : IntKind.i64.wrap (q : Int) = (q : Int) := by rw [IntKind.wrap_i64]; omega
    have ZR : Hid (rV Y = rV S) := Lib.hid (by rw [hY]; rfl)
    have OTH := Lib.hid fun (j : Nat) (h : ¬ j = q) => show Y.s j = S.s j by rw [hY]; unfold putX; rw [hq3]; exact slot_other S _ h
    have SAM := Lib.hid (show bits .andNot .u8 ((S.s q).p.toNat : Int) ((Y.s q).p.toNat : Int) = 0 by
      rw [hY]
      unfold putX
      rw [hq3, St.slot_at]
      exact and_not_more _ _)
    have hsz : Hid (isSz a.z = true) := Lib.hid q2
    generalize getY Y a.o a.z = V at *
    clear e2 q1 q3 q4 hE hY k1 k2 k3 hq3 hYI g1 g4 hq2 SI
    cases h8 : (a.z == 8)
    · have hVk : Hid (V.k = 1) := Lib.hid (g3 h8)
      have k8 : a.z < 8 := by
        rcases isSz_iff.mp hsz.out with h | h | h | h
        · omega
        · omega
        · omega
        · rw [h] at h8; cases h8
      have hk1 : (V.k != 1) = false := by rw [hVk.out]; rfl
      clear g2 g3 q2
      go_enter Try.func6, Try.ntmps6
      go_wp2_with fail
      refine (SH.out _).mono ?_; rintro e w1 ⟨rfl, b1⟩
      have X := Lib.hid (((Blks.start w).new (saC a) 43).after b1)
      clear b1
      go_wp2_with fail
      refine (MD.out _ X.out.1).mono ?_; rintro e w2 ⟨rfl, b2⟩
      replace X := Lib.hid (X.out.after b2)
      clear b2 MD
      have hgs := Lib.hid (Blk.lt (X.out.get (g := w.heap.size) (cs := saC a) (t := 43) (by simp)))
      replace X := Lib.hid ((X.out.new Try.zeroCells36 36).row (by have := hgs.out; omega) (by have := hgs.out; simp; omega) (stC S))
      have N2 : Hid (stB w2.heap.size stZ (w2.alloc (.cells Try.zeroCells36 36))) := Lib.hid (stB.newz w2 rfl)
      go_upto_region 3 with (refine st_store rfl _ _ rfl rfl rfl N2.out ?_)
      clear N2
      generalize (w2.alloc (.cells Try.zeroCells36 36)).setRow w2.heap.size (stC S) = wx at *
      generalize w2.heap.size = gs at *
      have LS : Hid (stB gs S wx) := Lib.hid (X.out.get (g := gs) (cs := stC S) (t := 36) (by simp))
      obtain ⟨c0, c1, c2, c3, c4, c5, c6, c7, c8, c9⟩ := saB_cells (X.out.get (g := w.heap.size) (cs := saC a) (t := 43) (by simp))
      go_wp2_with (first | (refine st_load rfl _ rfl rfl LS.out ?_) | fail)
      refine (PU.out _).mono ?_; rintro e w4 ⟨rfl, b4⟩
      replace X := Lib.hid (X.out.after b4)
      clear b4 LS PU c0 c1 c2 c3 c4 c5 c6 c7 c8 c9
      have hgt := Lib.hid (Blk.lt (X.out.get (g := gs) (cs := stC S) (t := 36) (by simp)))
      replace X := Lib.hid ((X.out.new Try.zeroCells36 36).row (by have := hgs.out; have := hgt.out; omega) (by have := hgs.out; have := hgt.out; simp; omega) (stC Y))
      have N2 : Hid (stB w4.heap.size stZ (w4.alloc (.cells Try.zeroCells36 36))) := Lib.hid (stB.newz w4 rfl)
      go_upto_region 4 with (refine st_store rfl _ _ rfl rfl rfl N2.out ?_)
      clear N2
      generalize (w4.alloc (.cells Try.zeroCells36 36)).setRow w4.heap.size (stC Y) = wx at *
      generalize w4.heap.size = gt at *
      have LT : Hid (stB gt Y wx) := Lib.hid (X.out.get (g := gt) (cs := stC Y) (t := 36) (by simp))
      obtain ⟨c0, c1, c2, c3, c4, c5, c6, c7, c8, c9⟩ := saB_cells (X.out.get (g := w.heap.size) (cs := saC a) (t := 43) (by simp))
      go_wp2_with (first | (refine st_load rfl _ rfl rfl LT.out ?_) | fail)
      refine (GE.out _).mono ?_; rintro e w5 ⟨rfl, b5⟩
      replace X := Lib.hid ((X.out.after b5).new (vCells V) 30)
      clear b5 LT GE c0 c1 c2 c3 c4 c5 c6 c7 c8 c9
      go_upto_region 7 with fail
      generalize w5.alloc (.cells (vCells V) 30) = wx at *
      generalize w5.heap.size = gv at *
      obtain ⟨c0, c1, c2, c3, c4, c5, c6, c7, c8, c9⟩ := saB_cells (X.out.get (g := w.heap.size) (cs := saC a) (t := 43) (by simp))
      obtain ⟨d0, d1, d2, d3, d4, d5, d6⟩ := vB.cells (X.out.get (g := gv) (cs := vCells V) (t := 30) (by simp))
      have LT : Hid (stB gt Y wx) := Lib.hid (X.out.get (g := gt) (cs := stC Y) (t := 36) (by simp))
      have VA : Hid (wx.rangeAt w.heap.size 3 (vL a.v)) := Lib.hid (saBlk_range (X.out.get (g := w.heap.size) (cs := saC a) (t := 43) (by simp)))
      have VV : Hid (wx.rangeAt gv 0 (vL V)) := Lib.hid (vBlk_range (X.out.get (g := gv) (cs := vCells V) (t := 30) (by simp)))
      go_wp2_with (first | (refine st_load_w (by kernel_rfl) _ rfl rfl LT.out ?_) | fail)
      refine (FU.out _).mono ?_; rintro e w6 ⟨rfl, b6⟩
      replace X := Lib.hid (X.out.after b6)
      replace LT := Lib.hid (LT.out.after b6)
      clear b6 FU VA VV d0 d1 d2 d3 d4 d5 d6 c0 c1 c2 c3 c4 c5 c6 c7 c8 c9
      go_wp2_with (first | (refine st_load_w (by kernel_rfl) _ rfl rfl LT.out ?_) | fail)
      refine (RT.out _).mono ?_; rintro e w7 ⟨rfl, b7⟩
      replace X := Lib.hid (X.out.after b7)
      replace LT := Lib.hid (LT.out.after b7)
      clear b7 RT
      have LS : Hid (stB gs S w7) := Lib.hid (X.out.get (g := gs) (cs := stC S) (t := 36) (by simp))
      go_wp2_with (first | (refine st_loadr_w (by kernel_rfl) _ rfl rfl LT.out ?_) | (refine st_loadr_w (by kernel_rfl) _ rfl rfl LS.out ?_) | (refine wpList_value_w (by kernel_rfl) (x_regs_ne (X := S) rfl ZR.out rfl) ?_) | fail)
      clear LS LT
      skip
      go_loopw [87] (fun iv wr => ∃ j : Nat, iv = .int .i64 j ∧ j ≤ 64 ∧ Hid (Blks w [(gv, vCells V, 30), (gt, stC Y, 36), (gs, stC S, 36), (w.heap.size, saC a, 43)] wr)) (fun iv wr => 64 - (intOf iv).toNat)
      case atStart => exact ⟨0, rfl, by omega, X⟩
      case round =>
        obtain ⟨j, rfl, hj, V1⟩ := hrel
        have j0 : (0 : Int) ≤ (j : Int) := by omega
        by_cases hlt : (j : Int) < 64
        · have hj64 : Hid (j < 64) := Lib.hid (by omega)
          have hj8 : Hid (77 + j * 8 = 77 + 8 * j) := Lib.hid (by omega)
          by_cases hjq : j = q
          · have n1 : ((j : Int) != (q : Int)) = false := by rw [hjq]; simp
            have AN : bits .andNot .u8 ((S.s j).p.toNat : Int) ((Y.s j).p.toNat : Int) = 0 := by rw [hjq]; exact SAM.out
            replace hjq := Lib.hid hjq
            go_upto_region 12 with fail
            have XD := Lib.hid (V1.out.after (Below.drew (Below.refl _ _)))
            refine wp_region_held_drew (S := (fun u => Blks w [(gv, vCells V, 30), (gt, stC Y, 36), (gs, stC S, 36), (w.heap.size, saC a, 43)] u)) (by kernel_rfl) XD.out (fun hHeld => ?_)
            generalize wr.drew = wd at *
            refine wpAnyH_take (i := 0) (oi := { dst := some 90, op := Op.move (Operand.tmp 11), type := 3, pos := "law.go:106", after := #[], guard := none }) (v := ?_) rfl (by kernel_rfl) (by kernel_rfl) (by kernel_rfl) (fun _ _ _ h => h) (Or.inl ⟨by rfl, ?_⟩) (by first | exact hHeld | assumption) ?_
            rotate_left 1
            · intro w hSw; (try dsimp only at hSw); go_simp; try (with_reducible rfl)
            try simp only [Act.put, List.setIfInBounds_toArray, List.set_cons_zero, List.set_cons_succ]
            refine wpAnyH_take (i := 1) (oi := { dst := some 91, op := Op.fieldAddr 43 (Operand.tmp 3) 1, type := 0, pos := "law.go:106", after := #[], guard := none }) (v := ?_) rfl (by kernel_rfl) (by kernel_rfl) (by kernel_rfl) (fun _ _ _ h => h) (Or.inl ⟨by rfl, ?_⟩) (by first | exact hHeld | assumption) ?_
            rotate_left 1
            · intro w hSw; (try dsimp only at hSw); go_simp; try (with_reducible rfl)
            try simp only [Act.put, List.setIfInBounds_toArray, List.set_cons_zero, List.set_cons_succ]
            refine wpAnyH_take (i := 2) (oi := { dst := some 92, op := Op.load 3 (Operand.tmp 91), type := 3, pos := "law.go:106", after := #[{ on := 1, ground := Ground.data }], guard := none }) rfl (by kernel_rfl) (by kernel_rfl) (by kernel_rfl) (fun _ _ _ h => h) (int_yield (by kernel_rfl) _ rfl (g := w.heap.size) (o := 1) (v := .int .i64 a.o) rfl (fun u hu => (saB_cells (hu.get (g := w.heap.size) (cs := saC a) (t := 43) (by simp))).2.1)) (by exact hHeld) ?_
            try simp only [Act.put, List.setIfInBounds_toArray, List.set_cons_zero, List.set_cons_succ]
            refine wpAnyH_take (i := 3) (oi := { dst := some 93, op := Op.binOp BinOp.quo 3 (Operand.tmp 92) (Operand.const (Value.int IntKind.i64 8)) 3, type := 3, pos := "law.go:106", after := #[{ on := 2, ground := Ground.data }], guard := none }) (v := ?_) rfl (by kernel_rfl) (by kernel_rfl) (by kernel_rfl) (fun _ _ _ h => h) (Or.inl ⟨by rfl, ?_⟩) (by first | exact hHeld | assumption) ?_
            rotate_left 1
            · intro w hSw; (try dsimp only at hSw); go_simp; try (with_reducible rfl)
            try simp only [Act.put, List.setIfInBounds_toArray, List.set_cons_zero, List.set_cons_succ]
            refine wpAnyH_take (i := 4) (oi := { dst := some 94, op := Op.binOp BinOp.neq 3 (Operand.tmp 90) (Operand.tmp 93) 3, type := 4, pos := "law.go:106", after := #[{ on := 0, ground := Ground.data }, { on := 3, ground := Ground.data }], guard := none }) (v := ?_) rfl (by kernel_rfl) (by kernel_rfl) (by kernel_rfl) (fun _ _ _ h => h) (Or.inl ⟨by rfl, ?_⟩) (by first | exact hHeld | assumption) ?_
            rotate_left 1
            · intro w hSw; (try dsimp only at hSw); go_simp; try (with_reducible rfl)
            try simp only [Act.put, List.setIfInBounds_toArray, List.set_cons_zero, List.set_cons_succ]
            refine wpAnyH_take (i := 5) (oi := { dst := some 95, op := Op.move (Operand.tmp 94), type := 4, pos := "law.go:106", after := #[{ on := 4, ground := Ground.data }], guard := none }) (v := ?_) rfl (by kernel_rfl) (by kernel_rfl) (by kernel_rfl) (fun _ _ _ h => h) (Or.inl ⟨by rfl, ?_⟩) (by first | exact hHeld | assumption) ?_
            rotate_left 1
            · intro w hSw; (try dsimp only at hSw); go_simp; try (with_reducible rfl)
            try simp only [Act.put, List.setIfInBounds_toArray, List.set_cons_zero, List.set_cons_succ]
            refine wpAnyH_take (i := 6) (oi := { dst := some 96, op := Op.move (Operand.tmp 11), type := 3, pos := "law.go:106", after := #[{ on := 5, ground := Ground.guard }], guard := some (5, true) }) (v := undef) rfl (by kernel_rfl) (by kernel_rfl) (by kernel_rfl) (fun _ _ _ h => h) (Or.inr ⟨by rfl, rfl⟩) (by first | exact hHeld | assumption) ?_
            try simp only [Act.put, List.setIfInBounds_toArray, List.set_cons_zero, List.set_cons_succ]
            refine wpAnyH_take (i := 7) (oi := { dst := some 97, op := Op.fieldAddr 36 (Operand.tmp 7) 1, type := 0, pos := "law.go:106", after := #[{ on := 5, ground := Ground.guard }], guard := some (5, true) }) (v := undef) rfl (by kernel_rfl) (by kernel_rfl) (by kernel_rfl) (fun _ _ _ h => h) (Or.inr ⟨by rfl, rfl⟩) (by first | exact hHeld | assumption) ?_
            try simp only [Act.put, List.setIfInBounds_toArray, List.set_cons_zero, List.set_cons_succ]
            refine wpAnyH_take (i := 8) (oi := { dst := some 98, op := Op.indexAddr 34 (Operand.tmp 97) (Operand.tmp 96), type := 0, pos := "law.go:106", after := #[{ on := 7, ground := Ground.data }, { on := 6, ground := Ground.data }, { on := 5, ground := Ground.guard }], guard := some (5, true) }) (v := undef) rfl (by kernel_rfl) (by kernel_rfl) (by kernel_rfl) (fun _ _ _ h => h) (Or.inr ⟨by rfl, rfl⟩) (by first | exact hHeld | assumption) ?_
            try simp only [Act.put, List.setIfInBounds_toArray, List.set_cons_zero, List.set_cons_succ]
            refine wpAnyH_take (i := 9) (oi := { dst := some 99, op := Op.load 33 (Operand.tmp 98), type := 33, pos := "law.go:106", after := #[{ on := 8, ground := Ground.data }, { on := 5, ground := Ground.guard }], guard := some (5, true) }) (v := undef) rfl (by kernel_rfl) (by kernel_rfl) (by kernel_rfl) (fun _ _ _ h => h) (Or.inr ⟨by rfl, rfl⟩) (by first | exact hHeld | assumption) ?_
            try simp only [Act.put, List.setIfInBounds_toArray, List.set_cons_zero, List.set_cons_succ]
            refine wpAnyH_take (i := 10) (oi := { dst := some 100, op := Op.move (Operand.tmp 11), type := 3, pos := "law.go:106", after := #[{ on := 5, ground := Ground.guard }], guard := some (5, true) }) (v := undef) rfl (by kernel_rfl) (by kernel_rfl) (by kernel_rfl) (fun _ _ _ h => h) (Or.inr ⟨by rfl, rfl⟩) (by first | exact hHeld | assumption) ?_
            try simp only [Act.put, List.setIfInBounds_toArray, List.set_cons_zero, List.set_cons_succ]
            refine wpAnyH_take (i := 11) (oi := { dst := some 101, op := Op.fieldAddr 36 (Operand.tmp 6) 1, type := 0, pos := "law.go:106", after := #[{ on := 5, ground := Ground.guard }], guard := some (5, true) }) (v := undef) rfl (by kernel_rfl) (by kernel_rfl) (by kernel_rfl) (fun _ _ _ h => h) (Or.inr ⟨by rfl, rfl⟩) (by first | exact hHeld | assumption) ?_
            try simp only [Act.put, List.setIfInBounds_toArray, List.set_cons_zero, List.set_cons_succ]
            refine wpAnyH_take (i := 12) (oi := { dst := some 102, op := Op.indexAddr 34 (Operand.tmp 101) (Operand.tmp 100), type := 0, pos := "law.go:106", after := #[{ on := 11, ground := Ground.data }, { on := 10, ground := Ground.data }, { on := 5, ground := Ground.guard }], guard := some (5, true) }) (v := undef) rfl (by kernel_rfl) (by kernel_rfl) (by kernel_rfl) (fun _ _ _ h => h) (Or.inr ⟨by rfl, rfl⟩) (by first | exact hHeld | assumption) ?_
            try simp only [Act.put, List.setIfInBounds_toArray, List.set_cons_zero, List.set_cons_succ]
            refine wpAnyH_take (i := 13) (oi := { dst := some 103, op := Op.load 33 (Operand.tmp 102), type := 33, pos := "law.go:106", after := #[{ on := 12, ground := Ground.data }, { on := 5, ground := Ground.guard }], guard := some (5, true) }) (v := undef) rfl (by kernel_rfl) (by kernel_rfl) (by kernel_rfl) (fun _ _ _ h => h) (Or.inr ⟨by rfl, rfl⟩) (by first | exact hHeld | assumption) ?_
            try simp only [Act.put, List.setIfInBounds_toArray, List.set_cons_zero, List.set_cons_succ]
            refine wpAnyH_take (i := 14) (oi := { dst := some 104, op := Op.binOp BinOp.neq 33 (Operand.tmp 99) (Operand.tmp 103) 33, type := 4, pos := "law.go:106", after := #[{ on := 9, ground := Ground.data }, { on := 13, ground := Ground.data }, { on := 5, ground := Ground.guard }], guard := some (5, true) }) (v := undef) rfl (by kernel_rfl) (by kernel_rfl) (by kernel_rfl) (fun _ _ _ h => h) (Or.inr ⟨by rfl, rfl⟩) (by first | exact hHeld | assumption) ?_
            try simp only [Act.put, List.setIfInBounds_toArray, List.set_cons_zero, List.set_cons_succ]
            refine wpAnyH_take (i := 15) (oi := { dst := some 105, op := Op.pick (Operand.tmp 95) (Operand.tmp 104) (Operand.const (Value.bool false)), type := 4, pos := "law.go:106", after := #[{ on := 5, ground := Ground.data }, { on := 14, ground := Ground.data }], guard := none }) (v := ?_) rfl (by kernel_rfl) (by kernel_rfl) (by kernel_rfl) (fun _ _ _ h => h) (Or.inl ⟨by rfl, ?_⟩) (by first | exact hHeld | assumption) ?_
            rotate_left 1
            · intro w hSw; (try dsimp only at hSw); go_simp; try (with_reducible rfl)
            try simp only [Act.put, List.setIfInBounds_toArray, List.set_cons_zero, List.set_cons_succ]
            refine wpAnyH_take (i := 16) (oi := { dst := some 106, op := Op.move (Operand.tmp 105), type := 4, pos := "law.go:106", after := #[{ on := 15, ground := Ground.data }, { on := 5, ground := Ground.chain }], guard := none }) (v := ?_) rfl (by kernel_rfl) (by kernel_rfl) (by kernel_rfl) (fun _ _ _ h => h) (Or.inl ⟨by rfl, ?_⟩) (by first | exact hHeld | assumption) ?_
            rotate_left 1
            · intro w hSw; (try dsimp only at hSw); go_simp; try (with_reducible rfl)
            try simp only [Act.put, List.setIfInBounds_toArray, List.set_cons_zero, List.set_cons_succ]
            refine wpAnyH_take (i := 17) (oi := { dst := some 107, op := Op.move (Operand.tmp 11), type := 3, pos := "law.go:106", after := #[{ on := 16, ground := Ground.guard }], guard := some (16, false) }) (v := ?_) rfl (by kernel_rfl) (by kernel_rfl) (by kernel_rfl) (fun _ _ _ h => h) (Or.inl ⟨by rfl, ?_⟩) (by first | exact hHeld | assumption) ?_
            rotate_left 1
            · intro w hSw; (try dsimp only at hSw); go_simp; try (with_reducible rfl)
            try simp only [Act.put, List.setIfInBounds_toArray, List.set_cons_zero, List.set_cons_succ]
            refine wpAnyH_take (i := 18) (oi := { dst := some 108, op := Op.fieldAddr 36 (Operand.tmp 6) 1, type := 0, pos := "law.go:106", after := #[{ on := 16, ground := Ground.guard }], guard := some (16, false) }) (v := ?_) rfl (by kernel_rfl) (by kernel_rfl) (by kernel_rfl) (fun _ _ _ h => h) (Or.inl ⟨by rfl, ?_⟩) (by first | exact hHeld | assumption) ?_
            rotate_left 1
            · intro w hSw; (try dsimp only at hSw); go_simp; try (with_reducible rfl)
            try simp only [Act.put, List.setIfInBounds_toArray, List.set_cons_zero, List.set_cons_succ]
            refine wpAnyH_take (i := 19) (oi := { dst := some 109, op := Op.indexAddr 34 (Operand.tmp 108) (Operand.tmp 107), type := 0, pos := "law.go:106", after := #[{ on := 18, ground := Ground.data }, { on := 17, ground := Ground.data }, { on := 16, ground := Ground.guard }], guard := some (16, false) }) (v := ?_) rfl (by kernel_rfl) (by kernel_rfl) (by kernel_rfl) (fun _ _ _ h => h) (Or.inl ⟨by rfl, ?_⟩) (by first | exact hHeld | assumption) ?_
            rotate_left 1
            · intro w hSw; (try dsimp only at hSw); go_simp; try (with_reducible rfl)
            try simp only [Act.put, List.setIfInBounds_toArray, List.set_cons_zero, List.set_cons_succ]
            refine wpAnyH_take (i := 20) (oi := { dst := some 110, op := Op.fieldAddr 33 (Operand.tmp 109) 1, type := 0, pos := "law.go:106", after := #[{ on := 19, ground := Ground.data }, { on := 16, ground := Ground.guard }], guard := some (16, false) }) (v := ?_) rfl (by kernel_rfl) (by kernel_rfl) (by kernel_rfl) (fun _ _ _ h => h) (Or.inl ⟨by rfl, ?_⟩) (by first | exact hHeld | assumption) ?_
            rotate_left 1
            · intro w hSw; (try dsimp only at hSw); go_simp; try (with_reducible rfl)
            try simp only [Act.put, List.setIfInBounds_toArray, List.set_cons_zero, List.set_cons_succ]
            refine wpAnyH_take (i := 21) (oi := { dst := some 111, op := Op.load 5 (Operand.tmp 110), type := 5, pos := "law.go:106", after := #[{ on := 20, ground := Ground.data }, { on := 16, ground := Ground.guard }], guard := some (16, false) }) rfl (by kernel_rfl) (by kernel_rfl) (by kernel_rfl) (fun _ _ _ h => h) (u8_yield (by kernel_rfl) _ rfl (g := gs) (o := 77 + j * 8 + 7) (v := bV (S.s j).p) rfl (fun u hu => (slot_cells (hu.get (g := gs) (cs := stC S) (t := 36) (by simp)) hj64.out).2.2.2.2.2.2.2)) (by exact hHeld) ?_
            try simp only [Act.put, List.setIfInBounds_toArray, List.set_cons_zero, List.set_cons_succ]
            refine wpAnyH_take (i := 22) (oi := { dst := some 112, op := Op.move (Operand.tmp 11), type := 3, pos := "law.go:106", after := #[{ on := 16, ground := Ground.guard }], guard := some (16, false) }) (v := ?_) rfl (by kernel_rfl) (by kernel_rfl) (by kernel_rfl) (fun _ _ _ h => h) (Or.inl ⟨by rfl, ?_⟩) (by first | exact hHeld | assumption) ?_
            rotate_left 1
            · intro w hSw; (try dsimp only at hSw); go_simp; try (with_reducible rfl)
            try simp only [Act.put, List.setIfInBounds_toArray, List.set_cons_zero, List.set_cons_succ]
            refine wpAnyH_take (i := 23) (oi := { dst := some 113, op := Op.fieldAddr 36 (Operand.tmp 7) 1, type := 0, pos := "law.go:106", after := #[{ on := 16, ground := Ground.guard }], guard := some (16, false) }) (v := ?_) rfl (by kernel_rfl) (by kernel_rfl) (by kernel_rfl) (fun _ _ _ h => h) (Or.inl ⟨by rfl, ?_⟩) (by first | exact hHeld | assumption) ?_
            rotate_left 1
            · intro w hSw; (try dsimp only at hSw); go_simp; try (with_reducible rfl)
            try simp only [Act.put, List.setIfInBounds_toArray, List.set_cons_zero, List.set_cons_succ]
            refine wpAnyH_take (i := 24) (oi := { dst := some 114, op := Op.indexAddr 34 (Operand.tmp 113) (Operand.tmp 112), type := 0, pos := "law.go:106", after := #[{ on := 23, ground := Ground.data }, { on := 22, ground := Ground.data }, { on := 16, ground := Ground.guard }], guard := some (16, false) }) (v := ?_) rfl (by kernel_rfl) (by kernel_rfl) (by kernel_rfl) (fun _ _ _ h => h) (Or.inl ⟨by rfl, ?_⟩) (by first | exact hHeld | assumption) ?_
            rotate_left 1
            · intro w hSw; (try dsimp only at hSw); go_simp; try (with_reducible rfl)
            try simp only [Act.put, List.setIfInBounds_toArray, List.set_cons_zero, List.set_cons_succ]
            refine wpAnyH_take (i := 25) (oi := { dst := some 115, op := Op.fieldAddr 33 (Operand.tmp 114) 1, type := 0, pos := "law.go:106", after := #[{ on := 24, ground := Ground.data }, { on := 16, ground := Ground.guard }], guard := some (16, false) }) (v := ?_) rfl (by kernel_rfl) (by kernel_rfl) (by kernel_rfl) (fun _ _ _ h => h) (Or.inl ⟨by rfl, ?_⟩) (by first | exact hHeld | assumption) ?_
            rotate_left 1
            · intro w hSw; (try dsimp only at hSw); go_simp; try (with_reducible rfl)
            try simp only [Act.put, List.setIfInBounds_toArray, List.set_cons_zero, List.set_cons_succ]
            refine wpAnyH_take (i := 26) (oi := { dst := some 116, op := Op.load 5 (Operand.tmp 115), type := 5, pos := "law.go:106", after := #[{ on := 25, ground := Ground.data }, { on := 16, ground := Ground.guard }], guard := some (16, false) }) rfl (by kernel_rfl) (by kernel_rfl) (by kernel_rfl) (fun _ _ _ h => h) (u8_yield (by kernel_rfl) _ rfl (g := gt) (o := 77 + j * 8 + 7) (v := bV (Y.s j).p) rfl (fun u hu => (slot_cells (hu.get (g := gt) (cs := stC Y) (t := 36) (by simp)) hj64.out).2.2.2.2.2.2.2)) (by exact hHeld) ?_
            try simp only [Act.put, List.setIfInBounds_toArray, List.set_cons_zero, List.set_cons_succ]
            refine wpAnyH_take (i := 27) (oi := { dst := some 117, op := Op.binOp BinOp.andNot 5 (Operand.tmp 111) (Operand.tmp 116) 5, type := 5, pos := "law.go:106", after := #[{ on := 21, ground := Ground.data }, { on := 26, ground := Ground.data }, { on := 16, ground := Ground.guard }], guard := some (16, false) }) (v := ?_) rfl (by kernel_rfl) (by kernel_rfl) (by kernel_rfl) (fun _ _ _ h => h) (Or.inl ⟨by rfl, ?_⟩) (by first | exact hHeld | assumption) ?_
            rotate_left 1
            · intro w hSw; (try dsimp only at hSw); go_simp; try (with_reducible rfl)
            try simp only [Act.put, List.setIfInBounds_toArray, List.set_cons_zero, List.set_cons_succ]
            refine wpAnyH_take (i := 28) (oi := { dst := some 118, op := Op.binOp BinOp.neq 5 (Operand.tmp 117) (Operand.const (Value.int IntKind.u8 0)) 5, type := 4, pos := "law.go:106", after := #[{ on := 27, ground := Ground.data }, { on := 16, ground := Ground.guard }], guard := some (16, false) }) (v := ?_) rfl (by kernel_rfl) (by kernel_rfl) (by kernel_rfl) (fun _ _ _ h => h) (Or.inl ⟨by rfl, ?_⟩) (by first | exact hHeld | assumption) ?_
            rotate_left 1
            · intro w hSw; (try dsimp only at hSw); go_simp; try (with_reducible rfl)
            try simp only [Act.put, List.setIfInBounds_toArray, List.set_cons_zero, List.set_cons_succ]
            refine wpAnyH_take (i := 29) (oi := { dst := some 119, op := Op.pick (Operand.tmp 106) (Operand.const (Value.bool true)) (Operand.tmp 118), type := 4, pos := "law.go:106", after := #[{ on := 16, ground := Ground.data }, { on := 28, ground := Ground.data }], guard := none }) (v := ?_) rfl (by kernel_rfl) (by kernel_rfl) (by kernel_rfl) (fun _ _ _ h => h) (Or.inl ⟨by rfl, ?_⟩) (by first | exact hHeld | assumption) ?_
            rotate_left 1
            · intro w hSw; (try dsimp only at hSw); go_simp; try (with_reducible rfl)
            try simp only [Act.put, List.setIfInBounds_toArray, List.set_cons_zero, List.set_cons_succ]
            refine wpAnyH_done (by kernel_rfl) ?_ _
            go_wp2_with fail
            go_round
            case rel => exact ⟨j + 1, by go_num, by omega, XD⟩
            case measure => simp [intOf]; omega
          · have n1 : ((j : Int) != (q : Int)) = true := by rw [bne_iff_ne]; omega
            have OT : Hid (Y.s j = S.s j) := Lib.hid (OTH.out j hjq)
            have AN : bits .andNot .u8 ((S.s j).p.toNat : Int) ((Y.s j).p.toNat : Int) = 0 := by rw [OT.out]; exact and_not_self _
            replace hjq := Lib.hid hjq
            go_upto_region 12 with fail
            have XD := Lib.hid (V1.out.after (Below.drew (Below.refl _ _)))
            refine wp_region_held_drew (S := (fun u => Blks w [(gv, vCells V, 30), (gt, stC Y, 36), (gs, stC S, 36), (w.heap.size, saC a, 43)] u)) (by kernel_rfl) XD.out (fun hHeld => ?_)
            generalize wr.drew = wd at *
            refine wpAnyH_take (i := 0) (oi := { dst := some 90, op := Op.move (Operand.tmp 11), type := 3, pos := "law.go:106", after := #[], guard := none }) (v := ?_) rfl (by kernel_rfl) (by kernel_rfl) (by kernel_rfl) (fun _ _ _ h => h) (Or.inl ⟨by rfl, ?_⟩) (by first | exact hHeld | assumption) ?_
            rotate_left 1
            · intro w hSw; (try dsimp only at hSw); go_simp; try (with_reducible rfl)
            try simp only [Act.put, List.setIfInBounds_toArray, List.set_cons_zero, List.set_cons_succ]
            refine wpAnyH_take (i := 1) (oi := { dst := some 91, op := Op.fieldAddr 43 (Operand.tmp 3) 1, type := 0, pos := "law.go:106", after := #[], guard := none }) (v := ?_) rfl (by kernel_rfl) (by kernel_rfl) (by kernel_rfl) (fun _ _ _ h => h) (Or.inl ⟨by rfl, ?_⟩) (by first | exact hHeld | assumption) ?_
            rotate_left 1
            · intro w hSw; (try dsimp only at hSw); go_simp; try (with_reducible rfl)
            try simp only [Act.put, List.setIfInBounds_toArray, List.set_cons_zero, List.set_cons_succ]
            refine wpAnyH_take (i := 2) (oi := { dst := some 92, op := Op.load 3 (Operand.tmp 91), type := 3, pos := "law.go:106", after := #[{ on := 1, ground := Ground.data }], guard := none }) rfl (by kernel_rfl) (by kernel_rfl) (by kernel_rfl) (fun _ _ _ h => h) (int_yield (by kernel_rfl) _ rfl (g := w.heap.size) (o := 1) (v := .int .i64 a.o) rfl (fun u hu => (saB_cells (hu.get (g := w.heap.size) (cs := saC a) (t := 43) (by simp))).2.1)) (by exact hHeld) ?_
            try simp only [Act.put, List.setIfInBounds_toArray, List.set_cons_zero, List.set_cons_succ]
            refine wpAnyH_take (i := 3) (oi := { dst := some 93, op := Op.binOp BinOp.quo 3 (Operand.tmp 92) (Operand.const (Value.int IntKind.i64 8)) 3, type := 3, pos := "law.go:106", after := #[{ on := 2, ground := Ground.data }], guard := none }) (v := ?_) rfl (by kernel_rfl) (by kernel_rfl) (by kernel_rfl) (fun _ _ _ h => h) (Or.inl ⟨by rfl, ?_⟩) (by first | exact hHeld | assumption) ?_
            rotate_left 1
            · intro w hSw; (try dsimp only at hSw); go_simp; try (with_reducible rfl)
            try simp only [Act.put, List.setIfInBounds_toArray, List.set_cons_zero, List.set_cons_succ]
            refine wpAnyH_take (i := 4) (oi := { dst := some 94, op := Op.binOp BinOp.neq 3 (Operand.tmp 90) (Operand.tmp 93) 3, type := 4, pos := "law.go:106", after := #[{ on := 0, ground := Ground.data }, { on := 3, ground := Ground.data }], guard := none }) (v := ?_) rfl (by kernel_rfl) (by kernel_rfl) (by kernel_rfl) (fun _ _ _ h => h) (Or.inl ⟨by rfl, ?_⟩) (by first | exact hHeld | assumption) ?_
            rotate_left 1
            · intro w hSw; (try dsimp only at hSw); go_simp; try (with_reducible rfl)
            try simp only [Act.put, List.setIfInBounds_toArray, List.set_cons_zero, List.set_cons_succ]
            refine wpAnyH_take (i := 5) (oi := { dst := some 95, op := Op.move (Operand.tmp 94), type := 4, pos := "law.go:106", after := #[{ on := 4, ground := Ground.data }], guard := none }) (v := ?_) rfl (by kernel_rfl) (by kernel_rfl) (by kernel_rfl) (fun _ _ _ h => h) (Or.inl ⟨by rfl, ?_⟩) (by first | exact hHeld | assumption) ?_
            rotate_left 1
            · intro w hSw; (try dsimp only at hSw); go_simp; try (with_reducible rfl)
            try simp only [Act.put, List.setIfInBounds_toArray, List.set_cons_zero, List.set_cons_succ]
            refine wpAnyH_take (i := 6) (oi := { dst := some 96, op := Op.move (Operand.tmp 11), type := 3, pos := "law.go:106", after := #[{ on := 5, ground := Ground.guard }], guard := some (5, true) }) (v := ?_) rfl (by kernel_rfl) (by kernel_rfl) (by kernel_rfl) (fun _ _ _ h => h) (Or.inl ⟨by rfl, ?_⟩) (by first | exact hHeld | assumption) ?_
            rotate_left 1
            · intro w hSw; (try dsimp only at hSw); go_simp; try (with_reducible rfl)
            try simp only [Act.put, List.setIfInBounds_toArray, List.set_cons_zero, List.set_cons_succ]
            refine wpAnyH_take (i := 7) (oi := { dst := some 97, op := Op.fieldAddr 36 (Operand.tmp 7) 1, type := 0, pos := "law.go:106", after := #[{ on := 5, ground := Ground.guard }], guard := some (5, true) }) (v := ?_) rfl (by kernel_rfl) (by kernel_rfl) (by kernel_rfl) (fun _ _ _ h => h) (Or.inl ⟨by rfl, ?_⟩) (by first | exact hHeld | assumption) ?_
            rotate_left 1
            · intro w hSw; (try dsimp only at hSw); go_simp; try (with_reducible rfl)
            try simp only [Act.put, List.setIfInBounds_toArray, List.set_cons_zero, List.set_cons_succ]
            refine wpAnyH_take (i := 8) (oi := { dst := some 98, op := Op.indexAddr 34 (Operand.tmp 97) (Operand.tmp 96), type := 0, pos := "law.go:106", after := #[{ on := 7, ground := Ground.data }, { on := 6, ground := Ground.data }, { on := 5, ground := Ground.guard }], guard := some (5, true) }) (v := ?_) rfl (by kernel_rfl) (by kernel_rfl) (by kernel_rfl) (fun _ _ _ h => h) (Or.inl ⟨by rfl, ?_⟩) (by first | exact hHeld | assumption) ?_
            rotate_left 1
            · intro w hSw; (try dsimp only at hSw); go_simp; try (with_reducible rfl)
            try simp only [Act.put, List.setIfInBounds_toArray, List.set_cons_zero, List.set_cons_succ]
            refine wpAnyH_take (i := 9) (oi := { dst := some 99, op := Op.load 33 (Operand.tmp 98), type := 33, pos := "law.go:106", after := #[{ on := 8, ground := Ground.data }, { on := 5, ground := Ground.guard }], guard := some (5, true) }) rfl (by kernel_rfl) (by kernel_rfl) (by kernel_rfl) (fun _ _ _ h => h) (sl_yield (by kernel_rfl) _ rfl (g := gt) (o := 77 + j * 8) (v := S.s j) rfl (fun u hu => by have q := st_slot (hu.get (g := gt) (cs := stC Y) (t := 36) (by simp)) hj64.out hj8.out; rw [OT.out] at q; exact q)) (by exact hHeld) ?_
            try simp only [Act.put, List.setIfInBounds_toArray, List.set_cons_zero, List.set_cons_succ]
            refine wpAnyH_take (i := 10) (oi := { dst := some 100, op := Op.move (Operand.tmp 11), type := 3, pos := "law.go:106", after := #[{ on := 5, ground := Ground.guard }], guard := some (5, true) }) (v := ?_) rfl (by kernel_rfl) (by kernel_rfl) (by kernel_rfl) (fun _ _ _ h => h) (Or.inl ⟨by rfl, ?_⟩) (by first | exact hHeld | assumption) ?_
            rotate_left 1
            · intro w hSw; (try dsimp only at hSw); go_simp; try (with_reducible rfl)
            try simp only [Act.put, List.setIfInBounds_toArray, List.set_cons_zero, List.set_cons_succ]
            refine wpAnyH_take (i := 11) (oi := { dst := some 101, op := Op.fieldAddr 36 (Operand.tmp 6) 1, type := 0, pos := "law.go:106", after := #[{ on := 5, ground := Ground.guard }], guard := some (5, true) }) (v := ?_) rfl (by kernel_rfl) (by kernel_rfl) (by kernel_rfl) (fun _ _ _ h => h) (Or.inl ⟨by rfl, ?_⟩) (by first | exact hHeld | assumption) ?_
            rotate_left 1
            · intro w hSw; (try dsimp only at hSw); go_simp; try (with_reducible rfl)
            try simp only [Act.put, List.setIfInBounds_toArray, List.set_cons_zero, List.set_cons_succ]
            refine wpAnyH_take (i := 12) (oi := { dst := some 102, op := Op.indexAddr 34 (Operand.tmp 101) (Operand.tmp 100), type := 0, pos := "law.go:106", after := #[{ on := 11, ground := Ground.data }, { on := 10, ground := Ground.data }, { on := 5, ground := Ground.guard }], guard := some (5, true) }) (v := ?_) rfl (by kernel_rfl) (by kernel_rfl) (by kernel_rfl) (fun _ _ _ h => h) (Or.inl ⟨by rfl, ?_⟩) (by first | exact hHeld | assumption) ?_
            rotate_left 1
            · intro w hSw; (try dsimp only at hSw); go_simp; try (with_reducible rfl)
            try simp only [Act.put, List.setIfInBounds_toArray, List.set_cons_zero, List.set_cons_succ]
            refine wpAnyH_take (i := 13) (oi := { dst := some 103, op := Op.load 33 (Operand.tmp 102), type := 33, pos := "law.go:106", after := #[{ on := 12, ground := Ground.data }, { on := 5, ground := Ground.guard }], guard := some (5, true) }) rfl (by kernel_rfl) (by kernel_rfl) (by kernel_rfl) (fun _ _ _ h => h) (sl_yield (by kernel_rfl) _ rfl (g := gs) (o := 77 + j * 8) (v := S.s j) rfl (fun u hu => st_slot (hu.get (g := gs) (cs := stC S) (t := 36) (by simp)) hj64.out hj8.out)) (by exact hHeld) ?_
            try simp only [Act.put, List.setIfInBounds_toArray, List.set_cons_zero, List.set_cons_succ]
            refine wpAnyH_take (i := 14) (oi := { dst := some 104, op := Op.binOp BinOp.neq 33 (Operand.tmp 99) (Operand.tmp 103) 33, type := 4, pos := "law.go:106", after := #[{ on := 9, ground := Ground.data }, { on := 13, ground := Ground.data }, { on := 5, ground := Ground.guard }], guard := some (5, true) }) rfl (by kernel_rfl) (by kernel_rfl) (by kernel_rfl) (fun _ _ _ h => h) (yields_value (by kernel_rfl) (x_slot_ne (X := S.s j) rfl rfl rfl)) (by exact hHeld) ?_
            try simp only [Act.put, List.setIfInBounds_toArray, List.set_cons_zero, List.set_cons_succ]
            refine wpAnyH_take (i := 15) (oi := { dst := some 105, op := Op.pick (Operand.tmp 95) (Operand.tmp 104) (Operand.const (Value.bool false)), type := 4, pos := "law.go:106", after := #[{ on := 5, ground := Ground.data }, { on := 14, ground := Ground.data }], guard := none }) (v := ?_) rfl (by kernel_rfl) (by kernel_rfl) (by kernel_rfl) (fun _ _ _ h => h) (Or.inl ⟨by rfl, ?_⟩) (by first | exact hHeld | assumption) ?_
            rotate_left 1
            · intro w hSw; (try dsimp only at hSw); go_simp; try (with_reducible rfl)
            try simp only [Act.put, List.setIfInBounds_toArray, List.set_cons_zero, List.set_cons_succ]
            refine wpAnyH_take (i := 16) (oi := { dst := some 106, op := Op.move (Operand.tmp 105), type := 4, pos := "law.go:106", after := #[{ on := 15, ground := Ground.data }, { on := 5, ground := Ground.chain }], guard := none }) (v := ?_) rfl (by kernel_rfl) (by kernel_rfl) (by kernel_rfl) (fun _ _ _ h => h) (Or.inl ⟨by rfl, ?_⟩) (by first | exact hHeld | assumption) ?_
            rotate_left 1
            · intro w hSw; (try dsimp only at hSw); go_simp; try (with_reducible rfl)
            try simp only [Act.put, List.setIfInBounds_toArray, List.set_cons_zero, List.set_cons_succ]
            refine wpAnyH_take (i := 17) (oi := { dst := some 107, op := Op.move (Operand.tmp 11), type := 3, pos := "law.go:106", after := #[{ on := 16, ground := Ground.guard }], guard := some (16, false) }) (v := ?_) rfl (by kernel_rfl) (by kernel_rfl) (by kernel_rfl) (fun _ _ _ h => h) (Or.inl ⟨by rfl, ?_⟩) (by first | exact hHeld | assumption) ?_
            rotate_left 1
            · intro w hSw; (try dsimp only at hSw); go_simp; try (with_reducible rfl)
            try simp only [Act.put, List.setIfInBounds_toArray, List.set_cons_zero, List.set_cons_succ]
            refine wpAnyH_take (i := 18) (oi := { dst := some 108, op := Op.fieldAddr 36 (Operand.tmp 6) 1, type := 0, pos := "law.go:106", after := #[{ on := 16, ground := Ground.guard }], guard := some (16, false) }) (v := ?_) rfl (by kernel_rfl) (by kernel_rfl) (by kernel_rfl) (fun _ _ _ h => h) (Or.inl ⟨by rfl, ?_⟩) (by first | exact hHeld | assumption) ?_
            rotate_left 1
            · intro w hSw; (try dsimp only at hSw); go_simp; try (with_reducible rfl)
            try simp only [Act.put, List.setIfInBounds_toArray, List.set_cons_zero, List.set_cons_succ]
            refine wpAnyH_take (i := 19) (oi := { dst := some 109, op := Op.indexAddr 34 (Operand.tmp 108) (Operand.tmp 107), type := 0, pos := "law.go:106", after := #[{ on := 18, ground := Ground.data }, { on := 17, ground := Ground.data }, { on := 16, ground := Ground.guard }], guard := some (16, false) }) (v := ?_) rfl (by kernel_rfl) (by kernel_rfl) (by kernel_rfl) (fun _ _ _ h => h) (Or.inl ⟨by rfl, ?_⟩) (by first | exact hHeld | assumption) ?_
            rotate_left 1
            · intro w hSw; (try dsimp only at hSw); go_simp; try (with_reducible rfl)
            try simp only [Act.put, List.setIfInBounds_toArray, List.set_cons_zero, List.set_cons_succ]
            refine wpAnyH_take (i := 20) (oi := { dst := some 110, op := Op.fieldAddr 33 (Operand.tmp 109) 1, type := 0, pos := "law.go:106", after := #[{ on := 19, ground := Ground.data }, { on := 16, ground := Ground.guard }], guard := some (16, false) }) (v := ?_) rfl (by kernel_rfl) (by kernel_rfl) (by kernel_rfl) (fun _ _ _ h => h) (Or.inl ⟨by rfl, ?_⟩) (by first | exact hHeld | assumption) ?_
            rotate_left 1
            · intro w hSw; (try dsimp only at hSw); go_simp; try (with_reducible rfl)
            try simp only [Act.put, List.setIfInBounds_toArray, List.set_cons_zero, List.set_cons_succ]
            refine wpAnyH_take (i := 21) (oi := { dst := some 111, op := Op.load 5 (Operand.tmp 110), type := 5, pos := "law.go:106", after := #[{ on := 20, ground := Ground.data }, { on := 16, ground := Ground.guard }], guard := some (16, false) }) rfl (by kernel_rfl) (by kernel_rfl) (by kernel_rfl) (fun _ _ _ h => h) (u8_yield (by kernel_rfl) _ rfl (g := gs) (o := 77 + j * 8 + 7) (v := bV (S.s j).p) rfl (fun u hu => (slot_cells (hu.get (g := gs) (cs := stC S) (t := 36) (by simp)) hj64.out).2.2.2.2.2.2.2)) (by exact hHeld) ?_
            try simp only [Act.put, List.setIfInBounds_toArray, List.set_cons_zero, List.set_cons_succ]
            refine wpAnyH_take (i := 22) (oi := { dst := some 112, op := Op.move (Operand.tmp 11), type := 3, pos := "law.go:106", after := #[{ on := 16, ground := Ground.guard }], guard := some (16, false) }) (v := ?_) rfl (by kernel_rfl) (by kernel_rfl) (by kernel_rfl) (fun _ _ _ h => h) (Or.inl ⟨by rfl, ?_⟩) (by first | exact hHeld | assumption) ?_
            rotate_left 1
            · intro w hSw; (try dsimp only at hSw); go_simp; try (with_reducible rfl)
            try simp only [Act.put, List.setIfInBounds_toArray, List.set_cons_zero, List.set_cons_succ]
            refine wpAnyH_take (i := 23) (oi := { dst := some 113, op := Op.fieldAddr 36 (Operand.tmp 7) 1, type := 0, pos := "law.go:106", after := #[{ on := 16, ground := Ground.guard }], guard := some (16, false) }) (v := ?_) rfl (by kernel_rfl) (by kernel_rfl) (by kernel_rfl) (fun _ _ _ h => h) (Or.inl ⟨by rfl, ?_⟩) (by first | exact hHeld | assumption) ?_
            rotate_left 1
            · intro w hSw; (try dsimp only at hSw); go_simp; try (with_reducible rfl)
            try simp only [Act.put, List.setIfInBounds_toArray, List.set_cons_zero, List.set_cons_succ]
            refine wpAnyH_take (i := 24) (oi := { dst := some 114, op := Op.indexAddr 34 (Operand.tmp 113) (Operand.tmp 112), type := 0, pos := "law.go:106", after := #[{ on := 23, ground := Ground.data }, { on := 22, ground := Ground.data }, { on := 16, ground := Ground.guard }], guard := some (16, false) }) (v := ?_) rfl (by kernel_rfl) (by kernel_rfl) (by kernel_rfl) (fun _ _ _ h => h) (Or.inl ⟨by rfl, ?_⟩) (by first | exact hHeld | assumption) ?_
            rotate_left 1
            · intro w hSw; (try dsimp only at hSw); go_simp; try (with_reducible rfl)
            try simp only [Act.put, List.setIfInBounds_toArray, List.set_cons_zero, List.set_cons_succ]
            refine wpAnyH_take (i := 25) (oi := { dst := some 115, op := Op.fieldAddr 33 (Operand.tmp 114) 1, type := 0, pos := "law.go:106", after := #[{ on := 24, ground := Ground.data }, { on := 16, ground := Ground.guard }], guard := some (16, false) }) (v := ?_) rfl (by kernel_rfl) (by kernel_rfl) (by kernel_rfl) (fun _ _ _ h => h) (Or.inl ⟨by rfl, ?_⟩) (by first | exact hHeld | assumption) ?_
            rotate_left 1
            · intro w hSw; (try dsimp only at hSw); go_simp; try (with_reducible rfl)
            try simp only [Act.put, List.setIfInBounds_toArray, List.set_cons_zero, List.set_cons_succ]
            refine wpAnyH_take (i := 26) (oi := { dst := some 116, op := Op.load 5 (Operand.tmp 115), type := 5, pos := "law.go:106", after := #[{ on := 25, ground := Ground.data }, { on := 16, ground := Ground.guard }], guard := some (16, false) }) rfl (by kernel_rfl) (by kernel_rfl) (by kernel_rfl) (fun _ _ _ h => h) (u8_yield (by kernel_rfl) _ rfl (g := gt) (o := 77 + j * 8 + 7) (v := bV (Y.s j).p) rfl (fun u hu => (slot_cells (hu.get (g := gt) (cs := stC Y) (t := 36) (by simp)) hj64.out).2.2.2.2.2.2.2)) (by exact hHeld) ?_
            try simp only [Act.put, List.setIfInBounds_toArray, List.set_cons_zero, List.set_cons_succ]
            refine wpAnyH_take (i := 27) (oi := { dst := some 117, op := Op.binOp BinOp.andNot 5 (Operand.tmp 111) (Operand.tmp 116) 5, type := 5, pos := "law.go:106", after := #[{ on := 21, ground := Ground.data }, { on := 26, ground := Ground.data }, { on := 16, ground := Ground.guard }], guard := some (16, false) }) (v := ?_) rfl (by kernel_rfl) (by kernel_rfl) (by kernel_rfl) (fun _ _ _ h => h) (Or.inl ⟨by rfl, ?_⟩) (by first | exact hHeld | assumption) ?_
            rotate_left 1
            · intro w hSw; (try dsimp only at hSw); go_simp; try (with_reducible rfl)
            try simp only [Act.put, List.setIfInBounds_toArray, List.set_cons_zero, List.set_cons_succ]
            refine wpAnyH_take (i := 28) (oi := { dst := some 118, op := Op.binOp BinOp.neq 5 (Operand.tmp 117) (Operand.const (Value.int IntKind.u8 0)) 5, type := 4, pos := "law.go:106", after := #[{ on := 27, ground := Ground.data }, { on := 16, ground := Ground.guard }], guard := some (16, false) }) (v := ?_) rfl (by kernel_rfl) (by kernel_rfl) (by kernel_rfl) (fun _ _ _ h => h) (Or.inl ⟨by rfl, ?_⟩) (by first | exact hHeld | assumption) ?_
            rotate_left 1
            · intro w hSw; (try dsimp only at hSw); go_simp; try (with_reducible rfl)
            try simp only [Act.put, List.setIfInBounds_toArray, List.set_cons_zero, List.set_cons_succ]
            refine wpAnyH_take (i := 29) (oi := { dst := some 119, op := Op.pick (Operand.tmp 106) (Operand.const (Value.bool true)) (Operand.tmp 118), type := 4, pos := "law.go:106", after := #[{ on := 16, ground := Ground.data }, { on := 28, ground := Ground.data }], guard := none }) (v := ?_) rfl (by kernel_rfl) (by kernel_rfl) (by kernel_rfl) (fun _ _ _ h => h) (Or.inl ⟨by rfl, ?_⟩) (by first | exact hHeld | assumption) ?_
            rotate_left 1
            · intro w hSw; (try dsimp only at hSw); go_simp; try (with_reducible rfl)
            try simp only [Act.put, List.setIfInBounds_toArray, List.set_cons_zero, List.set_cons_succ]
            refine wpAnyH_done (by kernel_rfl) ?_ _
            go_wp2_with fail
            go_round
            case rel => exact ⟨j + 1, by go_num, by omega, XD⟩
            case measure => simp [intOf]; omega
        · have hj2 : j = 64 := by omega
          subst hj2
          go_wp2_with fail
          go_ret
          exact ⟨rfl, V1.out.1⟩
    · have hVa : Hid (vV a.v = vV V) := Lib.hid (by rw [g2 h8])
      have k8 : ¬ a.z < 8 := by
        rw [beq_iff_eq] at h8
        omega
      clear g2 g3 q2
      go_enter Try.func6, Try.ntmps6
      go_wp2_with fail
      refine (SH.out _).mono ?_; rintro e w1 ⟨rfl, b1⟩
      have X := Lib.hid (((Blks.start w).new (saC a) 43).after b1)
      clear b1
      go_wp2_with fail
      refine (MD.out _ X.out.1).mono ?_; rintro e w2 ⟨rfl, b2⟩
      replace X := Lib.hid (X.out.after b2)
      clear b2 MD
      have hgs := Lib.hid (Blk.lt (X.out.get (g := w.heap.size) (cs := saC a) (t := 43) (by simp)))
      replace X := Lib.hid ((X.out.new Try.zeroCells36 36).row (by have := hgs.out; omega) (by have := hgs.out; simp; omega) (stC S))
      have N2 : Hid (stB w2.heap.size stZ (w2.alloc (.cells Try.zeroCells36 36))) := Lib.hid (stB.newz w2 rfl)
      go_upto_region 3 with (refine st_store rfl _ _ rfl rfl rfl N2.out ?_)
      clear N2
      generalize (w2.alloc (.cells Try.zeroCells36 36)).setRow w2.heap.size (stC S) = wx at *
      generalize w2.heap.size = gs at *
      have LS : Hid (stB gs S wx) := Lib.hid (X.out.get (g := gs) (cs := stC S) (t := 36) (by simp))
      obtain ⟨c0, c1, c2, c3, c4, c5, c6, c7, c8, c9⟩ := saB_cells (X.out.get (g := w.heap.size) (cs := saC a) (t := 43) (by simp))
      go_wp2_with (first | (refine st_load rfl _ rfl rfl LS.out ?_) | fail)
      refine (PU.out _).mono ?_; rintro e w4 ⟨rfl, b4⟩
      replace X := Lib.hid (X.out.after b4)
      clear b4 LS PU c0 c1 c2 c3 c4 c5 c6 c7 c8 c9
      have hgt := Lib.hid (Blk.lt (X.out.get (g := gs) (cs := stC S) (t := 36) (by simp)))
      replace X := Lib.hid ((X.out.new Try.zeroCells36 36).row (by have := hgs.out; have := hgt.out; omega) (by have := hgs.out; have := hgt.out; simp; omega) (stC Y))
      have N2 : Hid (stB w4.heap.size stZ (w4.alloc (.cells Try.zeroCells36 36))) := Lib.hid (stB.newz w4 rfl)
      go_upto_region 4 with (refine st_store rfl _ _ rfl rfl rfl N2.out ?_)
      clear N2
      generalize (w4.alloc (.cells Try.zeroCells36 36)).setRow w4.heap.size (stC Y) = wx at *
      generalize w4.heap.size = gt at *
      have LT : Hid (stB gt Y wx) := Lib.hid (X.out.get (g := gt) (cs := stC Y) (t := 36) (by simp))
      obtain ⟨c0, c1, c2, c3, c4, c5, c6, c7, c8, c9⟩ := saB_cells (X.out.get (g := w.heap.size) (cs := saC a) (t := 43) (by simp))
      go_wp2_with (first | (refine st_load rfl _ rfl rfl LT.out ?_) | fail)
      refine (GE.out _).mono ?_; rintro e w5 ⟨rfl, b5⟩
      replace X := Lib.hid ((X.out.after b5).new (vCells V) 30)
      clear b5 LT GE c0 c1 c2 c3 c4 c5 c6 c7 c8 c9
      go_upto_region 7 with fail
      generalize w5.alloc (.cells (vCells V) 30) = wx at *
      generalize w5.heap.size = gv at *
      obtain ⟨c0, c1, c2, c3, c4, c5, c6, c7, c8, c9⟩ := saB_cells (X.out.get (g := w.heap.size) (cs := saC a) (t := 43) (by simp))
      obtain ⟨d0, d1, d2, d3, d4, d5, d6⟩ := vB.cells (X.out.get (g := gv) (cs := vCells V) (t := 30) (by simp))
      have LT : Hid (stB gt Y wx) := Lib.hid (X.out.get (g := gt) (cs := stC Y) (t := 36) (by simp))
      have VA : Hid (wx.rangeAt w.heap.size 3 (vL a.v)) := Lib.hid (saBlk_range (X.out.get (g := w.heap.size) (cs := saC a) (t := 43) (by simp)))
      have VV : Hid (wx.rangeAt gv 0 (vL V)) := Lib.hid (vBlk_range (X.out.get (g := gv) (cs := vCells V) (t := 30) (by simp)))
      go_wp2_with (first | (refine st_load_w (by kernel_rfl) _ rfl rfl LT.out ?_) | (refine st_loadV_w (by kernel_rfl) _ rfl rfl (v := V) VV.out ?_) | (refine st_loadV_w (by kernel_rfl) _ rfl (o := 3) rfl VA.out ?_) | (refine wpList_value_w (by kernel_rfl) (x_val_ne (X := V) rfl rfl hVa.out) ?_) | fail)
      refine (FU.out _).mono ?_; rintro e w6 ⟨rfl, b6⟩
      replace X := Lib.hid (X.out.after b6)
      replace LT := Lib.hid (LT.out.after b6)
      clear b6 FU VA VV d0 d1 d2 d3 d4 d5 d6 c0 c1 c2 c3 c4 c5 c6 c7 c8 c9
      go_wp2_with (first | (refine st_load_w (by kernel_rfl) _ rfl rfl LT.out ?_) | fail)
      refine (RT.out _).mono ?_; rintro e w7 ⟨rfl, b7⟩
      replace X := Lib.hid (X.out.after b7)
      replace LT := Lib.hid (LT.out.after b7)
      clear b7 RT
      have LS : Hid (stB gs S w7) := Lib.hid (X.out.get (g := gs) (cs := stC S) (t := 36) (by simp))
      go_wp2_with (first | (refine st_loadr_w (by kernel_rfl) _ rfl rfl LT.out ?_) | (refine st_loadr_w (by kernel_rfl) _ rfl rfl LS.out ?_) | (refine wpList_value_w (by kernel_rfl) (x_regs_ne (X := S) rfl ZR.out rfl) ?_) | fail)
      clear LS LT
      skip
      go_loopw [87] (fun iv wr => ∃ j : Nat, iv = .int .i64 j ∧ j ≤ 64 ∧ Hid (Blks w [(gv, vCells V, 30), (gt, stC Y, 36), (gs, stC S, 36), (w.heap.size, saC a, 43)] wr)) (fun iv wr => 64 - (intOf iv).toNat)
      case atStart => exact ⟨0, rfl, by omega, X⟩
      case round =>
        obtain ⟨j, rfl, hj, V1⟩ := hrel
        have j0 : (0 : Int) ≤ (j : Int) := by omega
        by_cases hlt : (j : Int) < 64
        · have hj64 : Hid (j < 64) := Lib.hid (by omega)
          have hj8 : Hid (77 + j * 8 = 77 + 8 * j) := Lib.hid (by omega)
          by_cases hjq : j = q
          · have n1 : ((j : Int) != (q : Int)) = false := by rw [hjq]; simp
            have AN : bits .andNot .u8 ((S.s j).p.toNat : Int) ((Y.s j).p.toNat : Int) = 0 := by rw [hjq]; exact SAM.out
            replace hjq := Lib.hid hjq
            go_upto_region 12 with fail
            have XD := Lib.hid (V1.out.after (Below.drew (Below.refl _ _)))
            refine wp_region_held_drew (S := (fun u => Blks w [(gv, vCells V, 30), (gt, stC Y, 36), (gs, stC S, 36), (w.heap.size, saC a, 43)] u)) (by kernel_rfl) XD.out (fun hHeld => ?_)
            generalize wr.drew = wd at *
            refine wpAnyH_take (i := 0) (oi := { dst := some 90, op := Op.move (Operand.tmp 11), type := 3, pos := "law.go:106", after := #[], guard := none }) (v := ?_) rfl (by kernel_rfl) (by kernel_rfl) (by kernel_rfl) (fun _ _ _ h => h) (Or.inl ⟨by rfl, ?_⟩) (by first | exact hHeld | assumption) ?_
            rotate_left 1
            · intro w hSw; (try dsimp only at hSw); go_simp; try (with_reducible rfl)
            try simp only [Act.put, List.setIfInBounds_toArray, List.set_cons_zero, List.set_cons_succ]
            refine wpAnyH_take (i := 1) (oi := { dst := some 91, op := Op.fieldAddr 43 (Operand.tmp 3) 1, type := 0, pos := "law.go:106", after := #[], guard := none }) (v := ?_) rfl (by kernel_rfl) (by kernel_rfl) (by kernel_rfl) (fun _ _ _ h => h) (Or.inl ⟨by rfl, ?_⟩) (by first | exact hHeld | assumption) ?_
            rotate_left 1
            · intro w hSw; (try dsimp only at hSw); go_simp; try (with_reducible rfl)
            try simp only [Act.put, List.setIfInBounds_toArray, List.set_cons_zero, List.set_cons_succ]
            refine wpAnyH_take (i := 2) (oi := { dst := some 92, op := Op.load 3 (Operand.tmp 91), type := 3, pos := "law.go:106", after := #[{ on := 1, ground := Ground.data }], guard := none }) rfl (by kernel_rfl) (by kernel_rfl) (by kernel_rfl) (fun _ _ _ h => h) (int_yield (by kernel_rfl) _ rfl (g := w.heap.size) (o := 1) (v := .int .i64 a.o) rfl (fun u hu => (saB_cells (hu.get (g := w.heap.size) (cs := saC a) (t := 43) (by simp))).2.1)) (by exact hHeld) ?_
            try simp only [Act.put, List.setIfInBounds_toArray, List.set_cons_zero, List.set_cons_succ]
            refine wpAnyH_take (i := 3) (oi := { dst := some 93, op := Op.binOp BinOp.quo 3 (Operand.tmp 92) (Operand.const (Value.int IntKind.i64 8)) 3, type := 3, pos := "law.go:106", after := #[{ on := 2, ground := Ground.data }], guard := none }) (v := ?_) rfl (by kernel_rfl) (by kernel_rfl) (by kernel_rfl) (fun _ _ _ h => h) (Or.inl ⟨by rfl, ?_⟩) (by first | exact hHeld | assumption) ?_
            rotate_left 1
            · intro w hSw; (try dsimp only at hSw); go_simp; try (with_reducible rfl)
            try simp only [Act.put, List.setIfInBounds_toArray, List.set_cons_zero, List.set_cons_succ]
            refine wpAnyH_take (i := 4) (oi := { dst := some 94, op := Op.binOp BinOp.neq 3 (Operand.tmp 90) (Operand.tmp 93) 3, type := 4, pos := "law.go:106", after := #[{ on := 0, ground := Ground.data }, { on := 3, ground := Ground.data }], guard := none }) (v := ?_) rfl (by kernel_rfl) (by kernel_rfl) (by kernel_rfl) (fun _ _ _ h => h) (Or.inl ⟨by rfl, ?_⟩) (by first | exact hHeld | assumption) ?_
            rotate_left 1
            · intro w hSw; (try dsimp only at hSw); go_simp; try (with_reducible rfl)
            try simp only [Act.put, List.setIfInBounds_toArray, List.set_cons_zero, List.set_cons_succ]
            refine wpAnyH_take (i := 5) (oi := { dst := some 95, op := Op.move (Operand.tmp 94), type := 4, pos := "law.go:106", after := #[{ on := 4, ground := Ground.data }], guard := none }) (v := ?_) rfl (by kernel_rfl) (by kernel_rfl) (by kernel_rfl) (fun _ _ _ h => h) (Or.inl ⟨by rfl, ?_⟩) (by first | exact hHeld | assumption) ?_
            rotate_left 1
            · intro w hSw; (try dsimp only at hSw); go_simp; try (with_reducible rfl)
            try simp only [Act.put, List.setIfInBounds_toArray, List.set_cons_zero, List.set_cons_succ]
            refine wpAnyH_take (i := 6) (oi := { dst := some 96, op := Op.move (Operand.tmp 11), type := 3, pos := "law.go:106", after := #[{ on := 5, ground := Ground.guard }], guard := some (5, true) }) (v := undef) rfl (by kernel_rfl) (by kernel_rfl) (by kernel_rfl) (fun _ _ _ h => h) (Or.inr ⟨by rfl, rfl⟩) (by first | exact hHeld | assumption) ?_
            try simp only [Act.put, List.setIfInBounds_toArray, List.set_cons_zero, List.set_cons_succ]
            refine wpAnyH_take (i := 7) (oi := { dst := some 97, op := Op.fieldAddr 36 (Operand.tmp 7) 1, type := 0, pos := "law.go:106", after := #[{ on := 5, ground := Ground.guard }], guard := some (5, true) }) (v := undef) rfl (by kernel_rfl) (by kernel_rfl) (by kernel_rfl) (fun _ _ _ h => h) (Or.inr ⟨by rfl, rfl⟩) (by first | exact hHeld | assumption) ?_
            try simp only [Act.put, List.setIfInBounds_toArray, List.set_cons_zero, List.set_cons_succ]
            refine wpAnyH_take (i := 8) (oi := { dst := some 98, op := Op.indexAddr 34 (Operand.tmp 97) (Operand.tmp 96), type := 0, pos := "law.go:106", after := #[{ on := 7, ground := Ground.data }, { on := 6, ground := Ground.data }, { on := 5, ground := Ground.guard }], guard := some (5, true) }) (v := undef) rfl (by kernel_rfl) (by kernel_rfl) (by kernel_rfl) (fun _ _ _ h => h) (Or.inr ⟨by rfl, rfl⟩) (by first | exact hHeld | assumption) ?_
            try simp only [Act.put, List.setIfInBounds_toArray, List.set_cons_zero, List.set_cons_succ]
            refine wpAnyH_take (i := 9) (oi := { dst := some 99, op := Op.load 33 (Operand.tmp 98), type := 33, pos := "law.go:106", after := #[{ on := 8, ground := Ground.data }, { on := 5, ground := Ground.guard }], guard := some (5, true) }) (v := undef) rfl (by kernel_rfl) (by kernel_rfl) (by kernel_rfl) (fun _ _ _ h => h) (Or.inr ⟨by rfl, rfl⟩) (by first | exact hHeld | assumption) ?_
            try simp only [Act.put, List.setIfInBounds_toArray, List.set_cons_zero, List.set_cons_succ]
            refine wpAnyH_take (i := 10) (oi := { dst := some 100, op := Op.move (Operand.tmp 11), type := 3, pos := "law.go:106", after := #[{ on := 5, ground := Ground.guard }], guard := some (5, true) }) (v := undef) rfl (by kernel_rfl) (by kernel_rfl) (by kernel_rfl) (fun _ _ _ h => h) (Or.inr ⟨by rfl, rfl⟩) (by first | exact hHeld | assumption) ?_
            try simp only [Act.put, List.setIfInBounds_toArray, List.set_cons_zero, List.set_cons_succ]
            refine wpAnyH_take (i := 11) (oi := { dst := some 101, op := Op.fieldAddr 36 (Operand.tmp 6) 1, type := 0, pos := "law.go:106", after := #[{ on := 5, ground := Ground.guard }], guard := some (5, true) }) (v := undef) rfl (by kernel_rfl) (by kernel_rfl) (by kernel_rfl) (fun _ _ _ h => h) (Or.inr ⟨by rfl, rfl⟩) (by first | exact hHeld | assumption) ?_
            try simp only [Act.put, List.setIfInBounds_toArray, List.set_cons_zero, List.set_cons_succ]
            refine wpAnyH_take (i := 12) (oi := { dst := some 102, op := Op.indexAddr 34 (Operand.tmp 101) (Operand.tmp 100), type := 0, pos := "law.go:106", after := #[{ on := 11, ground := Ground.data }, { on := 10, ground := Ground.data }, { on := 5, ground := Ground.guard }], guard := some (5, true) }) (v := undef) rfl (by kernel_rfl) (by kernel_rfl) (by kernel_rfl) (fun _ _ _ h => h) (Or.inr ⟨by rfl, rfl⟩) (by first | exact hHeld | assumption) ?_
            try simp only [Act.put, List.setIfInBounds_toArray, List.set_cons_zero, List.set_cons_succ]
            refine wpAnyH_take (i := 13) (oi := { dst := some 103, op := Op.load 33 (Operand.tmp 102), type := 33, pos := "law.go:106", after := #[{ on := 12, ground := Ground.data }, { on := 5, ground := Ground.guard }], guard := some (5, true) }) (v := undef) rfl (by kernel_rfl) (by kernel_rfl) (by kernel_rfl) (fun _ _ _ h => h) (Or.inr ⟨by rfl, rfl⟩) (by first | exact hHeld | assumption) ?_
            try simp only [Act.put, List.setIfInBounds_toArray, List.set_cons_zero, List.set_cons_succ]
            refine wpAnyH_take (i := 14) (oi := { dst := some 104, op := Op.binOp BinOp.neq 33 (Operand.tmp 99) (Operand.tmp 103) 33, type := 4, pos := "law.go:106", after := #[{ on := 9, ground := Ground.data }, { on := 13, ground := Ground.data }, { on := 5, ground := Ground.guard }], guard := some (5, true) }) (v := undef) rfl (by kernel_rfl) (by kernel_rfl) (by kernel_rfl) (fun _ _ _ h => h) (Or.inr ⟨by rfl, rfl⟩) (by first | exact hHeld | assumption) ?_
            try simp only [Act.put, List.setIfInBounds_toArray, List.set_cons_zero, List.set_cons_succ]
            refine wpAnyH_take (i := 15) (oi := { dst := some 105, op := Op.pick (Operand.tmp 95) (Operand.tmp 104) (Operand.const (Value.bool false)), type := 4, pos := "law.go:106", after := #[{ on := 5, ground := Ground.data }, { on := 14, ground := Ground.data }], guard := none }) (v := ?_) rfl (by kernel_rfl) (by kernel_rfl) (by kernel_rfl) (fun _ _ _ h => h) (Or.inl ⟨by rfl, ?_⟩) (by first | exact hHeld | assumption) ?_
            rotate_left 1
            · intro w hSw; (try dsimp only at hSw); go_simp; try (with_reducible rfl)
            try simp only [Act.put, List.setIfInBounds_toArray, List.set_cons_zero, List.set_cons_succ]
            refine wpAnyH_take (i := 16) (oi := { dst := some 106, op := Op.move (Operand.tmp 105), type := 4, pos := "law.go:106", after := #[{ on := 15, ground := Ground.data }, { on := 5, ground := Ground.chain }], guard := none }) (v := ?_) rfl (by kernel_rfl) (by kernel_rfl) (by kernel_rfl) (fun _ _ _ h => h) (Or.inl ⟨by rfl, ?_⟩) (by first | exact hHeld | assumption) ?_
            rotate_left 1
            · intro w hSw; (try dsimp only at hSw); go_simp; try (with_reducible rfl)
            try simp only [Act.put, List.setIfInBounds_toArray, List.set_cons_zero, List.set_cons_succ]
            refine wpAnyH_take (i := 17) (oi := { dst := some 107, op := Op.move (Operand.tmp 11), type := 3, pos := "law.go:106", after := #[{ on := 16, ground := Ground.guard }], guard := some (16, false) }) (v := ?_) rfl (by kernel_rfl) (by kernel_rfl) (by kernel_rfl) (fun _ _ _ h => h) (Or.inl ⟨by rfl, ?_⟩) (by first | exact hHeld | assumption) ?_
            rotate_left 1
            · intro w hSw; (try dsimp only at hSw); go_simp; try (with_reducible rfl)
            try simp only [Act.put, List.setIfInBounds_toArray, List.set_cons_zero, List.set_cons_succ]
            refine wpAnyH_take (i := 18) (oi := { dst := some 108, op := Op.fieldAddr 36 (Operand.tmp 6) 1, type := 0, pos := "law.go:106", after := #[{ on := 16, ground := Ground.guard }], guard := some (16, false) }) (v := ?_) rfl (by kernel_rfl) (by kernel_rfl) (by kernel_rfl) (fun _ _ _ h => h) (Or.inl ⟨by rfl, ?_⟩) (by first | exact hHeld | assumption) ?_
            rotate_left 1
            · intro w hSw; (try dsimp only at hSw); go_simp; try (with_reducible rfl)
            try simp only [Act.put, List.setIfInBounds_toArray, List.set_cons_zero, List.set_cons_succ]
            refine wpAnyH_take (i := 19) (oi := { dst := some 109, op := Op.indexAddr 34 (Operand.tmp 108) (Operand.tmp 107), type := 0, pos := "law.go:106", after := #[{ on := 18, ground := Ground.data }, { on := 17, ground := Ground.data }, { on := 16, ground := Ground.guard }], guard := some (16, false) }) (v := ?_) rfl (by kernel_rfl) (by kernel_rfl) (by kernel_rfl) (fun _ _ _ h => h) (Or.inl ⟨by rfl, ?_⟩) (by first | exact hHeld | assumption) ?_
            rotate_left 1
            · intro w hSw; (try dsimp only at hSw); go_simp; try (with_reducible rfl)
            try simp only [Act.put, List.setIfInBounds_toArray, List.set_cons_zero, List.set_cons_succ]
            refine wpAnyH_take (i := 20) (oi := { dst := some 110, op := Op.fieldAddr 33 (Operand.tmp 109) 1, type := 0, pos := "law.go:106", after := #[{ on := 19, ground := Ground.data }, { on := 16, ground := Ground.guard }], guard := some (16, false) }) (v := ?_) rfl (by kernel_rfl) (by kernel_rfl) (by kernel_rfl) (fun _ _ _ h => h) (Or.inl ⟨by rfl, ?_⟩) (by first | exact hHeld | assumption) ?_
            rotate_left 1
            · intro w hSw; (try dsimp only at hSw); go_simp; try (with_reducible rfl)
            try simp only [Act.put, List.setIfInBounds_toArray, List.set_cons_zero, List.set_cons_succ]
            refine wpAnyH_take (i := 21) (oi := { dst := some 111, op := Op.load 5 (Operand.tmp 110), type := 5, pos := "law.go:106", after := #[{ on := 20, ground := Ground.data }, { on := 16, ground := Ground.guard }], guard := some (16, false) }) rfl (by kernel_rfl) (by kernel_rfl) (by kernel_rfl) (fun _ _ _ h => h) (u8_yield (by kernel_rfl) _ rfl (g := gs) (o := 77 + j * 8 + 7) (v := bV (S.s j).p) rfl (fun u hu => (slot_cells (hu.get (g := gs) (cs := stC S) (t := 36) (by simp)) hj64.out).2.2.2.2.2.2.2)) (by exact hHeld) ?_
            try simp only [Act.put, List.setIfInBounds_toArray, List.set_cons_zero, List.set_cons_succ]
            refine wpAnyH_take (i := 22) (oi := { dst := some 112, op := Op.move (Operand.tmp 11), type := 3, pos := "law.go:106", after := #[{ on := 16, ground := Ground.guard }], guard := some (16, false) }) (v := ?_) rfl (by kernel_rfl) (by kernel_rfl) (by kernel_rfl) (fun _ _ _ h => h) (Or.inl ⟨by rfl, ?_⟩) (by first | exact hHeld | assumption) ?_
            rotate_left 1
            · intro w hSw; (try dsimp only at hSw); go_simp; try (with_reducible rfl)
            try simp only [Act.put, List.setIfInBounds_toArray, List.set_cons_zero, List.set_cons_succ]
            refine wpAnyH_take (i := 23) (oi := { dst := some 113, op := Op.fieldAddr 36 (Operand.tmp 7) 1, type := 0, pos := "law.go:106", after := #[{ on := 16, ground := Ground.guard }], guard := some (16, false) }) (v := ?_) rfl (by kernel_rfl) (by kernel_rfl) (by kernel_rfl) (fun _ _ _ h => h) (Or.inl ⟨by rfl, ?_⟩) (by first | exact hHeld | assumption) ?_
            rotate_left 1
            · intro w hSw; (try dsimp only at hSw); go_simp; try (with_reducible rfl)
            try simp only [Act.put, List.setIfInBounds_toArray, List.set_cons_zero, List.set_cons_succ]
            refine wpAnyH_take (i := 24) (oi := { dst := some 114, op := Op.indexAddr 34 (Operand.tmp 113) (Operand.tmp 112), type := 0, pos := "law.go:106", after := #[{ on := 23, ground := Ground.data }, { on := 22, ground := Ground.data }, { on := 16, ground := Ground.guard }], guard := some (16, false) }) (v := ?_) rfl (by kernel_rfl) (by kernel_rfl) (by kernel_rfl) (fun _ _ _ h => h) (Or.inl ⟨by rfl, ?_⟩) (by first | exact hHeld | assumption) ?_
            rotate_left 1
            · intro w hSw; (try dsimp only at hSw); go_simp; try (with_reducible rfl)
            try simp only [Act.put, List.setIfInBounds_toArray, List.set_cons_zero, List.set_cons_succ]
            refine wpAnyH_take (i := 25) (oi := { dst := some 115, op := Op.fieldAddr 33 (Operand.tmp 114) 1, type := 0, pos := "law.go:106", after := #[{ on := 24, ground := Ground.data }, { on := 16, ground := Ground.guard }], guard := some (16, false) }) (v := ?_) rfl (by kernel_rfl) (by kernel_rfl) (by kernel_rfl) (fun _ _ _ h => h) (Or.inl ⟨by rfl, ?_⟩) (by first | exact hHeld | assumption) ?_
            rotate_left 1
            · intro w hSw; (try dsimp only at hSw); go_simp; try (with_reducible rfl)
            try simp only [Act.put, List.setIfInBounds_toArray, List.set_cons_zero, List.set_cons_succ]
            refine wpAnyH_take (i := 26) (oi := { dst := some 116, op := Op.load 5 (Operand.tmp 115), type := 5, pos := "law.go:106", after := #[{ on := 25, ground := Ground.data }, { on := 16, ground := Ground.guard }], guard := some (16, false) }) rfl (by kernel_rfl) (by kernel_rfl) (by kernel_rfl) (fun _ _ _ h => h) (u8_yield (by kernel_rfl) _ rfl (g := gt) (o := 77 + j * 8 + 7) (v := bV (Y.s j).p) rfl (fun u hu => (slot_cells (hu.get (g := gt) (cs := stC Y) (t := 36) (by simp)) hj64.out).2.2.2.2.2.2.2)) (by exact hHeld) ?_
            try simp only [Act.put, List.setIfInBounds_toArray, List.set_cons_zero, List.set_cons_succ]
            refine wpAnyH_take (i := 27) (oi := { dst := some 117, op := Op.binOp BinOp.andNot 5 (Operand.tmp 111) (Operand.tmp 116) 5, type := 5, pos := "law.go:106", after := #[{ on := 21, ground := Ground.data }, { on := 26, ground := Ground.data }, { on := 16, ground := Ground.guard }], guard := some (16, false) }) (v := ?_) rfl (by kernel_rfl) (by kernel_rfl) (by kernel_rfl) (fun _ _ _ h => h) (Or.inl ⟨by rfl, ?_⟩) (by first | exact hHeld | assumption) ?_
            rotate_left 1
            · intro w hSw; (try dsimp only at hSw); go_simp; try (with_reducible rfl)
            try simp only [Act.put, List.setIfInBounds_toArray, List.set_cons_zero, List.set_cons_succ]
            refine wpAnyH_take (i := 28) (oi := { dst := some 118, op := Op.binOp BinOp.neq 5 (Operand.tmp 117) (Operand.const (Value.int IntKind.u8 0)) 5, type := 4, pos := "law.go:106", after := #[{ on := 27, ground := Ground.data }, { on := 16, ground := Ground.guard }], guard := some (16, false) }) (v := ?_) rfl (by kernel_rfl) (by kernel_rfl) (by kernel_rfl) (fun _ _ _ h => h) (Or.inl ⟨by rfl, ?_⟩) (by first | exact hHeld | assumption) ?_
            rotate_left 1
            · intro w hSw; (try dsimp only at hSw); go_simp; try (with_reducible rfl)
            try simp only [Act.put, List.setIfInBounds_toArray, List.set_cons_zero, List.set_cons_succ]
            refine wpAnyH_take (i := 29) (oi := { dst := some 119, op := Op.pick (Operand.tmp 106) (Operand.const (Value.bool true)) (Operand.tmp 118), type := 4, pos := "law.go:106", after := #[{ on := 16, ground := Ground.data }, { on := 28, ground := Ground.data }], guard := none }) (v := ?_) rfl (by kernel_rfl) (by kernel_rfl) (by kernel_rfl) (fun _ _ _ h => h) (Or.inl ⟨by rfl, ?_⟩) (by first | exact hHeld | assumption) ?_
            rotate_left 1
            · intro w hSw; (try dsimp only at hSw); go_simp; try (with_reducible rfl)
            try simp only [Act.put, List.setIfInBounds_toArray, List.set_cons_zero, List.set_cons_succ]
            refine wpAnyH_done (by kernel_rfl) ?_ _
            go_wp2_with fail
            go_round
            case rel => exact ⟨j + 1, by go_num, by omega, XD⟩
            case measure => simp [intOf]; omega
          · have n1 : ((j : Int) != (q : Int)) = true := by rw [bne_iff_ne]; omega
            have OT : Hid (Y.s j = S.s j) := Lib.hid (OTH.out j hjq)
            have AN : bits .andNot .u8 ((S.s j).p.toNat : Int) ((Y.s j).p.toNat : Int) = 0 := by rw [OT.out]; exact and_not_self _
            replace hjq := Lib.hid hjq
            go_upto_region 12 with fail
            have XD := Lib.hid (V1.out.after (Below.drew (Below.refl _ _)))
            refine wp_region_held_drew (S := (fun u => Blks w [(gv, vCells V, 30), (gt, stC Y, 36), (gs, stC S, 36), (w.heap.size, saC a, 43)] u)) (by kernel_rfl) XD.out (fun hHeld => ?_)
            generalize wr.drew = wd at *
            refine wpAnyH_take (i := 0) (oi := { dst := some 90, op := Op.move (Operand.tmp 11), type := 3, pos := "law.go:106", after := #[], guard := none }) (v := ?_) rfl (by kernel_rfl) (by kernel_rfl) (by kernel_rfl) (fun _ _ _ h => h) (Or.inl ⟨by rfl, ?_⟩) (by first | exact hHeld | assumption) ?_
            rotate_left 1
            · intro w hSw; (try dsimp only at hSw); go_simp; try (with_reducible rfl)
            try simp only [Act.put, List.setIfInBounds_toArray, List.set_cons_zero, List.set_cons_succ]
            refine wpAnyH_take (i := 1) (oi := { dst := some 91, op := Op.fieldAddr 43 (Operand.tmp 3) 1, type := 0, pos := "law.go:106", after := #[], guard := none }) (v := ?_) rfl (by kernel_rfl) (by kernel_rfl) (by kernel_rfl) (fun _ _ _ h => h) (Or.inl ⟨by rfl, ?_⟩) (by first | exact hHeld | assumption) ?_
            rotate_left 1
            · intro w hSw; (try dsimp only at hSw); go_simp; try (with_reducible rfl)
            try simp only [Act.put, List.setIfInBounds_toArray, List.set_cons_zero, List.set_cons_succ]
            refine wpAnyH_take (i := 2) (oi := { dst := some 92, op := Op.load 3 (Operand.tmp 91), type := 3, pos := "law.go:106", after := #[{ on := 1, ground := Ground.data }], guard := none }) rfl (by kernel_rfl) (by kernel_rfl) (by kernel_rfl) (fun _ _ _ h => h) (int_yield (by kernel_rfl) _ rfl (g := w.heap.size) (o := 1) (v := .int .i64 a.o) rfl (fun u hu => (saB_cells (hu.get (g := w.heap.size) (cs := saC a) (t := 43) (by simp))).2.1)) (by exact hHeld) ?_
            try simp only [Act.put, List.setIfInBounds_toArray, List.set_cons_zero, List.set_cons_succ]
            refine wpAnyH_take (i := 3) (oi := { dst := some 93, op := Op.binOp BinOp.quo 3 (Operand.tmp 92) (Operand.const (Value.int IntKind.i64 8)) 3, type := 3, pos := "law.go:106", after := #[{ on := 2, ground := Ground.data }], guard := none }) (v := ?_) rfl (by kernel_rfl) (by kernel_rfl) (by kernel_rfl) (fun _ _ _ h => h) (Or.inl ⟨by rfl, ?_⟩) (by first | exact hHeld | assumption) ?_
            rotate_left 1
            · intro w hSw; (try dsimp only at hSw); go_simp; try (with_reducible rfl)
            try simp only [Act.put, List.setIfInBounds_toArray, List.set_cons_zero, List.set_cons_succ]
            refine wpAnyH_take (i := 4) (oi := { dst := some 94, op := Op.binOp BinOp.neq 3 (Operand.tmp 90) (Operand.tmp 93) 3, type := 4, pos := "law.go:106", after := #[{ on := 0, ground := Ground.data }, { on := 3, ground := Ground.data }], guard := none }) (v := ?_) rfl (by kernel_rfl) (by kernel_rfl) (by kernel_rfl) (fun _ _ _ h => h) (Or.inl ⟨by rfl, ?_⟩) (by first | exact hHeld | assumption) ?_
            rotate_left 1
            · intro w hSw; (try dsimp only at hSw); go_simp; try (with_reducible rfl)
            try simp only [Act.put, List.setIfInBounds_toArray, List.set_cons_zero, List.set_cons_succ]
            refine wpAnyH_take (i := 5) (oi := { dst := some 95, op := Op.move (Operand.tmp 94), type := 4, pos := "law.go:106", after := #[{ on := 4, ground := Ground.data }], guard := none }) (v := ?_) rfl (by kernel_rfl) (by kernel_rfl) (by kernel_rfl) (fun _ _ _ h => h) (Or.inl ⟨by rfl, ?_⟩) (by first | exact hHeld | assumption) ?_
            rotate_left 1
            · intro w hSw; (try dsimp only at hSw); go_simp; try (with_reducible rfl)
            try simp only [Act.put, List.setIfInBounds_toArray, List.set_cons_zero, List.set_cons_succ]
            refine wpAnyH_take (i := 6) (oi := { dst := some 96, op := Op.move (Operand.tmp 11), type := 3, pos := "law.go:106", after := #[{ on := 5, ground := Ground.guard }], guard := some (5, true) }) (v := ?_) rfl (by kernel_rfl) (by kernel_rfl) (by kernel_rfl) (fun _ _ _ h => h) (Or.inl ⟨by rfl, ?_⟩) (by first | exact hHeld | assumption) ?_
            rotate_left 1
            · intro w hSw; (try dsimp only at hSw); go_simp; try (with_reducible rfl)
            try simp only [Act.put, List.setIfInBounds_toArray, List.set_cons_zero, List.set_cons_succ]
            refine wpAnyH_take (i := 7) (oi := { dst := some 97, op := Op.fieldAddr 36 (Operand.tmp 7) 1, type := 0, pos := "law.go:106", after := #[{ on := 5, ground := Ground.guard }], guard := some (5, true) }) (v := ?_) rfl (by kernel_rfl) (by kernel_rfl) (by kernel_rfl) (fun _ _ _ h => h) (Or.inl ⟨by rfl, ?_⟩) (by first | exact hHeld | assumption) ?_
            rotate_left 1
            · intro w hSw; (try dsimp only at hSw); go_simp; try (with_reducible rfl)
            try simp only [Act.put, List.setIfInBounds_toArray, List.set_cons_zero, List.set_cons_succ]
            refine wpAnyH_take (i := 8) (oi := { dst := some 98, op := Op.indexAddr 34 (Operand.tmp 97) (Operand.tmp 96), type := 0, pos := "law.go:106", after := #[{ on := 7, ground := Ground.data }, { on := 6, ground := Ground.data }, { on := 5, ground := Ground.guard }], guard := some (5, true) }) (v := ?_) rfl (by kernel_rfl) (by kernel_rfl) (by kernel_rfl) (fun _ _ _ h => h) (Or.inl ⟨by rfl, ?_⟩) (by first | exact hHeld | assumption) ?_
            rotate_left 1
            · intro w hSw; (try dsimp only at hSw); go_simp; try (with_reducible rfl)
            try simp only [Act.put, List.setIfInBounds_toArray, List.set_cons_zero, List.set_cons_succ]
            refine wpAnyH_take (i := 9) (oi := { dst := some 99, op := Op.load 33 (Operand.tmp 98), type := 33, pos := "law.go:106", after := #[{ on := 8, ground := Ground.data }, { on := 5, ground := Ground.guard }], guard := some (5, true) }) rfl (by kernel_rfl) (by kernel_rfl) (by kernel_rfl) (fun _ _ _ h => h) (sl_yield (by kernel_rfl) _ rfl (g := gt) (o := 77 + j * 8) (v := S.s j) rfl (fun u hu => by have q := st_slot (hu.get (g := gt) (cs := stC Y) (t := 36) (by simp)) hj64.out hj8.out; rw [OT.out] at q; exact q)) (by exact hHeld) ?_
            try simp only [Act.put, List.setIfInBounds_toArray, List.set_cons_zero, List.set_cons_succ]
            refine wpAnyH_take (i := 10) (oi := { dst := some 100, op := Op.move (Operand.tmp 11), type := 3, pos := "law.go:106", after := #[{ on := 5, ground := Ground.guard }], guard := some (5, true) }) (v := ?_) rfl (by kernel_rfl) (by kernel_rfl) (by kernel_rfl) (fun _ _ _ h => h) (Or.inl ⟨by rfl, ?_⟩) (by first | exact hHeld | assumption) ?_
            rotate_left 1
            · intro w hSw; (try dsimp only at hSw); go_simp; try (with_reducible rfl)
            try simp only [Act.put, List.setIfInBounds_toArray, List.set_cons_zero, List.set_cons_succ]
            refine wpAnyH_take (i := 11) (oi := { dst := some 101, op := Op.fieldAddr 36 (Operand.tmp 6) 1, type := 0, pos := "law.go:106", after := #[{ on := 5, ground := Ground.guard }], guard := some (5, true) }) (v := ?_) rfl (by kernel_rfl) (by kernel_rfl) (by kernel_rfl) (fun _ _ _ h => h) (Or.inl ⟨by rfl, ?_⟩) (by first | exact hHeld | assumption) ?_
            rotate_left 1
            · intro w hSw; (try dsimp only at hSw); go_simp; try (with_reducible rfl)
            try simp only [Act.put, List.setIfInBounds_toArray, List.set_cons_zero, List.set_cons_succ]
            refine wpAnyH_take (i := 12) (oi := { dst := some 102, op := Op.indexAddr 34 (Operand.tmp 101) (Operand.tmp 100), type := 0, pos := "law.go:106", after := #[{ on := 11, ground := Ground.data }, { on := 10, ground := Ground.data }, { on := 5, ground := Ground.guard }], guard := some (5, true) }) (v := ?_) rfl (by kernel_rfl) (by kernel_rfl) (by kernel_rfl) (fun _ _ _ h => h) (Or.inl ⟨by rfl, ?_⟩) (by first | exact hHeld | assumption) ?_
            rotate_left 1
            · intro w hSw; (try dsimp only at hSw); go_simp; try (with_reducible rfl)
            try simp only [Act.put, List.setIfInBounds_toArray, List.set_cons_zero, List.set_cons_succ]
            refine wpAnyH_take (i := 13) (oi := { dst := some 103, op := Op.load 33 (Operand.tmp 102), type := 33, pos := "law.go:106", after := #[{ on := 12, ground := Ground.data }, { on := 5, ground := Ground.guard }], guard := some (5, true) }) rfl (by kernel_rfl) (by kernel_rfl) (by kernel_rfl) (fun _ _ _ h => h) (sl_yield (by kernel_rfl) _ rfl (g := gs) (o := 77 + j * 8) (v := S.s j) rfl (fun u hu => st_slot (hu.get (g := gs) (cs := stC S) (t := 36) (by simp)) hj64.out hj8.out)) (by exact hHeld) ?_
            try simp only [Act.put, List.setIfInBounds_toArray, List.set_cons_zero, List.set_cons_succ]
            refine wpAnyH_take (i := 14) (oi := { dst := some 104, op := Op.binOp BinOp.neq 33 (Operand.tmp 99) (Operand.tmp 103) 33, type := 4, pos := "law.go:106", after := #[{ on := 9, ground := Ground.data }, { on := 13, ground := Ground.data }, { on := 5, ground := Ground.guard }], guard := some (5, true) }) rfl (by kernel_rfl) (by kernel_rfl) (by kernel_rfl) (fun _ _ _ h => h) (yields_value (by kernel_rfl) (x_slot_ne (X := S.s j) rfl rfl rfl)) (by exact hHeld) ?_
            try simp only [Act.put, List.setIfInBounds_toArray, List.set_cons_zero, List.set_cons_succ]
            refine wpAnyH_take (i := 15) (oi := { dst := some 105, op := Op.pick (Operand.tmp 95) (Operand.tmp 104) (Operand.const (Value.bool false)), type := 4, pos := "law.go:106", after := #[{ on := 5, ground := Ground.data }, { on := 14, ground := Ground.data }], guard := none }) (v := ?_) rfl (by kernel_rfl) (by kernel_rfl) (by kernel_rfl) (fun _ _ _ h => h) (Or.inl ⟨by rfl, ?_⟩) (by first | exact hHeld | assumption) ?_
            rotate_left 1
            · intro w hSw; (try dsimp only at hSw); go_simp; try (with_reducible rfl)
            try simp only [Act.put, List.setIfInBounds_toArray, List.set_cons_zero, List.set_cons_succ]
            refine wpAnyH_take (i := 16) (oi := { dst := some 106, op := Op.move (Operand.tmp 105), type := 4, pos := "law.go:106", after := #[{ on := 15, ground := Ground.data }, { on := 5, ground := Ground.chain }], guard := none }) (v := ?_) rfl (by kernel_rfl) (by kernel_rfl) (by kernel_rfl) (fun _ _ _ h => h) (Or.inl ⟨by rfl, ?_⟩) (by first | exact hHeld | assumption) ?_
            rotate_left 1
            · intro w hSw; (try dsimp only at hSw); go_simp; try (with_reducible rfl)
            try simp only [Act.put, List.setIfInBounds_toArray, List.set_cons_zero, List.set_cons_succ]
            refine wpAnyH_take (i := 17) (oi := { dst := some 107, op := Op.move (Operand.tmp 11), type := 3, pos := "law.go:106", after := #[{ on := 16, ground := Ground.guard }], guard := some (16, false) }) (v := ?_) rfl (by kernel_rfl) (by kernel_rfl) (by kernel_rfl) (fun _ _ _ h => h) (Or.inl ⟨by rfl, ?_⟩) (by first | exact hHeld | assumption) ?_
            rotate_left 1
            · intro w hSw; (try dsimp only at hSw); go_simp; try (with_reducible rfl)
            try simp only [Act.put, List.setIfInBounds_toArray, List.set_cons_zero, List.set_cons_succ]
            refine wpAnyH_take (i := 18) (oi := { dst := some 108, op := Op.fieldAddr 36 (Operand.tmp 6) 1, type := 0, pos := "law.go:106", after := #[{ on := 16, ground := Ground.guard }], guard := some (16, false) }) (v := ?_) rfl (by kernel_rfl) (by kernel_rfl) (by kernel_rfl) (fun _ _ _ h => h) (Or.inl ⟨by rfl, ?_⟩) (by first | exact hHeld | assumption) ?_
            rotate_left 1
            · intro w hSw; (try dsimp only at hSw); go_simp; try (with_reducible rfl)
            try simp only [Act.put, List.setIfInBounds_toArray, List.set_cons_zero, List.set_cons_succ]
            refine wpAnyH_take (i := 19) (oi := { dst := some 109, op := Op.indexAddr 34 (Operand.tmp 108) (Operand.tmp 107), type := 0, pos := "law.go:106", after := #[{ on := 18, ground := Ground.data }, { on := 17, ground := Ground.data }, { on := 16, ground := Ground.guard }], guard := some (16, false) }) (v := ?_) rfl (by kernel_rfl) (by kernel_rfl) (by kernel_rfl) (fun _ _ _ h => h) (Or.inl ⟨by rfl, ?_⟩) (by first | exact hHeld | assumption) ?_
            rotate_left 1
            · intro w hSw; (try dsimp only at hSw); go_simp; try (with_reducible rfl)
            try simp only [Act.put, List.setIfInBounds_toArray, List.set_cons_zero, List.set_cons_succ]
            refine wpAnyH_take (i := 20) (oi := { dst := some 110, op := Op.fieldAddr 33 (Operand.tmp 109) 1, type := 0, pos := "law.go:106", after := #[{ on := 19, ground := Ground.data }, { on := 16, ground := Ground.guard }], guard := some (16, false) }) (v := ?_) rfl (by kernel_rfl) (by kernel_rfl) (by kernel_rfl) (fun _ _ _ h => h) (Or.inl ⟨by rfl, ?_⟩) (by first | exact hHeld | assumption) ?_
            rotate_left 1
            · intro w hSw; (try dsimp only at hSw); go_simp; try (with_reducible rfl)
            try simp only [Act.put, List.setIfInBounds_toArray, List.set_cons_zero, List.set_cons_succ]
            refine wpAnyH_take (i := 21) (oi := { dst := some 111, op := Op.load 5 (Operand.tmp 110), type := 5, pos := "law.go:106", after := #[{ on := 20, ground := Ground.data }, { on := 16, ground := Ground.guard }], guard := some (16, false) }) rfl (by kernel_rfl) (by kernel_rfl) (by kernel_rfl) (fun _ _ _ h => h) (u8_yield (by kernel_rfl) _ rfl (g := gs) (o := 77 + j * 8 + 7) (v := bV (S.s j).p) rfl (fun u hu => (slot_cells (hu.get (g := gs) (cs := stC S) (t := 36) (by simp)) hj64.out).2.2.2.2.2.2.2)) (by exact hHeld) ?_
            try simp only [Act.put, List.setIfInBounds_toArray, List.set_cons_zero, List.set_cons_succ]
            refine wpAnyH_take (i := 22) (oi := { dst := some 112, op := Op.move (Operand.tmp 11), type := 3, pos := "law.go:106", after := #[{ on := 16, ground := Ground.guard }], guard := some (16, false) }) (v := ?_) rfl (by kernel_rfl) (by kernel_rfl) (by kernel_rfl) (fun _ _ _ h => h) (Or.inl ⟨by rfl, ?_⟩) (by first | exact hHeld | assumption) ?_
            rotate_left 1
            · intro w hSw; (try dsimp only at hSw); go_simp; try (with_reducible rfl)
            try simp only [Act.put, List.setIfInBounds_toArray, List.set_cons_zero, List.set_cons_succ]
            refine wpAnyH_take (i := 23) (oi := { dst := some 113, op := Op.fieldAddr 36 (Operand.tmp 7) 1, type := 0, pos := "law.go:106", after := #[{ on := 16, ground := Ground.guard }], guard := some (16, false) }) (v := ?_) rfl (by kernel_rfl) (by kernel_rfl) (by kernel_rfl) (fun _ _ _ h => h) (Or.inl ⟨by rfl, ?_⟩) (by first | exact hHeld | assumption) ?_
            rotate_left 1
            · intro w hSw; (try dsimp only at hSw); go_simp; try (with_reducible rfl)
            try simp only [Act.put, List.setIfInBounds_toArray, List.set_cons_zero, List.set_cons_succ]
            refine wpAnyH_take (i := 24) (oi := { dst := some 114, op := Op.indexAddr 34 (Operand.tmp 113) (Operand.tmp 112), type := 0, pos := "law.go:106", after := #[{ on := 23, ground := Ground.data }, { on := 22, ground := Ground.data }, { on := 16, ground := Ground.guard }], guard := some (16, false) }) (v := ?_) rfl (by kernel_rfl) (by kernel_rfl) (by kernel_rfl) (fun _ _ _ h => h) (Or.inl ⟨by rfl, ?_⟩) (by first | exact hHeld | assumption) ?_
            rotate_left 1
            · intro w hSw; (try dsimp only at hSw); go_simp; try (with_reducible rfl)
            try simp only [Act.put, List.setIfInBounds_toArray, List.set_cons_zero, List.set_cons_succ]
            refine wpAnyH_take (i := 25) (oi := { dst := some 115, op := Op.fieldAddr 33 (Operand.tmp 114) 1, type := 0, pos := "law.go:106", after := #[{ on := 24, ground := Ground.data }, { on := 16, ground := Ground.guard }], guard := some (16, false) }) (v := ?_) rfl (by kernel_rfl) (by kernel_rfl) (by kernel_rfl) (fun _ _ _ h => h) (Or.inl ⟨by rfl, ?_⟩) (by first | exact hHeld | assumption) ?_
            rotate_left 1
            · intro w hSw; (try dsimp only at hSw); go_simp; try (with_reducible rfl)
            try simp only [Act.put, List.setIfInBounds_toArray, List.set_cons_zero, List.set_cons_succ]
            refine wpAnyH_take (i := 26) (oi := { dst := some 116, op := Op.load 5 (Operand.tmp 115), type := 5, pos := "law.go:106", after := #[{ on := 25, ground := Ground.data }, { on := 16, ground := Ground.guard }], guard := some (16, false) }) rfl (by kernel_rfl) (by kernel_rfl) (by kernel_rfl) (fun _ _ _ h => h) (u8_yield (by kernel_rfl) _ rfl (g := gt) (o := 77 + j * 8 + 7) (v := bV (Y.s j).p) rfl (fun u hu => (slot_cells (hu.get (g := gt) (cs := stC Y) (t := 36) (by simp)) hj64.out).2.2.2.2.2.2.2)) (by exact hHeld) ?_
            try simp only [Act.put, List.setIfInBounds_toArray, List.set_cons_zero, List.set_cons_succ]
            refine wpAnyH_take (i := 27) (oi := { dst := some 117, op := Op.binOp BinOp.andNot 5 (Operand.tmp 111) (Operand.tmp 116) 5, type := 5, pos := "law.go:106", after := #[{ on := 21, ground := Ground.data }, { on := 26, ground := Ground.data }, { on := 16, ground := Ground.guard }], guard := some (16, false) }) (v := ?_) rfl (by kernel_rfl) (by kernel_rfl) (by kernel_rfl) (fun _ _ _ h => h) (Or.inl ⟨by rfl, ?_⟩) (by first | exact hHeld | assumption) ?_
            rotate_left 1
            · intro w hSw; (try dsimp only at hSw); go_simp; try (with_reducible rfl)
            try simp only [Act.put, List.setIfInBounds_toArray, List.set_cons_zero, List.set_cons_succ]
            refine wpAnyH_take (i := 28) (oi := { dst := some 118, op := Op.binOp BinOp.neq 5 (Operand.tmp 117) (Operand.const (Value.int IntKind.u8 0)) 5, type := 4, pos := "law.go:106", after := #[{ on := 27, ground := Ground.data }, { on := 16, ground := Ground.guard }], guard := some (16, false) }) (v := ?_) rfl (by kernel_rfl) (by kernel_rfl) (by kernel_rfl) (fun _ _ _ h => h) (Or.inl ⟨by rfl, ?_⟩) (by first | exact hHeld | assumption) ?_
            rotate_left 1
            · intro w hSw; (try dsimp only at hSw); go_simp; try (with_reducible rfl)
            try simp only [Act.put, List.setIfInBounds_toArray, List.set_cons_zero, List.set_cons_succ]
            refine wpAnyH_take (i := 29) (oi := { dst := some 119, op := Op.pick (Operand.tmp 106) (Operand.const (Value.bool true)) (Operand.tmp 118), type := 4, pos := "law.go:106", after := #[{ on := 16, ground := Ground.data }, { on := 28, ground := Ground.data }], guard := none }) (v := ?_) rfl (by kernel_rfl) (by kernel_rfl) (by kernel_rfl) (fun _ _ _ h => h) (Or.inl ⟨by rfl, ?_⟩) (by first | exact hHeld | assumption) ?_
            rotate_left 1
            · intro w hSw; (try dsimp only at hSw); go_simp; try (with_reducible rfl)
            try simp only [Act.put, List.setIfInBounds_toArray, List.set_cons_zero, List.set_cons_succ]
            refine wpAnyH_done (by kernel_rfl) ?_ _
            go_wp2_with fail
            go_round
            case rel => exact ⟨j + 1, by go_num, by omega, XD⟩
            case measure => simp [intOf]; omega
        · have hj2 : j = 64 := by omega
          subst hj2
          go_wp2_with fail
          go_ret
          exact ⟨rfl, V1.out.1⟩
  · obtain ⟨Y, hY⟩ : ∃ Y, Y = stZ := ⟨_, rfl⟩
    have e2 : putY S a.o a.z a.v = Y := by unfold putY; rw [if_neg hE, hY]
    rw [e2] at PU
    replace hY := Lib.hid hY
    generalize putE S a.o a.z a.v = E at *
    have hE' : (E != 0) = true := by simpa using hE
    clear hE e2 SI
    go_enter Try.func6, Try.ntmps6
    go_wp2_with fail
    refine (SH.out _).mono ?_; rintro e w1 ⟨rfl, b1⟩
    have X := Lib.hid (((Blks.start w).new (saC a) 43).after b1)
    clear b1
    go_wp2_with fail
    refine (MD.out _ X.out.1).mono ?_; rintro e w2 ⟨rfl, b2⟩
    replace X := Lib.hid (X.out.after b2)
    clear b2 MD
    have hgs := Lib.hid (Blk.lt (X.out.get (g := w.heap.size) (cs := saC a) (t := 43) (by simp)))
    replace X := Lib.hid ((X.out.new Try.zeroCells36 36).row (by have := hgs.out; omega) (by have := hgs.out; simp; omega) (stC S))
    have N2 : Hid (stB w2.heap.size stZ (w2.alloc (.cells Try.zeroCells36 36))) := Lib.hid (stB.newz w2 rfl)
    go_upto_region 3 with (refine st_store rfl _ _ rfl rfl rfl N2.out ?_)
    clear N2
    generalize (w2.alloc (.cells Try.zeroCells36 36)).setRow w2.heap.size (stC S) = wx at *
    generalize w2.heap.size = gs at *
    have LS : Hid (stB gs S wx) := Lib.hid (X.out.get (g := gs) (cs := stC S) (t := 36) (by simp))
    obtain ⟨c0, c1, c2, c3, c4, c5, c6, c7, c8, c9⟩ := saB_cells (X.out.get (g := w.heap.size) (cs := saC a) (t := 43) (by simp))
    go_wp2_with (first | (refine st_load rfl _ rfl rfl LS.out ?_) | fail)
    refine (PU.out _).mono ?_; rintro e w4 ⟨rfl, b4⟩
    replace X := Lib.hid (X.out.after b4)
    clear b4 LS PU c0 c1 c2 c3 c4 c5 c6 c7 c8 c9
    have hgt := Lib.hid (Blk.lt (X.out.get (g := gs) (cs := stC S) (t := 36) (by simp)))
    replace X := Lib.hid ((X.out.new Try.zeroCells36 36).row (by have := hgs.out; have := hgt.out; omega) (by have := hgs.out; have := hgt.out; simp; omega) (stC Y))
    have N2 : Hid (stB w4.heap.size stZ (w4.alloc (.cells Try.zeroCells36 36))) := Lib.hid (stB.newz w4 rfl)
    go_upto_region 4 with (refine st_store rfl _ _ rfl rfl rfl N2.out ?_)
    clear N2
    generalize (w4.alloc (.cells Try.zeroCells36 36)).setRow w4.heap.size (stC Y) = wx at *
    generalize w4.heap.size = gt at *
    have LT : Hid (stB gt stZ wx) := Lib.hid (by rw [← hY.out]; exact (X.out.get (g := gt) (cs := stC Y) (t := 36) (by simp)))
    go_wp2_with (first | (refine st_load_w (by kernel_rfl) _ rfl rfl LT.out ?_) | (refine wpList_value_w (by kernel_rfl) (x_st_eq (X := stZ) rfl rfl (by show Value.agg Try.zeroCells36 = stV stZ; rw [stZ_cells])) ?_) | fail)
    go_ret
    exact ⟨rfl, X.out.1⟩

end Go.Proofs.Ytdgckjkdimnpoaa

namespace Go.Proofs.Ytdgckjkdimnpoaa
open Go.ChangeShapes Go.WideShapes Go.ChangeAt Go.RowKit
set_option linter.unusedVariables false

set_option maxRecDepth 100000 in
theorem sback_lifted (os : Os) (started : os.Started) (H : Type) (enc : TypeId × Value → H) :
    ReturnsInHanded {} Try.checked os 6 .any (Rows.stateBackSpec.pre6 enc Try.prog Try.f6 Rows.stateBackRow.domain false) (Rows.stateBackSpec.post enc Try.prog Try.f6 false true false false) := by
  refine law_lifted (C := Try.checked) own_none started (by kernel_rfl) Try.func6
    (ChangeSpec.witness6 (enc := enc) (C := Try.checked) false ⟨#[], #[.slice none 0 0, .agg #[.int .u8 0, .int .i64 0, .int .i64 0, .int .u8 0, .int .u64 0, .int .u64 0, .int .u64 0, .int .u64 0, .int .i64 0, .int .i64 0]], []⟩ 8 (by kernel_rfl) (by kernel_rfl) (by kernel_rfl) (by kernel_rfl))
    laid_out rfl rfl Try.underlying4 (by kernel_rfl) (fun ds hd => by match ds, hd with | [d1, d2], _ => rfl) ?_
  intro W base args ds p hval hA
  rw [Try.params6] at hval hA
  obtain ⟨v0, v1, d0, d1, p0, p1, rfl, rfl, rfl, h0, h1⟩ := trodAll_two hA
  obtain ⟨A, c, l, rfl, wl, vl, hc, hm⟩ := open_sacts (hval 0 _ _ rfl rfl) h0
  obtain ⟨a, rfl, wa⟩ := open_sact (hval 1 _ _ rfl rfl) h1
  exact sback_walk A c l a W wl vl hc hm wa

theorem sback_holds : Rows.StateBackSaid :=
  OpenClaim.holds_of_wide 6 Try.f6 rfl rfl rfl rfl rfl rfl rfl ⟨rfl, rfl, rfl, rfl, rfl⟩ rfl rfl rfl rfl rfl (by kernel_rfl) Try.func6 (by kernel_rfl)
    (of_decide_eq_true (by kernel_rfl)) (by unfold Func.isWrapper; first | (rw [if_pos (by decide +kernel)]; kernel_rfl) | (rw [if_neg (by decide +kernel)]; exact ⟨rfl, rfl⟩))
    (fun os started H enc _ => sback_lifted os started H enc)

#print axioms sback_holds
end Go.Proofs.Ytdgckjkdimnpoaa
