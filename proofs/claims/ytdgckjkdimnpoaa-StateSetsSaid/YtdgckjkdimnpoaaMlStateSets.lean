/-
  The statement StateSets: for every row of acts, register and Val, the law returns true, and its arguments read as they did.
  Conditions: none beyond the row's own.
-/
import Derived.Deep.RegionHeld
import Derived.Test.YtdgckjkdimnpoaaMl12

namespace Go.Proofs.Ytdgckjkdimnpoaa
open Go Go.RowKit
set_option maxRecDepth 100000
set_option linter.unusedVariables false
set_option linter.unusedSimpArgs false

set_option maxHeartbeats 8000000 in
theorem ssets_walk (A : Option Addr) (c : Nat) (l : List Sa) (i : Int) (v : Vl) (w : World) (hl : SaS w A l) (hv : ∀ k, saIn (saAt l k)) (hc : l.length ≤ c) (hm : c ≤ maxLen) (hi : -9223372036854775808 ≤ i ∧ i ≤ 9223372036854775807) (hvv : vIn v) : Calls Try.prog 9 #[.slice A l.length c, .int .i64 i, vV v] w (Gives (.bool true) w) := by
  have SH := Lib.hid l13_shown
  have MD := Lib.hid fun u hb => l13_made A c l w u hb hl hv hc hm
  have SE := Lib.hid fun w => sp_set (saM l) i v w (saM_in hv) hvv
  have SR := Lib.hid (saM_right l)
  have SI := Lib.hid (saM_in hv)
  have VR := Lib.hid fun w => rv_right v w hvv
  generalize saM l = S at *
  clear hl hv hc hm
  by_cases hE : setE S i v = 0
  · obtain ⟨q1, q2, q3, q4⟩ := setE_zero hE
    obtain ⟨m, rfl⟩ : ∃ m : Nat, i = (m : Int) := ⟨i.toNat, by omega⟩
    obtain ⟨Y, hY⟩ : ∃ Y, Y = S.reg m v := ⟨_, rfl⟩
    have e2 : setX S (m : Int) v = Y := by rw [(setE_yes' q1 q2 q3 q4).2, hY, Int.toNat_natCast]
    have S2 := Lib.hid fun w => sp_set Y (m : Int) (S.r m) w (by rw [hY]; exact reg_in SI.out m hvv) (SI.out.1 m)
    have e3 := setE_yes' (x := Y) (i := (m : Int)) (v := S.r m) (by rw [hY]; exact stR_reg q1 m q4) q2 q3 ((stR_get q1).1 m (by omega))
    rw [e3.1, e3.2, hY, Int.toNat_natCast, reg_back, ← hY] at S2
    rw [hE, e2] at SE
    have ZY : Hid (zV Y = zV S) := Lib.hid (by rw [hY]; rfl)
    have hm11 : Hid (m < 11) := Lib.hid (by omega)
    have OTH := Lib.hid fun (j : Nat) (h : ¬ j = m) => show Y.r j = S.r j by rw [hY]; exact reg_other S v h
    have SAM := Lib.hid (show Y.r m = v by rw [hY]; exact reg_same S m v)
    have m0 : ¬ (m : Int) < 0 := by omega
    have m10 : (m : Int) < 11 := q3
    clear e2 e3 q1 q2 q3 q4 hE hY SR SI VR
    go_enter Try.func9, Try.ntmps9
    go_wp2_with fail
    refine (SH.out _).mono ?_; rintro e w1 ⟨rfl, b1⟩
    have X := Lib.hid (((Blks.start w).new (vCells v) 30).after b1)
    clear b1
    go_wp2_with fail
    refine (MD.out _ X.out.1).mono ?_; rintro e w2 ⟨rfl, b2⟩
    replace X := Lib.hid (X.out.after b2)
    clear b2 MD
    have hgs := Lib.hid (Blk.lt (X.out.get (g := w.heap.size) (cs := vCells v) (t := 30) (by simp)))
    replace X := Lib.hid ((X.out.new Try.zeroCells36 36).row (by have := hgs.out; omega) (by have := hgs.out; simp; omega) (stC S))
    have N2 : Hid (stB w2.heap.size stZ (w2.alloc (.cells Try.zeroCells36 36))) := Lib.hid (stB.newz w2 rfl)
    go_upto_region 3 with (refine st_store rfl _ _ rfl rfl rfl N2.out ?_)
    clear N2
    generalize (w2.alloc (.cells Try.zeroCells36 36)).setRow w2.heap.size (stC S) = wx at *
    generalize w2.heap.size = gs at *
    have LS : Hid (stB gs S wx) := Lib.hid (X.out.get (g := gs) (cs := stC S) (t := 36) (by simp))
    obtain ⟨c0, c1, c2, c3, c4, c5, c6⟩ := vB.cells (X.out.get (g := w.heap.size) (cs := vCells v) (t := 30) (by simp))
    go_wp2_with (first | (refine st_load rfl _ rfl rfl LS.out ?_) | fail)
    refine (SE.out _).mono ?_; rintro e w4 ⟨rfl, b4⟩
    replace X := Lib.hid (X.out.after b4)
    clear b4 LS SE c0 c1 c2 c3 c4 c5 c6
    have hgt := Lib.hid (Blk.lt (X.out.get (g := gs) (cs := stC S) (t := 36) (by simp)))
    replace X := Lib.hid ((X.out.new Try.zeroCells36 36).row (by have := hgs.out; have := hgt.out; omega) (by have := hgs.out; have := hgt.out; simp; omega) (stC Y))
    have N2 : Hid (stB w4.heap.size stZ (w4.alloc (.cells Try.zeroCells36 36))) := Lib.hid (stB.newz w4 rfl)
    go_upto_region 4 with (refine st_store rfl _ _ rfl rfl rfl N2.out ?_)
    clear N2
    generalize (w4.alloc (.cells Try.zeroCells36 36)).setRow w4.heap.size (stC Y) = wx at *
    generalize w4.heap.size = gt at *
    go_wp2_with fail
    go_loopw [45] (fun iv wr => ∃ j : Nat, iv = .int .i64 j ∧ j ≤ 11 ∧ Hid (Blks w [(gt, stC Y, 36), (gs, stC S, 36), (w.heap.size, vCells v, 30)] wr)) (fun iv wr => 11 - (intOf iv).toNat)
    case atStart => exact ⟨0, rfl, by omega, X⟩
    case round =>
      obtain ⟨j, rfl, hj, V⟩ := hrel
      have j0 : (0 : Int) ≤ (j : Int) := by omega
      by_cases hlt : (j : Int) < 11
      · have hj11 : Hid (j < 11) := Lib.hid (by omega)
        by_cases hjm : j = m
        · have n1 : ((j : Int) != (m : Int)) = false := by rw [hjm]; simp
          have n2 : ((j : Int) == (m : Int)) = true := by rw [hjm]; simp
          have SM : Hid (Y.r j = v) := Lib.hid (by rw [hjm]; exact SAM.out)
          replace hjm := Lib.hid hjm
          go_upto_region 9 with fail
          have XD := Lib.hid (V.out.after (Below.drew (Below.refl _ _)))
          refine wp_region_held_drew (S := (fun u => Blks w [(gt, stC Y, 36), (gs, stC S, 36), (w.heap.size, vCells v, 30)] u)) (by kernel_rfl) XD.out (fun hHeld => ?_)
          generalize wr.drew = wd at *
          refine wpAnyH_take (i := 0) (oi := { dst := some 48, op := Op.move (Operand.tmp 11), type := 3, pos := "law.go:165", after := #[], guard := none }) (v := ?_) rfl (by kernel_rfl) (by kernel_rfl) (by kernel_rfl) (fun _ _ _ h => h) (Or.inl ⟨by rfl, ?_⟩) (by first | exact hHeld | assumption) ?_
          rotate_left 1
          · intro w hSw; (try dsimp only at hSw); go_simp; try (with_reducible rfl)
          try simp only [Act.put, List.setIfInBounds_toArray, List.set_cons_zero, List.set_cons_succ]
          refine wpAnyH_take (i := 1) (oi := { dst := some 49, op := Op.move (Operand.tmp 1), type := 3, pos := "law.go:165", after := #[], guard := none }) (v := ?_) rfl (by kernel_rfl) (by kernel_rfl) (by kernel_rfl) (fun _ _ _ h => h) (Or.inl ⟨by rfl, ?_⟩) (by first | exact hHeld | assumption) ?_
          rotate_left 1
          · intro w hSw; (try dsimp only at hSw); go_simp; try (with_reducible rfl)
          try simp only [Act.put, List.setIfInBounds_toArray, List.set_cons_zero, List.set_cons_succ]
          refine wpAnyH_take (i := 2) (oi := { dst := some 50, op := Op.binOp BinOp.neq 3 (Operand.tmp 48) (Operand.tmp 49) 3, type := 4, pos := "law.go:165", after := #[{ on := 0, ground := Ground.data }, { on := 1, ground := Ground.data }], guard := none }) (v := ?_) rfl (by kernel_rfl) (by kernel_rfl) (by kernel_rfl) (fun _ _ _ h => h) (Or.inl ⟨by rfl, ?_⟩) (by first | exact hHeld | assumption) ?_
          rotate_left 1
          · intro w hSw; (try dsimp only at hSw); go_simp; try (with_reducible rfl)
          try simp only [Act.put, List.setIfInBounds_toArray, List.set_cons_zero, List.set_cons_succ]
          refine wpAnyH_take (i := 3) (oi := { dst := some 51, op := Op.move (Operand.tmp 50), type := 4, pos := "law.go:165", after := #[{ on := 2, ground := Ground.data }], guard := none }) (v := ?_) rfl (by kernel_rfl) (by kernel_rfl) (by kernel_rfl) (fun _ _ _ h => h) (Or.inl ⟨by rfl, ?_⟩) (by first | exact hHeld | assumption) ?_
          rotate_left 1
          · intro w hSw; (try dsimp only at hSw); go_simp; try (with_reducible rfl)
          try simp only [Act.put, List.setIfInBounds_toArray, List.set_cons_zero, List.set_cons_succ]
          refine wpAnyH_take (i := 4) (oi := { dst := some 52, op := Op.move (Operand.tmp 11), type := 3, pos := "law.go:165", after := #[{ on := 3, ground := Ground.guard }], guard := some (3, true) }) (v := undef) rfl (by kernel_rfl) (by kernel_rfl) (by kernel_rfl) (fun _ _ _ h => h) (Or.inr ⟨by rfl, rfl⟩) (by first | exact hHeld | assumption) ?_
          try simp only [Act.put, List.setIfInBounds_toArray, List.set_cons_zero, List.set_cons_succ]
          refine wpAnyH_take (i := 5) (oi := { dst := some 53, op := Op.fieldAddr 36 (Operand.tmp 9) 0, type := 0, pos := "law.go:165", after := #[{ on := 3, ground := Ground.guard }], guard := some (3, true) }) (v := undef) rfl (by kernel_rfl) (by kernel_rfl) (by kernel_rfl) (fun _ _ _ h => h) (Or.inr ⟨by rfl, rfl⟩) (by first | exact hHeld | assumption) ?_
          try simp only [Act.put, List.setIfInBounds_toArray, List.set_cons_zero, List.set_cons_succ]
          refine wpAnyH_take (i := 6) (oi := { dst := some 54, op := Op.indexAddr 31 (Operand.tmp 53) (Operand.tmp 52), type := 0, pos := "law.go:165", after := #[{ on := 5, ground := Ground.data }, { on := 4, ground := Ground.data }, { on := 3, ground := Ground.guard }], guard := some (3, true) }) (v := undef) rfl (by kernel_rfl) (by kernel_rfl) (by kernel_rfl) (fun _ _ _ h => h) (Or.inr ⟨by rfl, rfl⟩) (by first | exact hHeld | assumption) ?_
          try simp only [Act.put, List.setIfInBounds_toArray, List.set_cons_zero, List.set_cons_succ]
          refine wpAnyH_take (i := 7) (oi := { dst := some 55, op := Op.load 30 (Operand.tmp 54), type := 30, pos := "law.go:165", after := #[{ on := 6, ground := Ground.data }, { on := 3, ground := Ground.guard }], guard := some (3, true) }) (v := undef) rfl (by kernel_rfl) (by kernel_rfl) (by kernel_rfl) (fun _ _ _ h => h) (Or.inr ⟨by rfl, rfl⟩) (by first | exact hHeld | assumption) ?_
          try simp only [Act.put, List.setIfInBounds_toArray, List.set_cons_zero, List.set_cons_succ]
          refine wpAnyH_take (i := 8) (oi := { dst := some 56, op := Op.move (Operand.tmp 11), type := 3, pos := "law.go:165", after := #[{ on := 3, ground := Ground.guard }], guard := some (3, true) }) (v := undef) rfl (by kernel_rfl) (by kernel_rfl) (by kernel_rfl) (fun _ _ _ h => h) (Or.inr ⟨by rfl, rfl⟩) (by first | exact hHeld | assumption) ?_
          try simp only [Act.put, List.setIfInBounds_toArray, List.set_cons_zero, List.set_cons_succ]
          refine wpAnyH_take (i := 9) (oi := { dst := some 57, op := Op.fieldAddr 36 (Operand.tmp 8) 0, type := 0, pos := "law.go:165", after := #[{ on := 3, ground := Ground.guard }], guard := some (3, true) }) (v := undef) rfl (by kernel_rfl) (by kernel_rfl) (by kernel_rfl) (fun _ _ _ h => h) (Or.inr ⟨by rfl, rfl⟩) (by first | exact hHeld | assumption) ?_
          try simp only [Act.put, List.setIfInBounds_toArray, List.set_cons_zero, List.set_cons_succ]
          refine wpAnyH_take (i := 10) (oi := { dst := some 58, op := Op.indexAddr 31 (Operand.tmp 57) (Operand.tmp 56), type := 0, pos := "law.go:165", after := #[{ on := 9, ground := Ground.data }, { on := 8, ground := Ground.data }, { on := 3, ground := Ground.guard }], guard := some (3, true) }) (v := undef) rfl (by kernel_rfl) (by kernel_rfl) (by kernel_rfl) (fun _ _ _ h => h) (Or.inr ⟨by rfl, rfl⟩) (by first | exact hHeld | assumption) ?_
          try simp only [Act.put, List.setIfInBounds_toArray, List.set_cons_zero, List.set_cons_succ]
          refine wpAnyH_take (i := 11) (oi := { dst := some 59, op := Op.load 30 (Operand.tmp 58), type := 30, pos := "law.go:165", after := #[{ on := 10, ground := Ground.data }, { on := 3, ground := Ground.guard }], guard := some (3, true) }) (v := undef) rfl (by kernel_rfl) (by kernel_rfl) (by kernel_rfl) (fun _ _ _ h => h) (Or.inr ⟨by rfl, rfl⟩) (by first | exact hHeld | assumption) ?_
          try simp only [Act.put, List.setIfInBounds_toArray, List.set_cons_zero, List.set_cons_succ]
          refine wpAnyH_take (i := 12) (oi := { dst := some 60, op := Op.binOp BinOp.neq 30 (Operand.tmp 55) (Operand.tmp 59) 30, type := 4, pos := "law.go:165", after := #[{ on := 7, ground := Ground.data }, { on := 11, ground := Ground.data }, { on := 3, ground := Ground.guard }], guard := some (3, true) }) (v := undef) rfl (by kernel_rfl) (by kernel_rfl) (by kernel_rfl) (fun _ _ _ h => h) (Or.inr ⟨by rfl, rfl⟩) (by first | exact hHeld | assumption) ?_
          try simp only [Act.put, List.setIfInBounds_toArray, List.set_cons_zero, List.set_cons_succ]
          refine wpAnyH_take (i := 13) (oi := { dst := some 61, op := Op.pick (Operand.tmp 51) (Operand.tmp 60) (Operand.const (Value.bool false)), type := 4, pos := "law.go:165", after := #[{ on := 3, ground := Ground.data }, { on := 12, ground := Ground.data }], guard := none }) (v := ?_) rfl (by kernel_rfl) (by kernel_rfl) (by kernel_rfl) (fun _ _ _ h => h) (Or.inl ⟨by rfl, ?_⟩) (by first | exact hHeld | assumption) ?_
          rotate_left 1
          · intro w hSw; (try dsimp only at hSw); go_simp; try (with_reducible rfl)
          try simp only [Act.put, List.setIfInBounds_toArray, List.set_cons_zero, List.set_cons_succ]
          refine wpAnyH_take (i := 14) (oi := { dst := some 62, op := Op.move (Operand.tmp 61), type := 4, pos := "law.go:165", after := #[{ on := 13, ground := Ground.data }, { on := 3, ground := Ground.chain }], guard := none }) (v := ?_) rfl (by kernel_rfl) (by kernel_rfl) (by kernel_rfl) (fun _ _ _ h => h) (Or.inl ⟨by rfl, ?_⟩) (by first | exact hHeld | assumption) ?_
          rotate_left 1
          · intro w hSw; (try dsimp only at hSw); go_simp; try (with_reducible rfl)
          try simp only [Act.put, List.setIfInBounds_toArray, List.set_cons_zero, List.set_cons_succ]
          refine wpAnyH_take (i := 15) (oi := { dst := some 63, op := Op.move (Operand.tmp 11), type := 3, pos := "law.go:165", after := #[{ on := 14, ground := Ground.guard }], guard := some (14, false) }) (v := ?_) rfl (by kernel_rfl) (by kernel_rfl) (by kernel_rfl) (fun _ _ _ h => h) (Or.inl ⟨by rfl, ?_⟩) (by first | exact hHeld | assumption) ?_
          rotate_left 1
          · intro w hSw; (try dsimp only at hSw); go_simp; try (with_reducible rfl)
          try simp only [Act.put, List.setIfInBounds_toArray, List.set_cons_zero, List.set_cons_succ]
          refine wpAnyH_take (i := 16) (oi := { dst := some 64, op := Op.move (Operand.tmp 1), type := 3, pos := "law.go:165", after := #[{ on := 14, ground := Ground.guard }], guard := some (14, false) }) (v := ?_) rfl (by kernel_rfl) (by kernel_rfl) (by kernel_rfl) (fun _ _ _ h => h) (Or.inl ⟨by rfl, ?_⟩) (by first | exact hHeld | assumption) ?_
          rotate_left 1
          · intro w hSw; (try dsimp only at hSw); go_simp; try (with_reducible rfl)
          try simp only [Act.put, List.setIfInBounds_toArray, List.set_cons_zero, List.set_cons_succ]
          refine wpAnyH_take (i := 17) (oi := { dst := some 65, op := Op.binOp BinOp.eql 3 (Operand.tmp 63) (Operand.tmp 64) 3, type := 4, pos := "law.go:165", after := #[{ on := 15, ground := Ground.data }, { on := 16, ground := Ground.data }, { on := 14, ground := Ground.guard }], guard := some (14, false) }) (v := ?_) rfl (by kernel_rfl) (by kernel_rfl) (by kernel_rfl) (fun _ _ _ h => h) (Or.inl ⟨by rfl, ?_⟩) (by first | exact hHeld | assumption) ?_
          rotate_left 1
          · intro w hSw; (try dsimp only at hSw); go_simp; try (with_reducible rfl)
          try simp only [Act.put, List.setIfInBounds_toArray, List.set_cons_zero, List.set_cons_succ]
          refine wpAnyH_take (i := 18) (oi := { dst := some 66, op := Op.move (Operand.tmp 65), type := 4, pos := "law.go:165", after := #[{ on := 17, ground := Ground.data }, { on := 14, ground := Ground.chain }, { on := 14, ground := Ground.guard }], guard := some (14, false) }) (v := ?_) rfl (by kernel_rfl) (by kernel_rfl) (by kernel_rfl) (fun _ _ _ h => h) (Or.inl ⟨by rfl, ?_⟩) (by first | exact hHeld | assumption) ?_
          rotate_left 1
          · intro w hSw; (try dsimp only at hSw); go_simp; try (with_reducible rfl)
          try simp only [Act.put, List.setIfInBounds_toArray, List.set_cons_zero, List.set_cons_succ]
          refine wpAnyH_take (i := 19) (oi := { dst := some 67, op := Op.move (Operand.tmp 11), type := 3, pos := "law.go:165", after := #[{ on := 18, ground := Ground.guard }], guard := some (18, true) }) (v := ?_) rfl (by kernel_rfl) (by kernel_rfl) (by kernel_rfl) (fun _ _ _ h => h) (Or.inl ⟨by rfl, ?_⟩) (by first | exact hHeld | assumption) ?_
          rotate_left 1
          · intro w hSw; (try dsimp only at hSw); go_simp; try (with_reducible rfl)
          try simp only [Act.put, List.setIfInBounds_toArray, List.set_cons_zero, List.set_cons_succ]
          refine wpAnyH_take (i := 20) (oi := { dst := some 68, op := Op.fieldAddr 36 (Operand.tmp 9) 0, type := 0, pos := "law.go:165", after := #[{ on := 18, ground := Ground.guard }], guard := some (18, true) }) (v := ?_) rfl (by kernel_rfl) (by kernel_rfl) (by kernel_rfl) (fun _ _ _ h => h) (Or.inl ⟨by rfl, ?_⟩) (by first | exact hHeld | assumption) ?_
          rotate_left 1
          · intro w hSw; (try dsimp only at hSw); go_simp; try (with_reducible rfl)
          try simp only [Act.put, List.setIfInBounds_toArray, List.set_cons_zero, List.set_cons_succ]
          refine wpAnyH_take (i := 21) (oi := { dst := some 69, op := Op.indexAddr 31 (Operand.tmp 68) (Operand.tmp 67), type := 0, pos := "law.go:165", after := #[{ on := 20, ground := Ground.data }, { on := 19, ground := Ground.data }, { on := 18, ground := Ground.guard }], guard := some (18, true) }) (v := ?_) rfl (by kernel_rfl) (by kernel_rfl) (by kernel_rfl) (fun _ _ _ h => h) (Or.inl ⟨by rfl, ?_⟩) (by first | exact hHeld | assumption) ?_
          rotate_left 1
          · intro w hSw; (try dsimp only at hSw); go_simp; try (with_reducible rfl)
          try simp only [Act.put, List.setIfInBounds_toArray, List.set_cons_zero, List.set_cons_succ]
          refine wpAnyH_take (i := 22) (oi := { dst := some 70, op := Op.load 30 (Operand.tmp 69), type := 30, pos := "law.go:165", after := #[{ on := 21, ground := Ground.data }, { on := 18, ground := Ground.guard }], guard := some (18, true) }) rfl (by kernel_rfl) (by kernel_rfl) (by kernel_rfl) (fun _ _ _ h => h) (vl_yield (by kernel_rfl) _ rfl (g := gt) (o := j * 7) (v := v) rfl (fun u hu => by have q := st_reg (hu.get (g := gt) (cs := stC Y) (t := 36) (by simp)) hj11.out (Nat.mul_comm _ _); rw [SM.out] at q; exact q)) (by exact hHeld) ?_
          try simp only [Act.put, List.setIfInBounds_toArray, List.set_cons_zero, List.set_cons_succ]
          refine wpAnyH_take (i := 23) (oi := { dst := some 71, op := Op.load 30 (Operand.tmp 5), type := 30, pos := "law.go:165", after := #[{ on := 18, ground := Ground.guard }], guard := some (18, true) }) rfl (by kernel_rfl) (by kernel_rfl) (by kernel_rfl) (fun _ _ _ h => h) (vl_yield (by kernel_rfl) _ rfl (g := w.heap.size) (v := v) rfl (fun u hu => vBlk_range (hu.get (g := w.heap.size) (cs := vCells v) (t := 30) (by simp)))) (by exact hHeld) ?_
          try simp only [Act.put, List.setIfInBounds_toArray, List.set_cons_zero, List.set_cons_succ]
          refine wpAnyH_take (i := 24) (oi := { dst := some 72, op := Op.binOp BinOp.neq 30 (Operand.tmp 70) (Operand.tmp 71) 30, type := 4, pos := "law.go:165", after := #[{ on := 22, ground := Ground.data }, { on := 23, ground := Ground.data }, { on := 18, ground := Ground.guard }], guard := some (18, true) }) rfl (by kernel_rfl) (by kernel_rfl) (by kernel_rfl) (fun _ _ _ h => h) (yields_value (by kernel_rfl) (x_val_ne (X := v) rfl rfl rfl)) (by exact hHeld) ?_
          try simp only [Act.put, List.setIfInBounds_toArray, List.set_cons_zero, List.set_cons_succ]
          refine wpAnyH_take (i := 25) (oi := { dst := some 73, op := Op.pick (Operand.tmp 66) (Operand.tmp 72) (Operand.const (Value.bool false)), type := 4, pos := "law.go:165", after := #[{ on := 18, ground := Ground.data }, { on := 24, ground := Ground.data }, { on := 14, ground := Ground.guard }], guard := some (14, false) }) (v := ?_) rfl (by kernel_rfl) (by kernel_rfl) (by kernel_rfl) (fun _ _ _ h => h) (Or.inl ⟨by rfl, ?_⟩) (by first | exact hHeld | assumption) ?_
          rotate_left 1
          · intro w hSw; (try dsimp only at hSw); go_simp; try (with_reducible rfl)
          try simp only [Act.put, List.setIfInBounds_toArray, List.set_cons_zero, List.set_cons_succ]
          refine wpAnyH_take (i := 26) (oi := { dst := some 74, op := Op.pick (Operand.tmp 62) (Operand.const (Value.bool true)) (Operand.tmp 73), type := 4, pos := "law.go:165", after := #[{ on := 14, ground := Ground.data }, { on := 25, ground := Ground.data }], guard := none }) (v := ?_) rfl (by kernel_rfl) (by kernel_rfl) (by kernel_rfl) (fun _ _ _ h => h) (Or.inl ⟨by rfl, ?_⟩) (by first | exact hHeld | assumption) ?_
          rotate_left 1
          · intro w hSw; (try dsimp only at hSw); go_simp; try (with_reducible rfl)
          try simp only [Act.put, List.setIfInBounds_toArray, List.set_cons_zero, List.set_cons_succ]
          refine wpAnyH_done (by kernel_rfl) ?_ _
          go_wp2_with fail
          go_round
          case rel => exact ⟨j + 1, by go_num, by omega, XD⟩
          case measure => simp [intOf]; omega
        · have n1 : ((j : Int) != (m : Int)) = true := by rw [bne_iff_ne]; omega
          have n2 : ((j : Int) == (m : Int)) = false := by rw [beq_eq_false_iff_ne]; omega
          have OT : Hid (Y.r j = S.r j) := Lib.hid (OTH.out j hjm)
          replace hjm := Lib.hid hjm
          go_upto_region 9 with fail
          have XD := Lib.hid (V.out.after (Below.drew (Below.refl _ _)))
          refine wp_region_held_drew (S := (fun u => Blks w [(gt, stC Y, 36), (gs, stC S, 36), (w.heap.size, vCells v, 30)] u)) (by kernel_rfl) XD.out (fun hHeld => ?_)
          generalize wr.drew = wd at *
          refine wpAnyH_take (i := 0) (oi := { dst := some 48, op := Op.move (Operand.tmp 11), type := 3, pos := "law.go:165", after := #[], guard := none }) (v := ?_) rfl (by kernel_rfl) (by kernel_rfl) (by kernel_rfl) (fun _ _ _ h => h) (Or.inl ⟨by rfl, ?_⟩) (by first | exact hHeld | assumption) ?_
          rotate_left 1
          · intro w hSw; (try dsimp only at hSw); go_simp; try (with_reducible rfl)
          try simp only [Act.put, List.setIfInBounds_toArray, List.set_cons_zero, List.set_cons_succ]
          refine wpAnyH_take (i := 1) (oi := { dst := some 49, op := Op.move (Operand.tmp 1), type := 3, pos := "law.go:165", after := #[], guard := none }) (v := ?_) rfl (by kernel_rfl) (by kernel_rfl) (by kernel_rfl) (fun _ _ _ h => h) (Or.inl ⟨by rfl, ?_⟩) (by first | exact hHeld | assumption) ?_
          rotate_left 1
          · intro w hSw; (try dsimp only at hSw); go_simp; try (with_reducible rfl)
          try simp only [Act.put, List.setIfInBounds_toArray, List.set_cons_zero, List.set_cons_succ]
          refine wpAnyH_take (i := 2) (oi := { dst := some 50, op := Op.binOp BinOp.neq 3 (Operand.tmp 48) (Operand.tmp 49) 3, type := 4, pos := "law.go:165", after := #[{ on := 0, ground := Ground.data }, { on := 1, ground := Ground.data }], guard := none }) (v := ?_) rfl (by kernel_rfl) (by kernel_rfl) (by kernel_rfl) (fun _ _ _ h => h) (Or.inl ⟨by rfl, ?_⟩) (by first | exact hHeld | assumption) ?_
          rotate_left 1
          · intro w hSw; (try dsimp only at hSw); go_simp; try (with_reducible rfl)
          try simp only [Act.put, List.setIfInBounds_toArray, List.set_cons_zero, List.set_cons_succ]
          refine wpAnyH_take (i := 3) (oi := { dst := some 51, op := Op.move (Operand.tmp 50), type := 4, pos := "law.go:165", after := #[{ on := 2, ground := Ground.data }], guard := none }) (v := ?_) rfl (by kernel_rfl) (by kernel_rfl) (by kernel_rfl) (fun _ _ _ h => h) (Or.inl ⟨by rfl, ?_⟩) (by first | exact hHeld | assumption) ?_
          rotate_left 1
          · intro w hSw; (try dsimp only at hSw); go_simp; try (with_reducible rfl)
          try simp only [Act.put, List.setIfInBounds_toArray, List.set_cons_zero, List.set_cons_succ]
          refine wpAnyH_take (i := 4) (oi := { dst := some 52, op := Op.move (Operand.tmp 11), type := 3, pos := "law.go:165", after := #[{ on := 3, ground := Ground.guard }], guard := some (3, true) }) (v := ?_) rfl (by kernel_rfl) (by kernel_rfl) (by kernel_rfl) (fun _ _ _ h => h) (Or.inl ⟨by rfl, ?_⟩) (by first | exact hHeld | assumption) ?_
          rotate_left 1
          · intro w hSw; (try dsimp only at hSw); go_simp; try (with_reducible rfl)
          try simp only [Act.put, List.setIfInBounds_toArray, List.set_cons_zero, List.set_cons_succ]
          refine wpAnyH_take (i := 5) (oi := { dst := some 53, op := Op.fieldAddr 36 (Operand.tmp 9) 0, type := 0, pos := "law.go:165", after := #[{ on := 3, ground := Ground.guard }], guard := some (3, true) }) (v := ?_) rfl (by kernel_rfl) (by kernel_rfl) (by kernel_rfl) (fun _ _ _ h => h) (Or.inl ⟨by rfl, ?_⟩) (by first | exact hHeld | assumption) ?_
          rotate_left 1
          · intro w hSw; (try dsimp only at hSw); go_simp; try (with_reducible rfl)
          try simp only [Act.put, List.setIfInBounds_toArray, List.set_cons_zero, List.set_cons_succ]
          refine wpAnyH_take (i := 6) (oi := { dst := some 54, op := Op.indexAddr 31 (Operand.tmp 53) (Operand.tmp 52), type := 0, pos := "law.go:165", after := #[{ on := 5, ground := Ground.data }, { on := 4, ground := Ground.data }, { on := 3, ground := Ground.guard }], guard := some (3, true) }) (v := ?_) rfl (by kernel_rfl) (by kernel_rfl) (by kernel_rfl) (fun _ _ _ h => h) (Or.inl ⟨by rfl, ?_⟩) (by first | exact hHeld | assumption) ?_
          rotate_left 1
          · intro w hSw; (try dsimp only at hSw); go_simp; try (with_reducible rfl)
          try simp only [Act.put, List.setIfInBounds_toArray, List.set_cons_zero, List.set_cons_succ]
          refine wpAnyH_take (i := 7) (oi := { dst := some 55, op := Op.load 30 (Operand.tmp 54), type := 30, pos := "law.go:165", after := #[{ on := 6, ground := Ground.data }, { on := 3, ground := Ground.guard }], guard := some (3, true) }) rfl (by kernel_rfl) (by kernel_rfl) (by kernel_rfl) (fun _ _ _ h => h) (vl_yield (by kernel_rfl) _ rfl (g := gt) (o := j * 7) (v := (S.r j)) rfl (fun u hu => by have q := st_reg (hu.get (g := gt) (cs := stC Y) (t := 36) (by simp)) hj11.out (Nat.mul_comm _ _); rw [OT.out] at q; exact q)) (by exact hHeld) ?_
          try simp only [Act.put, List.setIfInBounds_toArray, List.set_cons_zero, List.set_cons_succ]
          refine wpAnyH_take (i := 8) (oi := { dst := some 56, op := Op.move (Operand.tmp 11), type := 3, pos := "law.go:165", after := #[{ on := 3, ground := Ground.guard }], guard := some (3, true) }) (v := ?_) rfl (by kernel_rfl) (by kernel_rfl) (by kernel_rfl) (fun _ _ _ h => h) (Or.inl ⟨by rfl, ?_⟩) (by first | exact hHeld | assumption) ?_
          rotate_left 1
          · intro w hSw; (try dsimp only at hSw); go_simp; try (with_reducible rfl)
          try simp only [Act.put, List.setIfInBounds_toArray, List.set_cons_zero, List.set_cons_succ]
          refine wpAnyH_take (i := 9) (oi := { dst := some 57, op := Op.fieldAddr 36 (Operand.tmp 8) 0, type := 0, pos := "law.go:165", after := #[{ on := 3, ground := Ground.guard }], guard := some (3, true) }) (v := ?_) rfl (by kernel_rfl) (by kernel_rfl) (by kernel_rfl) (fun _ _ _ h => h) (Or.inl ⟨by rfl, ?_⟩) (by first | exact hHeld | assumption) ?_
          rotate_left 1
          · intro w hSw; (try dsimp only at hSw); go_simp; try (with_reducible rfl)
          try simp only [Act.put, List.setIfInBounds_toArray, List.set_cons_zero, List.set_cons_succ]
          refine wpAnyH_take (i := 10) (oi := { dst := some 58, op := Op.indexAddr 31 (Operand.tmp 57) (Operand.tmp 56), type := 0, pos := "law.go:165", after := #[{ on := 9, ground := Ground.data }, { on := 8, ground := Ground.data }, { on := 3, ground := Ground.guard }], guard := some (3, true) }) (v := ?_) rfl (by kernel_rfl) (by kernel_rfl) (by kernel_rfl) (fun _ _ _ h => h) (Or.inl ⟨by rfl, ?_⟩) (by first | exact hHeld | assumption) ?_
          rotate_left 1
          · intro w hSw; (try dsimp only at hSw); go_simp; try (with_reducible rfl)
          try simp only [Act.put, List.setIfInBounds_toArray, List.set_cons_zero, List.set_cons_succ]
          refine wpAnyH_take (i := 11) (oi := { dst := some 59, op := Op.load 30 (Operand.tmp 58), type := 30, pos := "law.go:165", after := #[{ on := 10, ground := Ground.data }, { on := 3, ground := Ground.guard }], guard := some (3, true) }) rfl (by kernel_rfl) (by kernel_rfl) (by kernel_rfl) (fun _ _ _ h => h) (vl_yield (by kernel_rfl) _ rfl (g := gs) (o := j * 7) (v := (S.r j)) rfl (fun u hu => st_reg (hu.get (g := gs) (cs := stC S) (t := 36) (by simp)) hj11.out (Nat.mul_comm _ _))) (by exact hHeld) ?_
          try simp only [Act.put, List.setIfInBounds_toArray, List.set_cons_zero, List.set_cons_succ]
          refine wpAnyH_take (i := 12) (oi := { dst := some 60, op := Op.binOp BinOp.neq 30 (Operand.tmp 55) (Operand.tmp 59) 30, type := 4, pos := "law.go:165", after := #[{ on := 7, ground := Ground.data }, { on := 11, ground := Ground.data }, { on := 3, ground := Ground.guard }], guard := some (3, true) }) rfl (by kernel_rfl) (by kernel_rfl) (by kernel_rfl) (fun _ _ _ h => h) (yields_value (by kernel_rfl) (x_val_ne (X := (S.r j)) rfl rfl rfl)) (by exact hHeld) ?_
          try simp only [Act.put, List.setIfInBounds_toArray, List.set_cons_zero, List.set_cons_succ]
          refine wpAnyH_take (i := 13) (oi := { dst := some 61, op := Op.pick (Operand.tmp 51) (Operand.tmp 60) (Operand.const (Value.bool false)), type := 4, pos := "law.go:165", after := #[{ on := 3, ground := Ground.data }, { on := 12, ground := Ground.data }], guard := none }) (v := ?_) rfl (by kernel_rfl) (by kernel_rfl) (by kernel_rfl) (fun _ _ _ h => h) (Or.inl ⟨by rfl, ?_⟩) (by first | exact hHeld | assumption) ?_
          rotate_left 1
          · intro w hSw; (try dsimp only at hSw); go_simp; try (with_reducible rfl)
          try simp only [Act.put, List.setIfInBounds_toArray, List.set_cons_zero, List.set_cons_succ]
          refine wpAnyH_take (i := 14) (oi := { dst := some 62, op := Op.move (Operand.tmp 61), type := 4, pos := "law.go:165", after := #[{ on := 13, ground := Ground.data }, { on := 3, ground := Ground.chain }], guard := none }) (v := ?_) rfl (by kernel_rfl) (by kernel_rfl) (by kernel_rfl) (fun _ _ _ h => h) (Or.inl ⟨by rfl, ?_⟩) (by first | exact hHeld | assumption) ?_
          rotate_left 1
          · intro w hSw; (try dsimp only at hSw); go_simp; try (with_reducible rfl)
          try simp only [Act.put, List.setIfInBounds_toArray, List.set_cons_zero, List.set_cons_succ]
          refine wpAnyH_take (i := 15) (oi := { dst := some 63, op := Op.move (Operand.tmp 11), type := 3, pos := "law.go:165", after := #[{ on := 14, ground := Ground.guard }], guard := some (14, false) }) (v := ?_) rfl (by kernel_rfl) (by kernel_rfl) (by kernel_rfl) (fun _ _ _ h => h) (Or.inl ⟨by rfl, ?_⟩) (by first | exact hHeld | assumption) ?_
          rotate_left 1
          · intro w hSw; (try dsimp only at hSw); go_simp; try (with_reducible rfl)
          try simp only [Act.put, List.setIfInBounds_toArray, List.set_cons_zero, List.set_cons_succ]
          refine wpAnyH_take (i := 16) (oi := { dst := some 64, op := Op.move (Operand.tmp 1), type := 3, pos := "law.go:165", after := #[{ on := 14, ground := Ground.guard }], guard := some (14, false) }) (v := ?_) rfl (by kernel_rfl) (by kernel_rfl) (by kernel_rfl) (fun _ _ _ h => h) (Or.inl ⟨by rfl, ?_⟩) (by first | exact hHeld | assumption) ?_
          rotate_left 1
          · intro w hSw; (try dsimp only at hSw); go_simp; try (with_reducible rfl)
          try simp only [Act.put, List.setIfInBounds_toArray, List.set_cons_zero, List.set_cons_succ]
          refine wpAnyH_take (i := 17) (oi := { dst := some 65, op := Op.binOp BinOp.eql 3 (Operand.tmp 63) (Operand.tmp 64) 3, type := 4, pos := "law.go:165", after := #[{ on := 15, ground := Ground.data }, { on := 16, ground := Ground.data }, { on := 14, ground := Ground.guard }], guard := some (14, false) }) (v := ?_) rfl (by kernel_rfl) (by kernel_rfl) (by kernel_rfl) (fun _ _ _ h => h) (Or.inl ⟨by rfl, ?_⟩) (by first | exact hHeld | assumption) ?_
          rotate_left 1
          · intro w hSw; (try dsimp only at hSw); go_simp; try (with_reducible rfl)
          try simp only [Act.put, List.setIfInBounds_toArray, List.set_cons_zero, List.set_cons_succ]
          refine wpAnyH_take (i := 18) (oi := { dst := some 66, op := Op.move (Operand.tmp 65), type := 4, pos := "law.go:165", after := #[{ on := 17, ground := Ground.data }, { on := 14, ground := Ground.chain }, { on := 14, ground := Ground.guard }], guard := some (14, false) }) (v := ?_) rfl (by kernel_rfl) (by kernel_rfl) (by kernel_rfl) (fun _ _ _ h => h) (Or.inl ⟨by rfl, ?_⟩) (by first | exact hHeld | assumption) ?_
          rotate_left 1
          · intro w hSw; (try dsimp only at hSw); go_simp; try (with_reducible rfl)
          try simp only [Act.put, List.setIfInBounds_toArray, List.set_cons_zero, List.set_cons_succ]
          refine wpAnyH_take (i := 19) (oi := { dst := some 67, op := Op.move (Operand.tmp 11), type := 3, pos := "law.go:165", after := #[{ on := 18, ground := Ground.guard }], guard := some (18, true) }) (v := undef) rfl (by kernel_rfl) (by kernel_rfl) (by kernel_rfl) (fun _ _ _ h => h) (Or.inr ⟨by rfl, rfl⟩) (by first | exact hHeld | assumption) ?_
          try simp only [Act.put, List.setIfInBounds_toArray, List.set_cons_zero, List.set_cons_succ]
          refine wpAnyH_take (i := 20) (oi := { dst := some 68, op := Op.fieldAddr 36 (Operand.tmp 9) 0, type := 0, pos := "law.go:165", after := #[{ on := 18, ground := Ground.guard }], guard := some (18, true) }) (v := undef) rfl (by kernel_rfl) (by kernel_rfl) (by kernel_rfl) (fun _ _ _ h => h) (Or.inr ⟨by rfl, rfl⟩) (by first | exact hHeld | assumption) ?_
          try simp only [Act.put, List.setIfInBounds_toArray, List.set_cons_zero, List.set_cons_succ]
          refine wpAnyH_take (i := 21) (oi := { dst := some 69, op := Op.indexAddr 31 (Operand.tmp 68) (Operand.tmp 67), type := 0, pos := "law.go:165", after := #[{ on := 20, ground := Ground.data }, { on := 19, ground := Ground.data }, { on := 18, ground := Ground.guard }], guard := some (18, true) }) (v := undef) rfl (by kernel_rfl) (by kernel_rfl) (by kernel_rfl) (fun _ _ _ h => h) (Or.inr ⟨by rfl, rfl⟩) (by first | exact hHeld | assumption) ?_
          try simp only [Act.put, List.setIfInBounds_toArray, List.set_cons_zero, List.set_cons_succ]
          refine wpAnyH_take (i := 22) (oi := { dst := some 70, op := Op.load 30 (Operand.tmp 69), type := 30, pos := "law.go:165", after := #[{ on := 21, ground := Ground.data }, { on := 18, ground := Ground.guard }], guard := some (18, true) }) (v := undef) rfl (by kernel_rfl) (by kernel_rfl) (by kernel_rfl) (fun _ _ _ h => h) (Or.inr ⟨by rfl, rfl⟩) (by first | exact hHeld | assumption) ?_
          try simp only [Act.put, List.setIfInBounds_toArray, List.set_cons_zero, List.set_cons_succ]
          refine wpAnyH_take (i := 23) (oi := { dst := some 71, op := Op.load 30 (Operand.tmp 5), type := 30, pos := "law.go:165", after := #[{ on := 18, ground := Ground.guard }], guard := some (18, true) }) (v := undef) rfl (by kernel_rfl) (by kernel_rfl) (by kernel_rfl) (fun _ _ _ h => h) (Or.inr ⟨by rfl, rfl⟩) (by first | exact hHeld | assumption) ?_
          try simp only [Act.put, List.setIfInBounds_toArray, List.set_cons_zero, List.set_cons_succ]
          refine wpAnyH_take (i := 24) (oi := { dst := some 72, op := Op.binOp BinOp.neq 30 (Operand.tmp 70) (Operand.tmp 71) 30, type := 4, pos := "law.go:165", after := #[{ on := 22, ground := Ground.data }, { on := 23, ground := Ground.data }, { on := 18, ground := Ground.guard }], guard := some (18, true) }) (v := undef) rfl (by kernel_rfl) (by kernel_rfl) (by kernel_rfl) (fun _ _ _ h => h) (Or.inr ⟨by rfl, rfl⟩) (by first | exact hHeld | assumption) ?_
          try simp only [Act.put, List.setIfInBounds_toArray, List.set_cons_zero, List.set_cons_succ]
          refine wpAnyH_take (i := 25) (oi := { dst := some 73, op := Op.pick (Operand.tmp 66) (Operand.tmp 72) (Operand.const (Value.bool false)), type := 4, pos := "law.go:165", after := #[{ on := 18, ground := Ground.data }, { on := 24, ground := Ground.data }, { on := 14, ground := Ground.guard }], guard := some (14, false) }) (v := ?_) rfl (by kernel_rfl) (by kernel_rfl) (by kernel_rfl) (fun _ _ _ h => h) (Or.inl ⟨by rfl, ?_⟩) (by first | exact hHeld | assumption) ?_
          rotate_left 1
          · intro w hSw; (try dsimp only at hSw); go_simp; try (with_reducible rfl)
          try simp only [Act.put, List.setIfInBounds_toArray, List.set_cons_zero, List.set_cons_succ]
          refine wpAnyH_take (i := 26) (oi := { dst := some 74, op := Op.pick (Operand.tmp 62) (Operand.const (Value.bool true)) (Operand.tmp 73), type := 4, pos := "law.go:165", after := #[{ on := 14, ground := Ground.data }, { on := 25, ground := Ground.data }], guard := none }) (v := ?_) rfl (by kernel_rfl) (by kernel_rfl) (by kernel_rfl) (fun _ _ _ h => h) (Or.inl ⟨by rfl, ?_⟩) (by first | exact hHeld | assumption) ?_
          rotate_left 1
          · intro w hSw; (try dsimp only at hSw); go_simp; try (with_reducible rfl)
          try simp only [Act.put, List.setIfInBounds_toArray, List.set_cons_zero, List.set_cons_succ]
          refine wpAnyH_done (by kernel_rfl) ?_ _
          go_wp2_with fail
          go_round
          case rel => exact ⟨j + 1, by go_num, by omega, XD⟩
          case measure => simp [intOf]; omega
      · have hj2 : j = 11 := by omega
        subst hj2
        clear X
        go_upto_region 12 with fail
        have X := Lib.hid (V.out.after (Below.drew (Below.refl _ _)))
        clear V
        refine wp_region_held_drew (S := (fun u => Blks w [(gt, stC Y, 36), (gs, stC S, 36), (w.heap.size, vCells v, 30)] u)) (by kernel_rfl) X.out (fun hHeld => ?_)
        generalize wr.drew = wd at *
        refine wpAnyH_take (i := 0) (oi := { dst := some 77, op := Op.load 36 (Operand.tmp 9), type := 36, pos := "law.go:169", after := #[], guard := none }) rfl (by kernel_rfl) (by kernel_rfl) (by kernel_rfl) (fun _ _ _ h => h) (st_yield (by kernel_rfl) _ rfl (g := gt) (X := Y) rfl (fun u hu => (hu.get (g := gt) (cs := stC Y) (t := 36) (by simp)))) (by exact hHeld) ?_
        try simp only [Act.put, List.setIfInBounds_toArray, List.set_cons_zero, List.set_cons_succ]
        refine wpAnyH_take (i := 1) (oi := { dst := some 78, op := Op.move (Operand.tmp 1), type := 3, pos := "law.go:169", after := #[], guard := none }) (v := ?_) rfl (by kernel_rfl) (by kernel_rfl) (by kernel_rfl) (fun _ _ _ h => h) (Or.inl ⟨by rfl, ?_⟩) (by first | exact hHeld | assumption) ?_
        rotate_left 1
        · intro w hSw; (try dsimp only at hSw); go_simp; try (with_reducible rfl)
        try simp only [Act.put, List.setIfInBounds_toArray, List.set_cons_zero, List.set_cons_succ]
        refine wpAnyH_take (i := 2) (oi := { dst := some 79, op := Op.move (Operand.tmp 1), type := 3, pos := "law.go:169", after := #[], guard := none }) (v := ?_) rfl (by kernel_rfl) (by kernel_rfl) (by kernel_rfl) (fun _ _ _ h => h) (Or.inl ⟨by rfl, ?_⟩) (by first | exact hHeld | assumption) ?_
        rotate_left 1
        · intro w hSw; (try dsimp only at hSw); go_simp; try (with_reducible rfl)
        try simp only [Act.put, List.setIfInBounds_toArray, List.set_cons_zero, List.set_cons_succ]
        refine wpAnyH_take (i := 3) (oi := { dst := some 80, op := Op.fieldAddr 36 (Operand.tmp 8) 0, type := 0, pos := "law.go:169", after := #[], guard := none }) (v := ?_) rfl (by kernel_rfl) (by kernel_rfl) (by kernel_rfl) (fun _ _ _ h => h) (Or.inl ⟨by rfl, ?_⟩) (by first | exact hHeld | assumption) ?_
        rotate_left 1
        · intro w hSw; (try dsimp only at hSw); go_simp; try (with_reducible rfl)
        try simp only [Act.put, List.setIfInBounds_toArray, List.set_cons_zero, List.set_cons_succ]
        refine wpAnyH_take (i := 4) (oi := { dst := some 81, op := Op.indexAddr 31 (Operand.tmp 80) (Operand.tmp 79), type := 0, pos := "law.go:169", after := #[{ on := 3, ground := Ground.data }, { on := 2, ground := Ground.data }], guard := none }) (v := ?_) rfl (by kernel_rfl) (by kernel_rfl) (by kernel_rfl) (fun _ _ _ h => h) (Or.inl ⟨by rfl, ?_⟩) (by first | exact hHeld | assumption) ?_
        rotate_left 1
        · intro w hSw; (try dsimp only at hSw); go_simp; try (with_reducible rfl)
        try simp only [Act.put, List.setIfInBounds_toArray, List.set_cons_zero, List.set_cons_succ]
        refine wpAnyH_take (i := 5) (oi := { dst := some 82, op := Op.load 30 (Operand.tmp 81), type := 30, pos := "law.go:169", after := #[{ on := 4, ground := Ground.data }], guard := none }) rfl (by kernel_rfl) (by kernel_rfl) (by kernel_rfl) (fun _ _ _ h => h) (vl_yield (by kernel_rfl) _ rfl (g := gs) (o := m * 7) (v := S.r m) rfl (fun u hu => st_reg (hu.get (g := gs) (cs := stC S) (t := 36) (by simp)) hm11.out (Nat.mul_comm _ _))) (by exact hHeld) ?_
        try simp only [Act.put, List.setIfInBounds_toArray, List.set_cons_zero, List.set_cons_succ]
        refine wpAnyH_ready (rs := [6, 10]) (by kernel_rfl) (by simp) ?_
        refine AllReadyH.cons (o := { dst := some 83, op := Op.call { callee := Callee.value (Operand.func 19), args := #[Operand.tmp 77, Operand.tmp 78, Operand.tmp 82], argTypes := #[36, 3, 30] }, type := 45, pos := "law.go:169", after := #[{ on := 0, ground := Ground.data }, { on := 1, ground := Ground.data }, { on := 5, ground := Ground.data }], guard := none }) rfl (fun K hK => ?_) (AllReadyH.cons (o := { dst := some 12, op := Op.alloc 36, type := 0, pos := "law.go:169", after := #[], guard := none }) rfl (fun K hK => ?_) AllReadyH.nil)
        · skip
          go_simp
          refine (S2.out _).mono ?_; rintro e u1 ⟨rfl, b1⟩
          replace X := Lib.hid (X.out.after b1)
          clear b1 S2
          go_wp2_with fail
          refine hK.out _ _ X.out (fun hHeld => ?_)
          clear hK K
          try simp only [Act.put, List.setIfInBounds_toArray, List.set_cons_zero, List.set_cons_succ]
          refine wpAnyH_take (i := 7) (oi := { dst := some 76, op := Op.move (Operand.tmp 83), type := 45, pos := "law.go:169", after := #[{ on := 6, ground := Ground.data }], guard := none }) (v := ?_) rfl (by kernel_rfl) (by kernel_rfl) (by kernel_rfl) (fun _ _ _ h => h) (Or.inl ⟨by rfl, ?_⟩) (by first | exact hHeld | assumption) ?_
          rotate_left 1
          · intro w hSw; (try dsimp only at hSw); go_simp; try (with_reducible rfl)
          try simp only [Act.put, List.setIfInBounds_toArray, List.set_cons_zero, List.set_cons_succ]
          refine wpAnyH_take (i := 8) (oi := { dst := some 84, op := Op.extract (Operand.tmp 76) 0, type := 36, pos := "law.go:169", after := #[{ on := 7, ground := Ground.data }], guard := none }) (v := ?_) rfl (by kernel_rfl) (by kernel_rfl) (by kernel_rfl) (fun _ _ _ h => h) (Or.inl ⟨by rfl, ?_⟩) (by first | exact hHeld | assumption) ?_
          rotate_left 1
          · intro w hSw; (try dsimp only at hSw); go_simp; try (with_reducible rfl)
          try simp only [Act.put, List.setIfInBounds_toArray, List.set_cons_zero, List.set_cons_succ]
          refine wpAnyH_take (i := 9) (oi := { dst := some 85, op := Op.extract (Operand.tmp 76) 1, type := 44, pos := "law.go:169", after := #[{ on := 7, ground := Ground.data }, { on := 11, ground := Ground.gcOnly Departure.lateStores }], guard := none }) (v := ?_) rfl (by kernel_rfl) (by kernel_rfl) (by kernel_rfl) (fun _ _ _ h => h) (Or.inl ⟨by rfl, ?_⟩) (by first | exact hHeld | assumption) ?_
          rotate_left 1
          · intro w hSw; (try dsimp only at hSw); go_simp; try (with_reducible rfl)
          try simp only [Act.put, List.setIfInBounds_toArray, List.set_cons_zero, List.set_cons_succ]
          refine wpAnyH_ready (rs := [10]) (by kernel_rfl) (by simp) ?_
          refine AllReadyH.cons (o := { dst := some 12, op := Op.alloc 36, type := 0, pos := "law.go:169", after := #[], guard := none }) rfl (fun K hK => ?_) AllReadyH.nil
          · skip
            go_simp
            have NZ : Hid (stB u1.heap.size stZ (u1.alloc (.cells Try.zeroCells36 36))) := Lib.hid (stB.newz u1 rfl)
            have hgu := Lib.hid (Blk.lt (X.out.get (g := gt) (cs := stC Y) (t := 36) (by simp)))
            replace X := Lib.hid (X.out.alloc (.cells Try.zeroCells36 36))
            refine hK.out _ _ X.out (fun hHeld => ?_)
            clear hK K
            try simp only [Act.put, List.setIfInBounds_toArray, List.set_cons_zero, List.set_cons_succ]
            refine wpAnyH_ready (rs := [11]) (by kernel_rfl) (by simp) ?_
            refine AllReadyH.cons (o := { dst := none, op := Op.store 36 (Operand.tmp 12) (Operand.tmp 84), type := 0, pos := "law.go:169", after := #[{ on := 10, ground := Ground.data }, { on := 8, ground := Ground.data }, { on := 6, ground := Ground.chain }, { on := 0, ground := Ground.phase }, { on := 1, ground := Ground.phase }, { on := 2, ground := Ground.phase }, { on := 3, ground := Ground.phase }, { on := 4, ground := Ground.phase }, { on := 5, ground := Ground.phase }, { on := 6, ground := Ground.phase }, { on := 7, ground := Ground.phase }, { on := 8, ground := Ground.phase }, { on := 9, ground := Ground.textOnly Departure.lateStores }, { on := 10, ground := Ground.phase }], guard := none }) rfl (fun K hK => ?_) AllReadyH.nil
            · skip
              refine st_store_op _ _ rfl rfl rfl NZ.out ?_
              have X9 := Lib.hid (Blks.row (k := u1.heap.size) (l := [(gt, stC Y, 36), (gs, stC S, 36), (w.heap.size, vCells v, 30)]) ⟨X.out.1, fun p hp => by
                rcases List.mem_cons.mp hp with rfl | hp
                · exact NZ.out
                · exact X.out.2 p hp⟩ (by have := hgs.out; have := hgt.out; have := hgu.out; omega) (by have := hgs.out; have := hgt.out; have := hgu.out; simp; omega) (stC S))
              replace X := Lib.hid (X9.out.pick (l' := [(gt, stC Y, 36), (gs, stC S, 36), (w.heap.size, vCells v, 30)]) (by intro p hp; exact List.mem_cons_of_mem _ hp))
              refine hK.out _ _ X.out (fun hHeld => ?_)
              clear hK K
              try simp only [Act.put, List.setIfInBounds_toArray, List.set_cons_zero, List.set_cons_succ]
              refine wpAnyH_take (i := 12) (oi := { dst := some 13, op := Op.assign (Operand.tmp 85), type := 44, pos := "law.go:169", after := #[{ on := 9, ground := Ground.data }, { on := 11, ground := Ground.chain }, { on := 0, ground := Ground.phase }, { on := 1, ground := Ground.phase }, { on := 2, ground := Ground.phase }, { on := 3, ground := Ground.phase }, { on := 4, ground := Ground.phase }, { on := 5, ground := Ground.phase }, { on := 6, ground := Ground.phase }, { on := 7, ground := Ground.phase }, { on := 8, ground := Ground.phase }, { on := 9, ground := Ground.phase }, { on := 10, ground := Ground.phase }, { on := 11, ground := Ground.phase }], guard := none }) (v := ?_) rfl (by kernel_rfl) (by kernel_rfl) (by kernel_rfl) (fun _ _ _ h => h) (Or.inl ⟨by rfl, ?_⟩) (by first | exact hHeld | assumption) ?_
              rotate_left 1
              · intro w hSw; (try dsimp only at hSw); go_simp; try (with_reducible rfl)
              try simp only [Act.put, List.setIfInBounds_toArray, List.set_cons_zero, List.set_cons_succ]
              refine wpAnyH_done (by kernel_rfl) ?_ _
              clear X hHeld NZ
              generalize (u1.alloc (.cells Try.zeroCells36 36)).setRow u1.heap.size (stC S) = w7 at *
              generalize u1.heap.size = gu at *
              have LU : Hid (stB gu S w7) := Lib.hid (X9.out.get (g := gu) (cs := stC S) (t := 36) (by simp))
              have LT : Hid (stB gt Y w7) := Lib.hid (X9.out.get (g := gt) (cs := stC Y) (t := 36) (by simp))
              have LS : Hid (stB gs S w7) := Lib.hid (X9.out.get (g := gs) (cs := stC S) (t := 36) (by simp))
              go_wp2_with (first | (refine st_load_w (by kernel_rfl) _ rfl rfl LU.out ?_) | (refine st_load_w (by kernel_rfl) _ rfl rfl LS.out ?_) | (refine st_loadz_w (by kernel_rfl) _ rfl rfl LT.out ?_) | (refine st_loadz_w (by kernel_rfl) _ rfl rfl LS.out ?_) | (refine wpList_value_w (by kernel_rfl) (x_slots_eq (X := S) rfl ZY.out rfl) ?_) | (refine wpList_value_w (by kernel_rfl) (x_st_eq (X := S) rfl rfl rfl) ?_) | fail)
              go_ret
              exact ⟨rfl, X9.out.1⟩
        · skip
          go_simp
          have NZ : Hid (stB wd.heap.size stZ (wd.alloc (.cells Try.zeroCells36 36))) := Lib.hid (stB.newz wd rfl)
          have hgu := Lib.hid (Blk.lt (X.out.get (g := gt) (cs := stC Y) (t := 36) (by simp)))
          replace X := Lib.hid (X.out.alloc (.cells Try.zeroCells36 36))
          refine hK.out _ _ X.out (fun hHeld => ?_)
          clear hK K
          try simp only [Act.put, List.setIfInBounds_toArray, List.set_cons_zero, List.set_cons_succ]
          refine wpAnyH_ready (rs := [6]) (by kernel_rfl) (by simp) ?_
          refine AllReadyH.cons (o := { dst := some 83, op := Op.call { callee := Callee.value (Operand.func 19), args := #[Operand.tmp 77, Operand.tmp 78, Operand.tmp 82], argTypes := #[36, 3, 30] }, type := 45, pos := "law.go:169", after := #[{ on := 0, ground := Ground.data }, { on := 1, ground := Ground.data }, { on := 5, ground := Ground.data }], guard := none }) rfl (fun K hK => ?_) AllReadyH.nil
          · skip
            go_simp
            refine (S2.out _).mono ?_; rintro e u1 ⟨rfl, b1⟩
            replace NZ := Lib.hid (NZ.out.after b1)
            replace X := Lib.hid (X.out.after b1)
            clear b1 S2
            go_wp2_with fail
            refine hK.out _ _ X.out (fun hHeld => ?_)
            clear hK K
            try simp only [Act.put, List.setIfInBounds_toArray, List.set_cons_zero, List.set_cons_succ]
            refine wpAnyH_take (i := 7) (oi := { dst := some 76, op := Op.move (Operand.tmp 83), type := 45, pos := "law.go:169", after := #[{ on := 6, ground := Ground.data }], guard := none }) (v := ?_) rfl (by kernel_rfl) (by kernel_rfl) (by kernel_rfl) (fun _ _ _ h => h) (Or.inl ⟨by rfl, ?_⟩) (by first | exact hHeld | assumption) ?_
            rotate_left 1
            · intro w hSw; (try dsimp only at hSw); go_simp; try (with_reducible rfl)
            try simp only [Act.put, List.setIfInBounds_toArray, List.set_cons_zero, List.set_cons_succ]
            refine wpAnyH_take (i := 8) (oi := { dst := some 84, op := Op.extract (Operand.tmp 76) 0, type := 36, pos := "law.go:169", after := #[{ on := 7, ground := Ground.data }], guard := none }) (v := ?_) rfl (by kernel_rfl) (by kernel_rfl) (by kernel_rfl) (fun _ _ _ h => h) (Or.inl ⟨by rfl, ?_⟩) (by first | exact hHeld | assumption) ?_
            rotate_left 1
            · intro w hSw; (try dsimp only at hSw); go_simp; try (with_reducible rfl)
            try simp only [Act.put, List.setIfInBounds_toArray, List.set_cons_zero, List.set_cons_succ]
            refine wpAnyH_take (i := 9) (oi := { dst := some 85, op := Op.extract (Operand.tmp 76) 1, type := 44, pos := "law.go:169", after := #[{ on := 7, ground := Ground.data }, { on := 11, ground := Ground.gcOnly Departure.lateStores }], guard := none }) (v := ?_) rfl (by kernel_rfl) (by kernel_rfl) (by kernel_rfl) (fun _ _ _ h => h) (Or.inl ⟨by rfl, ?_⟩) (by first | exact hHeld | assumption) ?_
            rotate_left 1
            · intro w hSw; (try dsimp only at hSw); go_simp; try (with_reducible rfl)
            try simp only [Act.put, List.setIfInBounds_toArray, List.set_cons_zero, List.set_cons_succ]
            refine wpAnyH_ready (rs := [11]) (by kernel_rfl) (by simp) ?_
            refine AllReadyH.cons (o := { dst := none, op := Op.store 36 (Operand.tmp 12) (Operand.tmp 84), type := 0, pos := "law.go:169", after := #[{ on := 10, ground := Ground.data }, { on := 8, ground := Ground.data }, { on := 6, ground := Ground.chain }, { on := 0, ground := Ground.phase }, { on := 1, ground := Ground.phase }, { on := 2, ground := Ground.phase }, { on := 3, ground := Ground.phase }, { on := 4, ground := Ground.phase }, { on := 5, ground := Ground.phase }, { on := 6, ground := Ground.phase }, { on := 7, ground := Ground.phase }, { on := 8, ground := Ground.phase }, { on := 9, ground := Ground.textOnly Departure.lateStores }, { on := 10, ground := Ground.phase }], guard := none }) rfl (fun K hK => ?_) AllReadyH.nil
            · skip
              refine st_store_op _ _ rfl rfl rfl NZ.out ?_
              have X9 := Lib.hid (Blks.row (k := wd.heap.size) (l := [(gt, stC Y, 36), (gs, stC S, 36), (w.heap.size, vCells v, 30)]) ⟨X.out.1, fun p hp => by
                rcases List.mem_cons.mp hp with rfl | hp
                · exact NZ.out
                · exact X.out.2 p hp⟩ (by have := hgs.out; have := hgt.out; have := hgu.out; omega) (by have := hgs.out; have := hgt.out; have := hgu.out; simp; omega) (stC S))
              replace X := Lib.hid (X9.out.pick (l' := [(gt, stC Y, 36), (gs, stC S, 36), (w.heap.size, vCells v, 30)]) (by intro p hp; exact List.mem_cons_of_mem _ hp))
              refine hK.out _ _ X.out (fun hHeld => ?_)
              clear hK K
              try simp only [Act.put, List.setIfInBounds_toArray, List.set_cons_zero, List.set_cons_succ]
              refine wpAnyH_take (i := 12) (oi := { dst := some 13, op := Op.assign (Operand.tmp 85), type := 44, pos := "law.go:169", after := #[{ on := 9, ground := Ground.data }, { on := 11, ground := Ground.chain }, { on := 0, ground := Ground.phase }, { on := 1, ground := Ground.phase }, { on := 2, ground := Ground.phase }, { on := 3, ground := Ground.phase }, { on := 4, ground := Ground.phase }, { on := 5, ground := Ground.phase }, { on := 6, ground := Ground.phase }, { on := 7, ground := Ground.phase }, { on := 8, ground := Ground.phase }, { on := 9, ground := Ground.phase }, { on := 10, ground := Ground.phase }, { on := 11, ground := Ground.phase }], guard := none }) (v := ?_) rfl (by kernel_rfl) (by kernel_rfl) (by kernel_rfl) (fun _ _ _ h => h) (Or.inl ⟨by rfl, ?_⟩) (by first | exact hHeld | assumption) ?_
              rotate_left 1
              · intro w hSw; (try dsimp only at hSw); go_simp; try (with_reducible rfl)
              try simp only [Act.put, List.setIfInBounds_toArray, List.set_cons_zero, List.set_cons_succ]
              refine wpAnyH_done (by kernel_rfl) ?_ _
              clear X hHeld NZ
              generalize u1.setRow wd.heap.size (stC S) = w7 at *
              generalize wd.heap.size = gu at *
              have LU : Hid (stB gu S w7) := Lib.hid (X9.out.get (g := gu) (cs := stC S) (t := 36) (by simp))
              have LT : Hid (stB gt Y w7) := Lib.hid (X9.out.get (g := gt) (cs := stC Y) (t := 36) (by simp))
              have LS : Hid (stB gs S w7) := Lib.hid (X9.out.get (g := gs) (cs := stC S) (t := 36) (by simp))
              go_wp2_with (first | (refine st_load_w (by kernel_rfl) _ rfl rfl LU.out ?_) | (refine st_load_w (by kernel_rfl) _ rfl rfl LS.out ?_) | (refine st_loadz_w (by kernel_rfl) _ rfl rfl LT.out ?_) | (refine st_loadz_w (by kernel_rfl) _ rfl rfl LS.out ?_) | (refine wpList_value_w (by kernel_rfl) (x_slots_eq (X := S) rfl ZY.out rfl) ?_) | (refine wpList_value_w (by kernel_rfl) (x_st_eq (X := S) rfl rfl rfl) ?_) | fail)
              go_ret
              exact ⟨rfl, X9.out.1⟩
  · obtain ⟨hY0, hwhy⟩ := setE_why SR.out hE
    obtain ⟨Y, hY⟩ : ∃ Y, Y = stZ := ⟨_, rfl⟩
    rw [hY0, ← hY] at SE
    replace hY := Lib.hid hY
    generalize setE S i v = E at *
    have hE' : (E != 0) = true := by simpa using hE
    clear hE hY0 SR SI
    rcases hwhy with k1 | ⟨k1, k2⟩ | ⟨k1, k2, k3⟩
    · skip
      go_enter Try.func9, Try.ntmps9
      go_wp2_with fail
      refine (SH.out _).mono ?_; rintro e w1 ⟨rfl, b1⟩
      have X := Lib.hid (((Blks.start w).new (vCells v) 30).after b1)
      clear b1
      go_wp2_with fail
      refine (MD.out _ X.out.1).mono ?_; rintro e w2 ⟨rfl, b2⟩
      replace X := Lib.hid (X.out.after b2)
      clear b2 MD
      have hgs := Lib.hid (Blk.lt (X.out.get (g := w.heap.size) (cs := vCells v) (t := 30) (by simp)))
      replace X := Lib.hid ((X.out.new Try.zeroCells36 36).row (by have := hgs.out; omega) (by have := hgs.out; simp; omega) (stC S))
      have N2 : Hid (stB w2.heap.size stZ (w2.alloc (.cells Try.zeroCells36 36))) := Lib.hid (stB.newz w2 rfl)
      go_upto_region 3 with (refine st_store rfl _ _ rfl rfl rfl N2.out ?_)
      clear N2
      generalize (w2.alloc (.cells Try.zeroCells36 36)).setRow w2.heap.size (stC S) = wx at *
      generalize w2.heap.size = gs at *
      have LS : Hid (stB gs S wx) := Lib.hid (X.out.get (g := gs) (cs := stC S) (t := 36) (by simp))
      obtain ⟨c0, c1, c2, c3, c4, c5, c6⟩ := vB.cells (X.out.get (g := w.heap.size) (cs := vCells v) (t := 30) (by simp))
      go_wp2_with (first | (refine st_load rfl _ rfl rfl LS.out ?_) | fail)
      refine (SE.out _).mono ?_; rintro e w4 ⟨rfl, b4⟩
      replace X := Lib.hid (X.out.after b4)
      clear b4 LS SE c0 c1 c2 c3 c4 c5 c6
      have hgt := Lib.hid (Blk.lt (X.out.get (g := gs) (cs := stC S) (t := 36) (by simp)))
      replace X := Lib.hid ((X.out.new Try.zeroCells36 36).row (by have := hgs.out; have := hgt.out; omega) (by have := hgs.out; have := hgt.out; simp; omega) (stC Y))
      have N2 : Hid (stB w4.heap.size stZ (w4.alloc (.cells Try.zeroCells36 36))) := Lib.hid (stB.newz w4 rfl)
      go_upto_region 4 with (refine st_store rfl _ _ rfl rfl rfl N2.out ?_)
      clear N2
      generalize (w4.alloc (.cells Try.zeroCells36 36)).setRow w4.heap.size (stC Y) = wx at *
      generalize w4.heap.size = gt at *
      have LT : Hid (stB gt stZ wx) := Lib.hid (by rw [← hY.out]; exact (X.out.get (g := gt) (cs := stC Y) (t := 36) (by simp)))
      skip
      go_wp2_with (first | (refine st_load_w (by kernel_rfl) _ rfl rfl LT.out ?_) | (refine wpList_value_w (by kernel_rfl) (x_st_eq (X := stZ) rfl rfl (by show Value.agg Try.zeroCells36 = stV stZ; rw [stZ_cells])) ?_) | fail)
      go_ret
      exact ⟨rfl, X.out.1⟩
    · have k3 : ¬ i < 0 := by omega
      go_enter Try.func9, Try.ntmps9
      go_wp2_with fail
      refine (SH.out _).mono ?_; rintro e w1 ⟨rfl, b1⟩
      have X := Lib.hid (((Blks.start w).new (vCells v) 30).after b1)
      clear b1
      go_wp2_with fail
      refine (MD.out _ X.out.1).mono ?_; rintro e w2 ⟨rfl, b2⟩
      replace X := Lib.hid (X.out.after b2)
      clear b2 MD
      have hgs := Lib.hid (Blk.lt (X.out.get (g := w.heap.size) (cs := vCells v) (t := 30) (by simp)))
      replace X := Lib.hid ((X.out.new Try.zeroCells36 36).row (by have := hgs.out; omega) (by have := hgs.out; simp; omega) (stC S))
      have N2 : Hid (stB w2.heap.size stZ (w2.alloc (.cells Try.zeroCells36 36))) := Lib.hid (stB.newz w2 rfl)
      go_upto_region 3 with (refine st_store rfl _ _ rfl rfl rfl N2.out ?_)
      clear N2
      generalize (w2.alloc (.cells Try.zeroCells36 36)).setRow w2.heap.size (stC S) = wx at *
      generalize w2.heap.size = gs at *
      have LS : Hid (stB gs S wx) := Lib.hid (X.out.get (g := gs) (cs := stC S) (t := 36) (by simp))
      obtain ⟨c0, c1, c2, c3, c4, c5, c6⟩ := vB.cells (X.out.get (g := w.heap.size) (cs := vCells v) (t := 30) (by simp))
      go_wp2_with (first | (refine st_load rfl _ rfl rfl LS.out ?_) | fail)
      refine (SE.out _).mono ?_; rintro e w4 ⟨rfl, b4⟩
      replace X := Lib.hid (X.out.after b4)
      clear b4 LS SE c0 c1 c2 c3 c4 c5 c6
      have hgt := Lib.hid (Blk.lt (X.out.get (g := gs) (cs := stC S) (t := 36) (by simp)))
      replace X := Lib.hid ((X.out.new Try.zeroCells36 36).row (by have := hgs.out; have := hgt.out; omega) (by have := hgs.out; have := hgt.out; simp; omega) (stC Y))
      have N2 : Hid (stB w4.heap.size stZ (w4.alloc (.cells Try.zeroCells36 36))) := Lib.hid (stB.newz w4 rfl)
      go_upto_region 4 with (refine st_store rfl _ _ rfl rfl rfl N2.out ?_)
      clear N2
      generalize (w4.alloc (.cells Try.zeroCells36 36)).setRow w4.heap.size (stC Y) = wx at *
      generalize w4.heap.size = gt at *
      have LT : Hid (stB gt stZ wx) := Lib.hid (by rw [← hY.out]; exact (X.out.get (g := gt) (cs := stC Y) (t := 36) (by simp)))
      skip
      go_wp2_with (first | (refine st_load_w (by kernel_rfl) _ rfl rfl LT.out ?_) | (refine wpList_value_w (by kernel_rfl) (x_st_eq (X := stZ) rfl rfl (by show Value.agg Try.zeroCells36 = stV stZ; rw [stZ_cells])) ?_) | fail)
      go_ret
      exact ⟨rfl, X.out.1⟩
    · have k4 : ¬ i < 0 := by omega
      have k5 : ¬ 10 < i := by omega
      rw [k3] at VR
      go_enter Try.func9, Try.ntmps9
      go_wp2_with fail
      refine (SH.out _).mono ?_; rintro e w1 ⟨rfl, b1⟩
      have X := Lib.hid (((Blks.start w).new (vCells v) 30).after b1)
      clear b1
      go_wp2_with fail
      refine (MD.out _ X.out.1).mono ?_; rintro e w2 ⟨rfl, b2⟩
      replace X := Lib.hid (X.out.after b2)
      clear b2 MD
      have hgs := Lib.hid (Blk.lt (X.out.get (g := w.heap.size) (cs := vCells v) (t := 30) (by simp)))
      replace X := Lib.hid ((X.out.new Try.zeroCells36 36).row (by have := hgs.out; omega) (by have := hgs.out; simp; omega) (stC S))
      have N2 : Hid (stB w2.heap.size stZ (w2.alloc (.cells Try.zeroCells36 36))) := Lib.hid (stB.newz w2 rfl)
      go_upto_region 3 with (refine st_store rfl _ _ rfl rfl rfl N2.out ?_)
      clear N2
      generalize (w2.alloc (.cells Try.zeroCells36 36)).setRow w2.heap.size (stC S) = wx at *
      generalize w2.heap.size = gs at *
      have LS : Hid (stB gs S wx) := Lib.hid (X.out.get (g := gs) (cs := stC S) (t := 36) (by simp))
      obtain ⟨c0, c1, c2, c3, c4, c5, c6⟩ := vB.cells (X.out.get (g := w.heap.size) (cs := vCells v) (t := 30) (by simp))
      go_wp2_with (first | (refine st_load rfl _ rfl rfl LS.out ?_) | fail)
      refine (SE.out _).mono ?_; rintro e w4 ⟨rfl, b4⟩
      replace X := Lib.hid (X.out.after b4)
      clear b4 LS SE c0 c1 c2 c3 c4 c5 c6
      have hgt := Lib.hid (Blk.lt (X.out.get (g := gs) (cs := stC S) (t := 36) (by simp)))
      replace X := Lib.hid ((X.out.new Try.zeroCells36 36).row (by have := hgs.out; have := hgt.out; omega) (by have := hgs.out; have := hgt.out; simp; omega) (stC Y))
      have N2 : Hid (stB w4.heap.size stZ (w4.alloc (.cells Try.zeroCells36 36))) := Lib.hid (stB.newz w4 rfl)
      go_upto_region 4 with (refine st_store rfl _ _ rfl rfl rfl N2.out ?_)
      clear N2
      generalize (w4.alloc (.cells Try.zeroCells36 36)).setRow w4.heap.size (stC Y) = wx at *
      generalize w4.heap.size = gt at *
      obtain ⟨c0, c1, c2, c3, c4, c5, c6⟩ := vB.cells (X.out.get (g := w.heap.size) (cs := vCells v) (t := 30) (by simp))
      have LT : Hid (stB gt stZ wx) := Lib.hid (by rw [← hY.out]; exact (X.out.get (g := gt) (cs := stC Y) (t := 36) (by simp)))
      skip
      go_wp2_with (first | (refine st_load_w (by kernel_rfl) _ rfl rfl LT.out ?_) | (refine wpList_value_w (by kernel_rfl) (x_st_eq (X := stZ) rfl rfl (by show Value.agg Try.zeroCells36 = stV stZ; rw [stZ_cells])) ?_) | fail)
      refine (VR.out _).mono ?_; rintro e w9 ⟨rfl, b9⟩
      replace X := Lib.hid (X.out.after b9)
      clear b9
      go_wp2_with fail
      go_ret
      exact ⟨rfl, X.out.1⟩

end Go.Proofs.Ytdgckjkdimnpoaa

namespace Go.Proofs.Ytdgckjkdimnpoaa
open Go.ChangeShapes Go.WideShapes Go.ChangeAt Go.RowKit
set_option linter.unusedVariables false

set_option maxRecDepth 100000 in
theorem ssets_lifted (os : Os) (started : os.Started) (H : Type) (enc : TypeId × Value → H) :
    ReturnsInHanded {} Try.checked os 9 .any (Rows.stateSetsSpec.pre6 enc Try.prog Try.f9 Rows.stateSetsRow.domain false) (Rows.stateSetsSpec.post enc Try.prog Try.f9 false true false false) := by
  refine law_lifted (C := Try.checked) own_none started (by kernel_rfl) Try.func9
    (ChangeSpec.witness6 (enc := enc) (C := Try.checked) false ⟨#[], #[.slice none 0 0, .int .i64 0, .agg #[.int .u8 0, .int .u64 0, .int .u64 0, .int .u64 0, .int .u64 0, .int .i64 0, .int .i64 0]], []⟩ 8 (by kernel_rfl) (by kernel_rfl) (by kernel_rfl) (by kernel_rfl))
    laid_out rfl rfl Try.underlying4 (by kernel_rfl) (fun ds hd => by match ds, hd with | [d1, d2, d3], _ => rfl) ?_
  intro W base args ds p hval hA
  rw [Try.params9] at hval hA
  obtain ⟨v0, v1, v2, d0, d1, d2, p0, p1, p2, rfl, rfl, rfl, h0, h1, h2⟩ := trodAll_three hA
  obtain ⟨A, c, l, rfl, wl, vl, hc, hm⟩ := open_sacts (hval 0 _ _ rfl rfl) h0
  obtain ⟨i, rfl, _, _, wi⟩ := open_int Try.underlying3 (hval 1 _ _ rfl rfl) h1
  obtain ⟨v, rfl, wv⟩ := open_val (hval 2 _ _ rfl rfl) h2
  exact ssets_walk A c l i v W wl vl hc hm (bounds_i64 wi) wv

theorem ssets_holds : Rows.StateSetsSaid :=
  OpenClaim.holds_of_wide 9 Try.f9 rfl rfl rfl rfl rfl rfl rfl ⟨rfl, rfl, rfl, rfl, rfl⟩ rfl rfl rfl rfl rfl (by kernel_rfl) Try.func9 (by kernel_rfl)
    (of_decide_eq_true (by kernel_rfl)) (by unfold Func.isWrapper; first | (rw [if_pos (by decide +kernel)]; kernel_rfl) | (rw [if_neg (by decide +kernel)]; exact ⟨rfl, rfl⟩))
    (fun os started H enc _ => ssets_lifted os started H enc)

#print axioms ssets_holds
end Go.Proofs.Ytdgckjkdimnpoaa
