/-
  The statement StateRaw: for every state and act, the law returns true, and its arguments read as they did.
  Conditions: none beyond the row's own.
-/
import Derived.Deep.RegionHeld
import Derived.Test.YtdgckjkdimnpoaaMl12

namespace Go.Proofs.Ytdgckjkdimnpoaa
open Go Go.RowKit
set_option maxRecDepth 100000
set_option linter.unusedVariables false
set_option linter.unusedSimpArgs false

set_option maxHeartbeats 8000000 in
theorem sraw_walk (s : St) (a : Sa) (w : World) (hs : stIn s) (ha : saIn a) : Calls Try.prog 5 #[stV s, saV a] w (Gives (.bool true) w) := by
  have SH := Lib.hid l13_shown
  have PU := Lib.hid fun w => sp_Put s a.o a.z a.v w hs ha.2.2.2 ha.2.1
  have RP := Lib.hid fun w => sr_Put s a.o a.z a.v w hs ha.2.2.2 ha.2.1
  have GE := Lib.hid fun w => sp_Get s a.o a.z w hs ha.2.1
  have RG := Lib.hid fun w => sr_Get s a.o a.z w hs ha.2.1
  have SE := Lib.hid fun w => sp_set s a.o a.v w hs ha.2.2.2
  have RS := Lib.hid fun w => sr_set s a.o a.v w hs ha.2.2.2
  have FU := Lib.hid fun w => sp_Full s a.o a.z w hs ha.2.1 ha.2.2.1
  have RF := Lib.hid fun w => sr_Full s a.o a.z w hs
  generalize full s a.o a.z = R at *
  generalize putY s a.o a.z a.v = Y1 at *
  generalize putE s a.o a.z a.v = E1 at *
  generalize getY s a.o a.z = V1 at *
  generalize getE s a.o a.z = E2 at *
  generalize setX s a.o a.v = Y2 at *
  generalize setE s a.o a.v = E3 at *
  go_enter Try.func5, Try.ntmps5
  go_upto_region 1 with fail
  have X := Lib.hid (((Blks.start w).new (stC s) 36).new (saC a) 43)
  have hz : (w.alloc (.cells (stC s) 36)).heap.size = w.heap.size + 1 := by simp
  rw [hz] at X
  clear hz
  generalize (w.alloc (.cells (stC s) 36)).alloc (.cells (saC a) 43) = wx at *
  obtain ⟨ga, hga⟩ : ∃ ga, ga = w.heap.size + 1 := ⟨_, rfl⟩
  rw [← hga]
  rw [← hga] at X
  replace hga := Lib.hid hga
  have LS : Hid (stB w.heap.size s wx) := Lib.hid (X.out.get (g := w.heap.size) (cs := stC s) (t := 36) (by simp))
  obtain ⟨c0, c1, c2, c3, c4, c5, c6, c7, c8, c9⟩ := saB_cells (X.out.get (g := ga) (cs := saC a) (t := 43) (by simp))
  go_wp2_with (first | (refine st_load rfl _ rfl rfl LS.out ?_) | fail)
  refine (PU.out _).mono ?_; rintro e w1 ⟨rfl, b1⟩
  replace X := Lib.hid (X.out.after b1)
  clear b1 LS PU c0 c1 c2 c3 c4 c5 c6 c7 c8 c9
  have hgt := Lib.hid (Blk.lt (X.out.get (g := ga) (cs := saC a) (t := 43) (by simp)))
  replace X := Lib.hid ((X.out.new Try.zeroCells36 36).row (by have := hga.out; have := hgt.out; omega) (by have := hga.out; have := hgt.out; simp; omega) (stC Y1))
  have N2 : Hid (stB w1.heap.size stZ (w1.alloc (.cells Try.zeroCells36 36))) := Lib.hid (stB.newz w1 rfl)
  go_upto_region 2 with (refine st_store rfl _ _ rfl rfl rfl N2.out ?_)
  clear N2
  generalize (w1.alloc (.cells Try.zeroCells36 36)).setRow w1.heap.size (stC Y1) = wx at *
  generalize w1.heap.size = gt at *
  have LS : Hid (stB w.heap.size s wx) := Lib.hid (X.out.get (g := w.heap.size) (cs := stC s) (t := 36) (by simp))
  obtain ⟨c0, c1, c2, c3, c4, c5, c6, c7, c8, c9⟩ := saB_cells (X.out.get (g := ga) (cs := saC a) (t := 43) (by simp))
  go_wp2_with (first | (refine st_load rfl _ rfl rfl LS.out ?_) | fail)
  refine (RP.out _).mono ?_; rintro e w1 ⟨rfl, b1⟩
  replace X := Lib.hid (X.out.after b1)
  clear b1 LS RP c0 c1 c2 c3 c4 c5 c6 c7 c8 c9
  have hgu := Lib.hid (Blk.lt (X.out.get (g := gt) (cs := stC Y1) (t := 36) (by simp)))
  replace X := Lib.hid ((X.out.new Try.zeroCells36 36).row (by have := hga.out; have := hgt.out; have := hgu.out; omega) (by have := hga.out; have := hgt.out; have := hgu.out; simp; omega) (stC Y1))
  have N2 : Hid (stB w1.heap.size stZ (w1.alloc (.cells Try.zeroCells36 36))) := Lib.hid (stB.newz w1 rfl)
  go_upto_region 3 with (refine st_store rfl _ _ rfl rfl rfl N2.out ?_)
  clear N2
  generalize (w1.alloc (.cells Try.zeroCells36 36)).setRow w1.heap.size (stC Y1) = wx at *
  generalize w1.heap.size = gu at *
  have LS : Hid (stB w.heap.size s wx) := Lib.hid (X.out.get (g := w.heap.size) (cs := stC s) (t := 36) (by simp))
  obtain ⟨c0, c1, c2, c3, c4, c5, c6, c7, c8, c9⟩ := saB_cells (X.out.get (g := ga) (cs := saC a) (t := 43) (by simp))
  go_wp2_with (first | (refine st_load rfl _ rfl rfl LS.out ?_) | fail)
  refine (GE.out _).mono ?_; rintro e w1 ⟨rfl, b1⟩
  replace X := Lib.hid (X.out.after b1)
  clear b1 LS GE c0 c1 c2 c3 c4 c5 c6 c7 c8 c9
  have hgv := Lib.hid (Blk.lt (X.out.get (g := gu) (cs := stC Y1) (t := 36) (by simp)))
  replace X := Lib.hid (X.out.new (vCells V1) 30)
  go_upto_region 4 with fail
  generalize w1.alloc (.cells (vCells V1) 30) = wx at *
  generalize w1.heap.size = gv at *
  have LS : Hid (stB w.heap.size s wx) := Lib.hid (X.out.get (g := w.heap.size) (cs := stC s) (t := 36) (by simp))
  obtain ⟨c0, c1, c2, c3, c4, c5, c6, c7, c8, c9⟩ := saB_cells (X.out.get (g := ga) (cs := saC a) (t := 43) (by simp))
  go_wp2_with (first | (refine st_load rfl _ rfl rfl LS.out ?_) | fail)
  refine (RG.out _).mono ?_; rintro e w1 ⟨rfl, b1⟩
  replace X := Lib.hid (X.out.after b1)
  clear b1 LS RG c0 c1 c2 c3 c4 c5 c6 c7 c8 c9
  have hgx := Lib.hid (Blk.lt (X.out.get (g := gv) (cs := vCells V1) (t := 30) (by simp)))
  replace X := Lib.hid (X.out.new (vCells V1) 30)
  go_upto_region 5 with fail
  generalize w1.alloc (.cells (vCells V1) 30) = wx at *
  generalize w1.heap.size = gx at *
  have LS : Hid (stB w.heap.size s wx) := Lib.hid (X.out.get (g := w.heap.size) (cs := stC s) (t := 36) (by simp))
  obtain ⟨c0, c1, c2, c3, c4, c5, c6, c7, c8, c9⟩ := saB_cells (X.out.get (g := ga) (cs := saC a) (t := 43) (by simp))
  go_wp2_with (first | (refine st_load rfl _ rfl rfl LS.out ?_) | fail)
  refine (SE.out _).mono ?_; rintro e w1 ⟨rfl, b1⟩
  replace X := Lib.hid (X.out.after b1)
  clear b1 LS SE c0 c1 c2 c3 c4 c5 c6 c7 c8 c9
  have hgy := Lib.hid (Blk.lt (X.out.get (g := gx) (cs := vCells V1) (t := 30) (by simp)))
  replace X := Lib.hid ((X.out.new Try.zeroCells36 36).row (by have := hga.out; have := hgt.out; have := hgu.out; have := hgv.out; have := hgx.out; have := hgy.out; omega) (by have := hga.out; have := hgt.out; have := hgu.out; have := hgv.out; have := hgx.out; have := hgy.out; simp; omega) (stC Y2))
  have N2 : Hid (stB w1.heap.size stZ (w1.alloc (.cells Try.zeroCells36 36))) := Lib.hid (stB.newz w1 rfl)
  go_upto_region 6 with (refine st_store rfl _ _ rfl rfl rfl N2.out ?_)
  clear N2
  generalize (w1.alloc (.cells Try.zeroCells36 36)).setRow w1.heap.size (stC Y2) = wx at *
  generalize w1.heap.size = gy at *
  have LS : Hid (stB w.heap.size s wx) := Lib.hid (X.out.get (g := w.heap.size) (cs := stC s) (t := 36) (by simp))
  obtain ⟨c0, c1, c2, c3, c4, c5, c6, c7, c8, c9⟩ := saB_cells (X.out.get (g := ga) (cs := saC a) (t := 43) (by simp))
  go_wp2_with (first | (refine st_load rfl _ rfl rfl LS.out ?_) | fail)
  refine (RS.out _).mono ?_; rintro e w1 ⟨rfl, b1⟩
  replace X := Lib.hid (X.out.after b1)
  clear b1 LS RS c0 c1 c2 c3 c4 c5 c6 c7 c8 c9
  have hgz := Lib.hid (Blk.lt (X.out.get (g := gy) (cs := stC Y2) (t := 36) (by simp)))
  replace X := Lib.hid ((X.out.new Try.zeroCells36 36).row (by have := hga.out; have := hgt.out; have := hgu.out; have := hgv.out; have := hgx.out; have := hgy.out; have := hgz.out; omega) (by have := hga.out; have := hgt.out; have := hgu.out; have := hgv.out; have := hgx.out; have := hgy.out; have := hgz.out; simp; omega) (stC Y2))
  have N2 : Hid (stB w1.heap.size stZ (w1.alloc (.cells Try.zeroCells36 36))) := Lib.hid (stB.newz w1 rfl)
  go_upto_region 7 with (refine st_store rfl _ _ rfl rfl rfl N2.out ?_)
  clear N2
  generalize (w1.alloc (.cells Try.zeroCells36 36)).setRow w1.heap.size (stC Y2) = wx at *
  generalize w1.heap.size = gz at *
  replace X := Lib.hid (X.out.after (Below.drew (Below.refl _ _)))
  have CD : Hid (∀ u, Blks w [(gz, stC Y2, 36), (gy, stC Y2, 36), (gx, vCells V1, 30), (gv, vCells V1, 30), (gu, stC Y1, 36), (gt, stC Y1, 36), (ga, saC a, 43), (w.heap.size, stC s, 36)] u → u.cell? ⟨ga, 1, none⟩ = some (.int .i64 a.o) ∧ u.cell? ⟨ga, 2, none⟩ = some (.int .i64 a.z)) := Lib.hid fun u hu => ⟨(saB_cells (hu.get (g := ga) (cs := saC a) (t := 43) (by simp))).2.1, (saB_cells (hu.get (g := ga) (cs := saC a) (t := 43) (by simp))).2.2.1⟩
  refine wp_region_held_drew (S := fun u => Blks w [(gz, stC Y2, 36), (gy, stC Y2, 36), (gx, vCells V1, 30), (gv, vCells V1, 30), (gu, stC Y1, 36), (gt, stC Y1, 36), (ga, saC a, 43), (w.heap.size, stC s, 36)] u ∧ u.cell? ⟨ga, 1, none⟩ = some (.int .i64 a.o) ∧ u.cell? ⟨ga, 2, none⟩ = some (.int .i64 a.z)) (by kernel_rfl) ⟨X.out, CD.out _ X.out⟩ (fun hHeld => ?_)
  generalize wx.drew = wd at *
  refine wpAnyH_ready (rs := [0]) (by kernel_rfl) (by simp) ?_
  refine AllReadyH.cons (o := { dst := some 75, op := Op.call { callee := Callee.value (Operand.func 10), args := #[], argTypes := #[] }, type := 4, pos := "law.go:90", after := #[], guard := none }) rfl (fun K hK => ?_) AllReadyH.nil
  go_simp
  refine (SH.out _).mono ?_; rintro e u1 ⟨rfl, b1⟩
  replace X := Lib.hid (X.out.after b1)
  clear b1
  go_wp2_with fail
  refine hK.out _ _ ⟨X.out, CD.out _ X.out⟩ (fun hHeld => ?_)
  clear hK K
  try simp only [Act.put, List.setIfInBounds_toArray, List.set_cons_zero, List.set_cons_succ]
  refine wpAnyH_take (i := 1) (oi := { dst := some 76, op := Op.move (Operand.tmp 75), type := 4, pos := "law.go:90", after := #[{ on := 0, ground := Ground.data }, { on := 0, ground := Ground.chain }], guard := none }) (v := ?_) rfl (by kernel_rfl) (by kernel_rfl) (by kernel_rfl) (fun _ _ _ h => h) (Or.inl ⟨by rfl, ?_⟩) (by first | exact hHeld | assumption) ?_
  rotate_left 1
  · intro w hSw; (try dsimp only at hSw); go_simp; try (with_reducible rfl)
  try simp only [Act.put, List.setIfInBounds_toArray, List.set_cons_zero, List.set_cons_succ]
  refine wpAnyH_take (i := 2) (oi := { dst := some 77, op := Op.load 36 (Operand.tmp 5), type := 36, pos := "law.go:90", after := #[{ on := 1, ground := Ground.guard }], guard := some (1, true) }) rfl (by kernel_rfl) (by kernel_rfl) (by kernel_rfl) (fun _ _ _ h => h) (st_yield (by kernel_rfl) _ rfl (g := gt) (X := Y1) rfl (fun u hu => (hu.1.get (g := gt) (cs := stC Y1) (t := 36) (by simp)))) (by exact hHeld) ?_
  try simp only [Act.put, List.setIfInBounds_toArray, List.set_cons_zero, List.set_cons_succ]
  refine wpAnyH_take (i := 3) (oi := { dst := some 78, op := Op.load 36 (Operand.tmp 7), type := 36, pos := "law.go:90", after := #[{ on := 1, ground := Ground.guard }], guard := some (1, true) }) rfl (by kernel_rfl) (by kernel_rfl) (by kernel_rfl) (fun _ _ _ h => h) (st_yield (by kernel_rfl) _ rfl (g := gu) (X := Y1) rfl (fun u hu => (hu.1.get (g := gu) (cs := stC Y1) (t := 36) (by simp)))) (by exact hHeld) ?_
  try simp only [Act.put, List.setIfInBounds_toArray, List.set_cons_zero, List.set_cons_succ]
  refine wpAnyH_take (i := 4) (oi := { dst := some 79, op := Op.binOp BinOp.eql 36 (Operand.tmp 77) (Operand.tmp 78) 36, type := 4, pos := "law.go:90", after := #[{ on := 2, ground := Ground.data }, { on := 3, ground := Ground.data }, { on := 1, ground := Ground.guard }], guard := some (1, true) }) rfl (by kernel_rfl) (by kernel_rfl) (by kernel_rfl) (fun _ _ _ h => h) (yields_value (by kernel_rfl) (x_st_eq (X := Y1) rfl rfl rfl)) (by exact hHeld) ?_
  try simp only [Act.put, List.setIfInBounds_toArray, List.set_cons_zero, List.set_cons_succ]
  refine wpAnyH_take (i := 5) (oi := { dst := some 80, op := Op.pick (Operand.tmp 76) (Operand.tmp 79) (Operand.const (Value.bool false)), type := 4, pos := "law.go:90", after := #[{ on := 1, ground := Ground.data }, { on := 4, ground := Ground.data }], guard := none }) (v := ?_) rfl (by kernel_rfl) (by kernel_rfl) (by kernel_rfl) (fun _ _ _ h => h) (Or.inl ⟨by rfl, ?_⟩) (by first | exact hHeld | assumption) ?_
  rotate_left 1
  · intro w hSw; (try dsimp only at hSw); go_simp; try (with_reducible rfl)
  try simp only [Act.put, List.setIfInBounds_toArray, List.set_cons_zero, List.set_cons_succ]
  refine wpAnyH_take (i := 6) (oi := { dst := some 81, op := Op.move (Operand.tmp 80), type := 4, pos := "law.go:90", after := #[{ on := 5, ground := Ground.data }, { on := 1, ground := Ground.chain }], guard := none }) (v := ?_) rfl (by kernel_rfl) (by kernel_rfl) (by kernel_rfl) (fun _ _ _ h => h) (Or.inl ⟨by rfl, ?_⟩) (by first | exact hHeld | assumption) ?_
  rotate_left 1
  · intro w hSw; (try dsimp only at hSw); go_simp; try (with_reducible rfl)
  try simp only [Act.put, List.setIfInBounds_toArray, List.set_cons_zero, List.set_cons_succ]
  refine wpAnyH_take (i := 7) (oi := { dst := some 82, op := Op.move (Operand.tmp 6), type := 44, pos := "law.go:90", after := #[{ on := 6, ground := Ground.guard }], guard := some (6, true) }) (v := ?_) rfl (by kernel_rfl) (by kernel_rfl) (by kernel_rfl) (fun _ _ _ h => h) (Or.inl ⟨by rfl, ?_⟩) (by first | exact hHeld | assumption) ?_
  rotate_left 1
  · intro w hSw; (try dsimp only at hSw); go_simp; try (with_reducible rfl)
  try simp only [Act.put, List.setIfInBounds_toArray, List.set_cons_zero, List.set_cons_succ]
  refine wpAnyH_take (i := 8) (oi := { dst := some 83, op := Op.move (Operand.tmp 8), type := 44, pos := "law.go:90", after := #[{ on := 6, ground := Ground.guard }], guard := some (6, true) }) (v := ?_) rfl (by kernel_rfl) (by kernel_rfl) (by kernel_rfl) (fun _ _ _ h => h) (Or.inl ⟨by rfl, ?_⟩) (by first | exact hHeld | assumption) ?_
  rotate_left 1
  · intro w hSw; (try dsimp only at hSw); go_simp; try (with_reducible rfl)
  try simp only [Act.put, List.setIfInBounds_toArray, List.set_cons_zero, List.set_cons_succ]
  refine wpAnyH_take (i := 9) (oi := { dst := some 84, op := Op.binOp BinOp.eql 44 (Operand.tmp 82) (Operand.tmp 83) 44, type := 4, pos := "law.go:90", after := #[{ on := 7, ground := Ground.data }, { on := 8, ground := Ground.data }, { on := 6, ground := Ground.guard }], guard := some (6, true) }) (v := ?_) rfl (by kernel_rfl) (by kernel_rfl) (by kernel_rfl) (fun _ _ _ h => h) (Or.inl ⟨by rfl, ?_⟩) (by first | exact hHeld | assumption) ?_
  rotate_left 1
  · intro w hSw; (try dsimp only at hSw); go_simp; try (with_reducible rfl)
  try simp only [Act.put, List.setIfInBounds_toArray, List.set_cons_zero, List.set_cons_succ]
  refine wpAnyH_take (i := 10) (oi := { dst := some 85, op := Op.pick (Operand.tmp 81) (Operand.tmp 84) (Operand.const (Value.bool false)), type := 4, pos := "law.go:90", after := #[{ on := 6, ground := Ground.data }, { on := 9, ground := Ground.data }], guard := none }) (v := ?_) rfl (by kernel_rfl) (by kernel_rfl) (by kernel_rfl) (fun _ _ _ h => h) (Or.inl ⟨by rfl, ?_⟩) (by first | exact hHeld | assumption) ?_
  rotate_left 1
  · intro w hSw; (try dsimp only at hSw); go_simp; try (with_reducible rfl)
  try simp only [Act.put, List.setIfInBounds_toArray, List.set_cons_zero, List.set_cons_succ]
  refine wpAnyH_take (i := 11) (oi := { dst := some 86, op := Op.move (Operand.tmp 85), type := 4, pos := "law.go:90", after := #[{ on := 10, ground := Ground.data }, { on := 6, ground := Ground.chain }], guard := none }) (v := ?_) rfl (by kernel_rfl) (by kernel_rfl) (by kernel_rfl) (fun _ _ _ h => h) (Or.inl ⟨by rfl, ?_⟩) (by first | exact hHeld | assumption) ?_
  rotate_left 1
  · intro w hSw; (try dsimp only at hSw); go_simp; try (with_reducible rfl)
  try simp only [Act.put, List.setIfInBounds_toArray, List.set_cons_zero, List.set_cons_succ]
  refine wpAnyH_take (i := 12) (oi := { dst := some 87, op := Op.load 30 (Operand.tmp 9), type := 30, pos := "law.go:90", after := #[{ on := 11, ground := Ground.guard }], guard := some (11, true) }) rfl (by kernel_rfl) (by kernel_rfl) (by kernel_rfl) (fun _ _ _ h => h) (vl_yield (by kernel_rfl) _ rfl (g := gv) (v := V1) rfl (fun u hu => vB_range (hu.1.get (g := gv) (cs := vCells V1) (t := 30) (by simp)))) (by exact hHeld) ?_
  try simp only [Act.put, List.setIfInBounds_toArray, List.set_cons_zero, List.set_cons_succ]
  refine wpAnyH_take (i := 13) (oi := { dst := some 88, op := Op.load 30 (Operand.tmp 11), type := 30, pos := "law.go:90", after := #[{ on := 11, ground := Ground.guard }], guard := some (11, true) }) rfl (by kernel_rfl) (by kernel_rfl) (by kernel_rfl) (fun _ _ _ h => h) (vl_yield (by kernel_rfl) _ rfl (g := gx) (v := V1) rfl (fun u hu => vB_range (hu.1.get (g := gx) (cs := vCells V1) (t := 30) (by simp)))) (by exact hHeld) ?_
  try simp only [Act.put, List.setIfInBounds_toArray, List.set_cons_zero, List.set_cons_succ]
  refine wpAnyH_take (i := 14) (oi := { dst := some 89, op := Op.binOp BinOp.eql 30 (Operand.tmp 87) (Operand.tmp 88) 30, type := 4, pos := "law.go:90", after := #[{ on := 12, ground := Ground.data }, { on := 13, ground := Ground.data }, { on := 11, ground := Ground.guard }], guard := some (11, true) }) rfl (by kernel_rfl) (by kernel_rfl) (by kernel_rfl) (fun _ _ _ h => h) (yields_value (by kernel_rfl) (x_val_eq (X := V1) rfl rfl rfl)) (by exact hHeld) ?_
  try simp only [Act.put, List.setIfInBounds_toArray, List.set_cons_zero, List.set_cons_succ]
  refine wpAnyH_take (i := 15) (oi := { dst := some 90, op := Op.pick (Operand.tmp 86) (Operand.tmp 89) (Operand.const (Value.bool false)), type := 4, pos := "law.go:90", after := #[{ on := 11, ground := Ground.data }, { on := 14, ground := Ground.data }], guard := none }) (v := ?_) rfl (by kernel_rfl) (by kernel_rfl) (by kernel_rfl) (fun _ _ _ h => h) (Or.inl ⟨by rfl, ?_⟩) (by first | exact hHeld | assumption) ?_
  rotate_left 1
  · intro w hSw; (try dsimp only at hSw); go_simp; try (with_reducible rfl)
  try simp only [Act.put, List.setIfInBounds_toArray, List.set_cons_zero, List.set_cons_succ]
  refine wpAnyH_take (i := 16) (oi := { dst := some 91, op := Op.move (Operand.tmp 90), type := 4, pos := "law.go:90", after := #[{ on := 15, ground := Ground.data }, { on := 11, ground := Ground.chain }], guard := none }) (v := ?_) rfl (by kernel_rfl) (by kernel_rfl) (by kernel_rfl) (fun _ _ _ h => h) (Or.inl ⟨by rfl, ?_⟩) (by first | exact hHeld | assumption) ?_
  rotate_left 1
  · intro w hSw; (try dsimp only at hSw); go_simp; try (with_reducible rfl)
  try simp only [Act.put, List.setIfInBounds_toArray, List.set_cons_zero, List.set_cons_succ]
  refine wpAnyH_take (i := 17) (oi := { dst := some 92, op := Op.move (Operand.tmp 10), type := 44, pos := "law.go:90", after := #[{ on := 16, ground := Ground.guard }], guard := some (16, true) }) (v := ?_) rfl (by kernel_rfl) (by kernel_rfl) (by kernel_rfl) (fun _ _ _ h => h) (Or.inl ⟨by rfl, ?_⟩) (by first | exact hHeld | assumption) ?_
  rotate_left 1
  · intro w hSw; (try dsimp only at hSw); go_simp; try (with_reducible rfl)
  try simp only [Act.put, List.setIfInBounds_toArray, List.set_cons_zero, List.set_cons_succ]
  refine wpAnyH_take (i := 18) (oi := { dst := some 93, op := Op.move (Operand.tmp 12), type := 44, pos := "law.go:90", after := #[{ on := 16, ground := Ground.guard }], guard := some (16, true) }) (v := ?_) rfl (by kernel_rfl) (by kernel_rfl) (by kernel_rfl) (fun _ _ _ h => h) (Or.inl ⟨by rfl, ?_⟩) (by first | exact hHeld | assumption) ?_
  rotate_left 1
  · intro w hSw; (try dsimp only at hSw); go_simp; try (with_reducible rfl)
  try simp only [Act.put, List.setIfInBounds_toArray, List.set_cons_zero, List.set_cons_succ]
  refine wpAnyH_take (i := 19) (oi := { dst := some 94, op := Op.binOp BinOp.eql 44 (Operand.tmp 92) (Operand.tmp 93) 44, type := 4, pos := "law.go:90", after := #[{ on := 17, ground := Ground.data }, { on := 18, ground := Ground.data }, { on := 16, ground := Ground.guard }], guard := some (16, true) }) (v := ?_) rfl (by kernel_rfl) (by kernel_rfl) (by kernel_rfl) (fun _ _ _ h => h) (Or.inl ⟨by rfl, ?_⟩) (by first | exact hHeld | assumption) ?_
  rotate_left 1
  · intro w hSw; (try dsimp only at hSw); go_simp; try (with_reducible rfl)
  try simp only [Act.put, List.setIfInBounds_toArray, List.set_cons_zero, List.set_cons_succ]
  refine wpAnyH_take (i := 20) (oi := { dst := some 95, op := Op.pick (Operand.tmp 91) (Operand.tmp 94) (Operand.const (Value.bool false)), type := 4, pos := "law.go:90", after := #[{ on := 16, ground := Ground.data }, { on := 19, ground := Ground.data }], guard := none }) (v := ?_) rfl (by kernel_rfl) (by kernel_rfl) (by kernel_rfl) (fun _ _ _ h => h) (Or.inl ⟨by rfl, ?_⟩) (by first | exact hHeld | assumption) ?_
  rotate_left 1
  · intro w hSw; (try dsimp only at hSw); go_simp; try (with_reducible rfl)
  try simp only [Act.put, List.setIfInBounds_toArray, List.set_cons_zero, List.set_cons_succ]
  refine wpAnyH_take (i := 21) (oi := { dst := some 96, op := Op.move (Operand.tmp 95), type := 4, pos := "law.go:90", after := #[{ on := 20, ground := Ground.data }, { on := 16, ground := Ground.chain }], guard := none }) (v := ?_) rfl (by kernel_rfl) (by kernel_rfl) (by kernel_rfl) (fun _ _ _ h => h) (Or.inl ⟨by rfl, ?_⟩) (by first | exact hHeld | assumption) ?_
  rotate_left 1
  · intro w hSw; (try dsimp only at hSw); go_simp; try (with_reducible rfl)
  try simp only [Act.put, List.setIfInBounds_toArray, List.set_cons_zero, List.set_cons_succ]
  refine wpAnyH_take (i := 22) (oi := { dst := some 97, op := Op.load 36 (Operand.tmp 13), type := 36, pos := "law.go:90", after := #[{ on := 21, ground := Ground.guard }], guard := some (21, true) }) rfl (by kernel_rfl) (by kernel_rfl) (by kernel_rfl) (fun _ _ _ h => h) (st_yield (by kernel_rfl) _ rfl (g := gy) (X := Y2) rfl (fun u hu => (hu.1.get (g := gy) (cs := stC Y2) (t := 36) (by simp)))) (by exact hHeld) ?_
  try simp only [Act.put, List.setIfInBounds_toArray, List.set_cons_zero, List.set_cons_succ]
  refine wpAnyH_take (i := 23) (oi := { dst := some 98, op := Op.load 36 (Operand.tmp 15), type := 36, pos := "law.go:90", after := #[{ on := 21, ground := Ground.guard }], guard := some (21, true) }) rfl (by kernel_rfl) (by kernel_rfl) (by kernel_rfl) (fun _ _ _ h => h) (st_yield (by kernel_rfl) _ rfl (g := gz) (X := Y2) rfl (fun u hu => (hu.1.get (g := gz) (cs := stC Y2) (t := 36) (by simp)))) (by exact hHeld) ?_
  try simp only [Act.put, List.setIfInBounds_toArray, List.set_cons_zero, List.set_cons_succ]
  refine wpAnyH_take (i := 24) (oi := { dst := some 99, op := Op.binOp BinOp.eql 36 (Operand.tmp 97) (Operand.tmp 98) 36, type := 4, pos := "law.go:90", after := #[{ on := 22, ground := Ground.data }, { on := 23, ground := Ground.data }, { on := 21, ground := Ground.guard }], guard := some (21, true) }) rfl (by kernel_rfl) (by kernel_rfl) (by kernel_rfl) (fun _ _ _ h => h) (yields_value (by kernel_rfl) (x_st_eq (X := Y2) rfl rfl rfl)) (by exact hHeld) ?_
  try simp only [Act.put, List.setIfInBounds_toArray, List.set_cons_zero, List.set_cons_succ]
  refine wpAnyH_take (i := 25) (oi := { dst := some 100, op := Op.pick (Operand.tmp 96) (Operand.tmp 99) (Operand.const (Value.bool false)), type := 4, pos := "law.go:90", after := #[{ on := 21, ground := Ground.data }, { on := 24, ground := Ground.data }], guard := none }) (v := ?_) rfl (by kernel_rfl) (by kernel_rfl) (by kernel_rfl) (fun _ _ _ h => h) (Or.inl ⟨by rfl, ?_⟩) (by first | exact hHeld | assumption) ?_
  rotate_left 1
  · intro w hSw; (try dsimp only at hSw); go_simp; try (with_reducible rfl)
  try simp only [Act.put, List.setIfInBounds_toArray, List.set_cons_zero, List.set_cons_succ]
  refine wpAnyH_take (i := 26) (oi := { dst := some 101, op := Op.move (Operand.tmp 100), type := 4, pos := "law.go:90", after := #[{ on := 25, ground := Ground.data }, { on := 21, ground := Ground.chain }], guard := none }) (v := ?_) rfl (by kernel_rfl) (by kernel_rfl) (by kernel_rfl) (fun _ _ _ h => h) (Or.inl ⟨by rfl, ?_⟩) (by first | exact hHeld | assumption) ?_
  rotate_left 1
  · intro w hSw; (try dsimp only at hSw); go_simp; try (with_reducible rfl)
  try simp only [Act.put, List.setIfInBounds_toArray, List.set_cons_zero, List.set_cons_succ]
  refine wpAnyH_take (i := 27) (oi := { dst := some 102, op := Op.move (Operand.tmp 14), type := 44, pos := "law.go:90", after := #[{ on := 26, ground := Ground.guard }], guard := some (26, true) }) (v := ?_) rfl (by kernel_rfl) (by kernel_rfl) (by kernel_rfl) (fun _ _ _ h => h) (Or.inl ⟨by rfl, ?_⟩) (by first | exact hHeld | assumption) ?_
  rotate_left 1
  · intro w hSw; (try dsimp only at hSw); go_simp; try (with_reducible rfl)
  try simp only [Act.put, List.setIfInBounds_toArray, List.set_cons_zero, List.set_cons_succ]
  refine wpAnyH_take (i := 28) (oi := { dst := some 103, op := Op.move (Operand.tmp 16), type := 44, pos := "law.go:90", after := #[{ on := 26, ground := Ground.guard }], guard := some (26, true) }) (v := ?_) rfl (by kernel_rfl) (by kernel_rfl) (by kernel_rfl) (fun _ _ _ h => h) (Or.inl ⟨by rfl, ?_⟩) (by first | exact hHeld | assumption) ?_
  rotate_left 1
  · intro w hSw; (try dsimp only at hSw); go_simp; try (with_reducible rfl)
  try simp only [Act.put, List.setIfInBounds_toArray, List.set_cons_zero, List.set_cons_succ]
  refine wpAnyH_take (i := 29) (oi := { dst := some 104, op := Op.binOp BinOp.eql 44 (Operand.tmp 102) (Operand.tmp 103) 44, type := 4, pos := "law.go:90", after := #[{ on := 27, ground := Ground.data }, { on := 28, ground := Ground.data }, { on := 26, ground := Ground.guard }], guard := some (26, true) }) (v := ?_) rfl (by kernel_rfl) (by kernel_rfl) (by kernel_rfl) (fun _ _ _ h => h) (Or.inl ⟨by rfl, ?_⟩) (by first | exact hHeld | assumption) ?_
  rotate_left 1
  · intro w hSw; (try dsimp only at hSw); go_simp; try (with_reducible rfl)
  try simp only [Act.put, List.setIfInBounds_toArray, List.set_cons_zero, List.set_cons_succ]
  refine wpAnyH_take (i := 30) (oi := { dst := some 105, op := Op.pick (Operand.tmp 101) (Operand.tmp 104) (Operand.const (Value.bool false)), type := 4, pos := "law.go:90", after := #[{ on := 26, ground := Ground.data }, { on := 29, ground := Ground.data }], guard := none }) (v := ?_) rfl (by kernel_rfl) (by kernel_rfl) (by kernel_rfl) (fun _ _ _ h => h) (Or.inl ⟨by rfl, ?_⟩) (by first | exact hHeld | assumption) ?_
  rotate_left 1
  · intro w hSw; (try dsimp only at hSw); go_simp; try (with_reducible rfl)
  try simp only [Act.put, List.setIfInBounds_toArray, List.set_cons_zero, List.set_cons_succ]
  refine wpAnyH_take (i := 31) (oi := { dst := some 106, op := Op.move (Operand.tmp 105), type := 4, pos := "law.go:90", after := #[{ on := 30, ground := Ground.data }, { on := 26, ground := Ground.chain }], guard := none }) (v := ?_) rfl (by kernel_rfl) (by kernel_rfl) (by kernel_rfl) (fun _ _ _ h => h) (Or.inl ⟨by rfl, ?_⟩) (by first | exact hHeld | assumption) ?_
  rotate_left 1
  · intro w hSw; (try dsimp only at hSw); go_simp; try (with_reducible rfl)
  try simp only [Act.put, List.setIfInBounds_toArray, List.set_cons_zero, List.set_cons_succ]
  refine wpAnyH_take (i := 32) (oi := { dst := some 107, op := Op.load 36 (Operand.tmp 2), type := 36, pos := "law.go:90", after := #[{ on := 31, ground := Ground.guard }], guard := some (31, true) }) rfl (by kernel_rfl) (by kernel_rfl) (by kernel_rfl) (fun _ _ _ h => h) (st_yield (by kernel_rfl) _ rfl (g := w.heap.size) (X := s) rfl (fun u hu => (hu.1.get (g := w.heap.size) (cs := stC s) (t := 36) (by simp)))) (by exact hHeld) ?_
  try simp only [Act.put, List.setIfInBounds_toArray, List.set_cons_zero, List.set_cons_succ]
  refine wpAnyH_take (i := 33) (oi := { dst := some 108, op := Op.fieldAddr 43 (Operand.tmp 3) 1, type := 0, pos := "law.go:90", after := #[{ on := 31, ground := Ground.guard }], guard := some (31, true) }) (v := ?_) rfl (by kernel_rfl) (by kernel_rfl) (by kernel_rfl) (fun _ _ _ h => h) (Or.inl ⟨by rfl, ?_⟩) (by first | exact hHeld | assumption) ?_
  rotate_left 1
  · intro w hSw; (try dsimp only at hSw); go_simp; try (with_reducible rfl)
  try simp only [Act.put, List.setIfInBounds_toArray, List.set_cons_zero, List.set_cons_succ]
  refine wpAnyH_take (i := 34) (oi := { dst := some 109, op := Op.load 3 (Operand.tmp 108), type := 3, pos := "law.go:90", after := #[{ on := 33, ground := Ground.data }, { on := 31, ground := Ground.guard }], guard := some (31, true) }) (v := ?_) rfl (by kernel_rfl) (by kernel_rfl) (by kernel_rfl) (fun _ _ _ h => h) (Or.inl ⟨by rfl, ?_⟩) (by first | exact hHeld | assumption) ?_
  rotate_left 1
  · intro w hSw; (try dsimp only at hSw); go_simp; try (with_reducible rfl)
  try simp only [Act.put, List.setIfInBounds_toArray, List.set_cons_zero, List.set_cons_succ]
  refine wpAnyH_take (i := 35) (oi := { dst := some 110, op := Op.fieldAddr 43 (Operand.tmp 3) 2, type := 0, pos := "law.go:90", after := #[{ on := 31, ground := Ground.guard }], guard := some (31, true) }) (v := ?_) rfl (by kernel_rfl) (by kernel_rfl) (by kernel_rfl) (fun _ _ _ h => h) (Or.inl ⟨by rfl, ?_⟩) (by first | exact hHeld | assumption) ?_
  rotate_left 1
  · intro w hSw; (try dsimp only at hSw); go_simp; try (with_reducible rfl)
  try simp only [Act.put, List.setIfInBounds_toArray, List.set_cons_zero, List.set_cons_succ]
  refine wpAnyH_take (i := 36) (oi := { dst := some 111, op := Op.load 3 (Operand.tmp 110), type := 3, pos := "law.go:90", after := #[{ on := 35, ground := Ground.data }, { on := 31, ground := Ground.guard }], guard := some (31, true) }) (v := ?_) rfl (by kernel_rfl) (by kernel_rfl) (by kernel_rfl) (fun _ _ _ h => h) (Or.inl ⟨by rfl, ?_⟩) (by first | exact hHeld | assumption) ?_
  rotate_left 1
  · intro w hSw; (try dsimp only at hSw); go_simp; try (with_reducible rfl)
  try simp only [Act.put, List.setIfInBounds_toArray, List.set_cons_zero, List.set_cons_succ]
  refine wpAnyH_take (i := 38) (oi := { dst := some 113, op := Op.load 36 (Operand.tmp 2), type := 36, pos := "law.go:90", after := #[{ on := 31, ground := Ground.guard }], guard := some (31, true) }) rfl (by kernel_rfl) (by kernel_rfl) (by kernel_rfl) (fun _ _ _ h => h) (st_yield (by kernel_rfl) _ rfl (g := w.heap.size) (X := s) rfl (fun u hu => (hu.1.get (g := w.heap.size) (cs := stC s) (t := 36) (by simp)))) (by exact hHeld) ?_
  try simp only [Act.put, List.setIfInBounds_toArray, List.set_cons_zero, List.set_cons_succ]
  refine wpAnyH_take (i := 39) (oi := { dst := some 114, op := Op.fieldAddr 43 (Operand.tmp 3) 1, type := 0, pos := "law.go:90", after := #[{ on := 31, ground := Ground.guard }], guard := some (31, true) }) (v := ?_) rfl (by kernel_rfl) (by kernel_rfl) (by kernel_rfl) (fun _ _ _ h => h) (Or.inl ⟨by rfl, ?_⟩) (by first | exact hHeld | assumption) ?_
  rotate_left 1
  · intro w hSw; (try dsimp only at hSw); go_simp; try (with_reducible rfl)
  try simp only [Act.put, List.setIfInBounds_toArray, List.set_cons_zero, List.set_cons_succ]
  refine wpAnyH_take (i := 40) (oi := { dst := some 115, op := Op.load 3 (Operand.tmp 114), type := 3, pos := "law.go:90", after := #[{ on := 39, ground := Ground.data }, { on := 31, ground := Ground.guard }], guard := some (31, true) }) (v := ?_) rfl (by kernel_rfl) (by kernel_rfl) (by kernel_rfl) (fun _ _ _ h => h) (Or.inl ⟨by rfl, ?_⟩) (by first | exact hHeld | assumption) ?_
  rotate_left 1
  · intro w hSw; (try dsimp only at hSw); go_simp; try (with_reducible rfl)
  try simp only [Act.put, List.setIfInBounds_toArray, List.set_cons_zero, List.set_cons_succ]
  refine wpAnyH_take (i := 41) (oi := { dst := some 116, op := Op.fieldAddr 43 (Operand.tmp 3) 2, type := 0, pos := "law.go:90", after := #[{ on := 31, ground := Ground.guard }], guard := some (31, true) }) (v := ?_) rfl (by kernel_rfl) (by kernel_rfl) (by kernel_rfl) (fun _ _ _ h => h) (Or.inl ⟨by rfl, ?_⟩) (by first | exact hHeld | assumption) ?_
  rotate_left 1
  · intro w hSw; (try dsimp only at hSw); go_simp; try (with_reducible rfl)
  try simp only [Act.put, List.setIfInBounds_toArray, List.set_cons_zero, List.set_cons_succ]
  refine wpAnyH_take (i := 42) (oi := { dst := some 117, op := Op.load 3 (Operand.tmp 116), type := 3, pos := "law.go:90", after := #[{ on := 41, ground := Ground.data }, { on := 31, ground := Ground.guard }], guard := some (31, true) }) (v := ?_) rfl (by kernel_rfl) (by kernel_rfl) (by kernel_rfl) (fun _ _ _ h => h) (Or.inl ⟨by rfl, ?_⟩) (by first | exact hHeld | assumption) ?_
  rotate_left 1
  · intro w hSw; (try dsimp only at hSw); go_simp; try (with_reducible rfl)
  try simp only [Act.put, List.setIfInBounds_toArray, List.set_cons_zero, List.set_cons_succ]
  refine wpAnyH_ready (rs := [37]) (by kernel_rfl) (by simp) ?_
  refine AllReadyH.cons (o := { dst := some 112, op := Op.call { callee := Callee.value (Operand.func 23), args := #[Operand.tmp 107, Operand.tmp 109, Operand.tmp 111], argTypes := #[36, 3, 3] }, type := 4, pos := "law.go:90", after := #[{ on := 32, ground := Ground.data }, { on := 34, ground := Ground.data }, { on := 36, ground := Ground.data }, { on := 31, ground := Ground.chain }, { on := 31, ground := Ground.guard }], guard := some (31, true) }) rfl (fun K hK => ?_) AllReadyH.nil
  go_simp
  refine (FU.out _).mono ?_; rintro e u1 ⟨rfl, b1⟩
  replace X := Lib.hid (X.out.after b1)
  clear b1
  go_wp2_with fail
  refine hK.out _ _ ⟨X.out, CD.out _ X.out⟩ (fun hHeld => ?_)
  clear hK K
  try simp only [Act.put, List.setIfInBounds_toArray, List.set_cons_zero, List.set_cons_succ]
  refine wpAnyH_ready (rs := [43]) (by kernel_rfl) (by simp) ?_
  refine AllReadyH.cons (o := { dst := some 118, op := Op.call { callee := Callee.value (Operand.func 24), args := #[Operand.tmp 113, Operand.tmp 115, Operand.tmp 117], argTypes := #[36, 3, 3] }, type := 4, pos := "law.go:90", after := #[{ on := 38, ground := Ground.data }, { on := 40, ground := Ground.data }, { on := 42, ground := Ground.data }, { on := 37, ground := Ground.chain }, { on := 31, ground := Ground.guard }], guard := some (31, true) }) rfl (fun K hK => ?_) AllReadyH.nil
  go_simp
  refine (RF.out _).mono ?_; rintro e u1 ⟨rfl, b1⟩
  replace X := Lib.hid (X.out.after b1)
  clear b1
  go_wp2_with fail
  refine hK.out _ _ ⟨X.out, CD.out _ X.out⟩ (fun hHeld => ?_)
  clear hK K
  try simp only [Act.put, List.setIfInBounds_toArray, List.set_cons_zero, List.set_cons_succ]
  refine wpAnyH_take (i := 44) (oi := { dst := some 119, op := Op.binOp BinOp.eql 4 (Operand.tmp 112) (Operand.tmp 118) 4, type := 4, pos := "law.go:90", after := #[{ on := 37, ground := Ground.data }, { on := 43, ground := Ground.data }, { on := 31, ground := Ground.guard }], guard := some (31, true) }) (v := ?_) rfl (by kernel_rfl) (by kernel_rfl) (by kernel_rfl) (fun _ _ _ h => h) (Or.inl ⟨by rfl, ?_⟩) (by first | exact hHeld | assumption) ?_
  rotate_left 1
  · intro w hSw; (try dsimp only at hSw); go_simp; try (with_reducible rfl)
  try simp only [Act.put, List.setIfInBounds_toArray, List.set_cons_zero, List.set_cons_succ]
  refine wpAnyH_take (i := 45) (oi := { dst := some 120, op := Op.pick (Operand.tmp 106) (Operand.tmp 119) (Operand.const (Value.bool false)), type := 4, pos := "law.go:90", after := #[{ on := 31, ground := Ground.data }, { on := 44, ground := Ground.data }], guard := none }) (v := ?_) rfl (by kernel_rfl) (by kernel_rfl) (by kernel_rfl) (fun _ _ _ h => h) (Or.inl ⟨by rfl, ?_⟩) (by first | exact hHeld | assumption) ?_
  rotate_left 1
  · intro w hSw; (try dsimp only at hSw); go_simp; try (with_reducible rfl)
  try simp only [Act.put, List.setIfInBounds_toArray, List.set_cons_zero, List.set_cons_succ]
  refine wpAnyH_take (i := 46) (oi := { dst := some 4, op := Op.assign (Operand.tmp 120), type := 4, pos := "law.go:90", after := #[{ on := 45, ground := Ground.data }, { on := 43, ground := Ground.chain }, { on := 0, ground := Ground.phase }, { on := 1, ground := Ground.phase }, { on := 2, ground := Ground.phase }, { on := 3, ground := Ground.phase }, { on := 4, ground := Ground.phase }, { on := 5, ground := Ground.phase }, { on := 6, ground := Ground.phase }, { on := 7, ground := Ground.phase }, { on := 8, ground := Ground.phase }, { on := 9, ground := Ground.phase }, { on := 10, ground := Ground.phase }, { on := 11, ground := Ground.phase }, { on := 12, ground := Ground.phase }, { on := 13, ground := Ground.phase }, { on := 14, ground := Ground.phase }, { on := 15, ground := Ground.phase }, { on := 16, ground := Ground.phase }, { on := 17, ground := Ground.phase }, { on := 18, ground := Ground.phase }, { on := 19, ground := Ground.phase }, { on := 20, ground := Ground.phase }, { on := 21, ground := Ground.phase }, { on := 22, ground := Ground.phase }, { on := 23, ground := Ground.phase }, { on := 24, ground := Ground.phase }, { on := 25, ground := Ground.phase }, { on := 26, ground := Ground.phase }, { on := 27, ground := Ground.phase }, { on := 28, ground := Ground.phase }, { on := 29, ground := Ground.phase }, { on := 30, ground := Ground.phase }, { on := 31, ground := Ground.phase }, { on := 32, ground := Ground.phase }, { on := 33, ground := Ground.phase }, { on := 34, ground := Ground.phase }, { on := 35, ground := Ground.phase }, { on := 36, ground := Ground.phase }, { on := 37, ground := Ground.phase }, { on := 38, ground := Ground.phase }, { on := 39, ground := Ground.phase }, { on := 40, ground := Ground.phase }, { on := 41, ground := Ground.phase }, { on := 42, ground := Ground.phase }, { on := 43, ground := Ground.phase }, { on := 44, ground := Ground.phase }, { on := 45, ground := Ground.phase }], guard := none }) (v := ?_) rfl (by kernel_rfl) (by kernel_rfl) (by kernel_rfl) (fun _ _ _ h => h) (Or.inl ⟨by rfl, ?_⟩) (by first | exact hHeld | assumption) ?_
  rotate_left 1
  · intro w hSw; (try dsimp only at hSw); go_simp; try (with_reducible rfl)
  try simp only [Act.put, List.setIfInBounds_toArray, List.set_cons_zero, List.set_cons_succ]
  refine wpAnyH_done (by kernel_rfl) ?_ _
  go_wp2_with fail
  go_ret
  exact ⟨rfl, X.out.1⟩

end Go.Proofs.Ytdgckjkdimnpoaa

namespace Go.Proofs.Ytdgckjkdimnpoaa
open Go.ChangeShapes Go.WideShapes Go.ChangeAt Go.RowKit
set_option linter.unusedVariables false

set_option maxRecDepth 100000 in
theorem sraw_lifted (os : Os) (started : os.Started) (H : Type) (enc : TypeId × Value → H) :
    ReturnsInHanded {} Try.checked os 5 .any (Rows.stateRawSpec.pre6 enc Try.prog Try.f5 Rows.stateRawRow.domain false) (Rows.stateRawSpec.post enc Try.prog Try.f5 false true false false) := by
  refine law_lifted (C := Try.checked) own_none started (by kernel_rfl) Try.func5
    (ChangeSpec.witness6 (enc := enc) (C := Try.checked) false ⟨#[], #[stV stZ, .agg #[.int .u8 0, .int .i64 0, .int .i64 0, .int .u8 0, .int .u64 0, .int .u64 0, .int .u64 0, .int .u64 0, .int .i64 0, .int .i64 0]], []⟩ 8 (by kernel_rfl) (by kernel_rfl) (by kernel_rfl) (by kernel_rfl))
    laid_out rfl rfl Try.underlying4 (by kernel_rfl) (fun ds hd => by match ds, hd with | [d1, d2], _ => rfl) ?_
  intro W base args ds p hval hA
  rw [Try.params5] at hval hA
  obtain ⟨v0, v1, d0, d1, p0, p1, rfl, rfl, rfl, h0, h1⟩ := trodAll_two hA
  obtain ⟨s, rfl, ws⟩ := open_state (hval 0 _ _ rfl rfl) h0
  obtain ⟨a, rfl, wa⟩ := open_sact (hval 1 _ _ rfl rfl) h1
  exact sraw_walk s a W ws wa

theorem sraw_holds : Rows.StateRawSaid :=
  OpenClaim.holds_of_wide 5 Try.f5 rfl rfl rfl rfl rfl rfl rfl ⟨rfl, rfl, rfl, rfl, rfl⟩ rfl rfl rfl rfl rfl (by kernel_rfl) Try.func5 (by kernel_rfl)
    (of_decide_eq_true (by kernel_rfl)) (by unfold Func.isWrapper; first | (rw [if_pos (by decide +kernel)]; kernel_rfl) | (rw [if_neg (by decide +kernel)]; exact ⟨rfl, rfl⟩))
    (fun os started H enc _ => sraw_lifted os started H enc)

#print axioms sraw_holds
end Go.Proofs.Ytdgckjkdimnpoaa
