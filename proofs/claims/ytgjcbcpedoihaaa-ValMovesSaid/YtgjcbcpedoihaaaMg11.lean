/-
  Texts, one behind the other: ValShown, ValOpen.
  Conditions: those that each theorem states.
-/
import Derived.Deep.RegionHeld
import Derived.Deep.RegionHeld3
import Derived.Deep.DeepCutAuto
import Derived.Test.YtgjcbcpedoihaaaMg10
import Derived.Test.YtgjcbcpedoihaaaMg6

namespace Go.Proofs.Ytgjcbcpedoihaaa
open Go Go.RowKit
set_option maxRecDepth 100000
set_option linter.unusedVariables false
set_option linter.unusedSimpArgs false

theorem exv_move : vM ⟨3, fZ, 0, 512⟩ 18446744073709551608#64 = some ⟨3, fZ, 0, 504⟩ := by
  unfold vM
  rw [if_pos (by decide +kernel)]
  have e : asI 18446744073709551608#64 = -8 := by decide +kernel
  rw [e]
  rfl
theorem exv_is : vIs ⟨3, fZ, 0, 504⟩ 8589935096#64 true = true := by decide +kernel
theorem exv_join : (vJ ⟨1, fOf 4#64, 0, 0⟩ ⟨1, fOf 6#64, 0, 0⟩).n.1 = (4#64, 2#64) := by decide +kernel
theorem num_in (n : BitVec 64) : vIn ⟨1, fOf n, 0, 0⟩ := ⟨by dsimp only; omega, fOf_in n, by dsimp only; omega, by dsimp only; omega⟩
theorem vs_in (o : Int) (h : -9223372036854775808 ≤ o ∧ o ≤ 9223372036854775807) : vIn ⟨3, fZ, 0, o⟩ := ⟨by dsimp only; omega, fOf_in 0#64, by dsimp only; omega, h⟩
set_option maxRecDepth 100000 in
set_option maxHeartbeats 8000000 in
theorem l12_num (n : BitVec 64) (w : World) : Calls Try.prog 26 #[uV n] w (Gives (vV ⟨1, fOf n, 0, 0⟩) w) := by
  have O := Lib.hid (rf_of n)
  have hx := Lib.hid ((Blks.start w).new vZc 30)
  go_enter Try.func26, Try.ntmps26
  go_wp2_with fail
  refine (O.out _).mono ?_; rintro e w1 ⟨rfl, b1⟩
  have x1 := Lib.hid (hx.out.after b1)
  clear hx b1
  have y := x1.out.get (g := w.heap.size) (cs := vZc) (t := 30) (by simp)
  obtain ⟨y0, y1, y2, y3, y4, y5, y6⟩ := Blk.seven y
  obtain ⟨f0, f1, f2, f3, f4, f5, f6⟩ := vj_free y
  have BB := Lib.hid fun a b c d e f g => below_vals (k := w.heap.size) x1.out.1 (by omega) a b c d e f g
  generalize fOf n = f at *
  go_wp2_with fail
  exact bodyPost_ret (v := vV ⟨1, f, 0, 0⟩) (by simp [results, Try.results26, go_sem, y0, y1, y2, y3, y4, y5, y6]) rfl ⟨rfl, BB.out _ _ _ _ _ _ _⟩
set_option maxRecDepth 100000 in
set_option maxHeartbeats 8000000 in
theorem l12_shown (w : World) : Calls Try.prog 11 #[] w (Gives (.bool true) w) := by
  have M : Hid (∀ w, Calls Try.prog 9 #[.agg #[.int .u8 3, .int .u64 0, .int .u64 0, .int .u64 0, .int .u64 0, .int .i64 0, .int .i64 512], .int .u64 18446744073709551608] w (Gives (.tuple #[.agg #[.int .u8 3, .int .u64 0, .int .u64 0, .int .u64 0, .int .u64 0, .int .i64 0, .int .i64 504], .bool true]) w)) := Lib.hid fun w => by
    have h := vp_move ⟨3, fZ, 0, 512⟩ 18446744073709551608#64 w (vs_in _ (by omega))
    rw [exv_move] at h
    exact h
  have I : Hid (∀ w, Calls Try.prog 18 #[.agg #[.int .u8 3, .int .u64 0, .int .u64 0, .int .u64 0, .int .u64 0, .int .i64 0, .int .i64 504], .int .u64 8589935096, .bool true] w (Gives (.bool true) w)) := Lib.hid fun w => by
    have h := vp_is ⟨3, fZ, 0, 504⟩ 8589935096#64 true w (vs_in _ (by omega))
    rw [exv_is] at h
    exact h
  have A : Hid (∀ w, Calls Try.prog 27 #[.int .i64 2, .int .i64 504] w (Gives (.int .u64 8589935096) w)) := Lib.hid fun w => vr_At 2 504 w
  have U4 : Hid (∀ w, Calls Try.prog 26 #[.int .u64 4] w (Gives (vV ⟨1, fOf 4#64, 0, 0⟩) w)) := Lib.hid fun w => l12_num 4#64 w
  have U6 : Hid (∀ w, Calls Try.prog 26 #[.int .u64 6] w (Gives (vV ⟨1, fOf 6#64, 0, 0⟩) w)) := Lib.hid fun w => l12_num 6#64 w
  have J := Lib.hid fun w => vp_join ⟨1, fOf 4#64, 0, 0⟩ ⟨1, fOf 6#64, 0, 0⟩ w (num_in _) (num_in _)
  obtain ⟨j, hj⟩ : ∃ j, j = vJ ⟨1, fOf 4#64, 0, 0⟩ ⟨1, fOf 6#64, 0, 0⟩ := ⟨_, rfl⟩
  have hj1 : j.n.1 = (4#64, 2#64) := by rw [hj]; exact exv_join
  have e1 : Hid ((uV j.n.1.1 : Value) = .int .u64 4) := Lib.hid (by rw [hj1]; rfl)
  have e2 : Hid ((uV j.n.1.2 : Value) = .int .u64 2) := Lib.hid (by rw [hj1]; rfl)
  rw [← hj] at J
  clear hj hj1
  generalize fOf 4#64 = f4 at *
  generalize fOf 6#64 = f6 at *
  have B0 := Lib.hid (Below.refl w.heap.size w)
  go_enter Try.func11, Try.ntmps11
  go_wp2_with fail
  refine (M.out _).mono ?_; rintro e w1 ⟨rfl, b1⟩
  have X := Lib.hid ((Blks.none_ b1).new #[.int .u8 3, .int .u64 0, .int .u64 0, .int .u64 0, .int .u64 0, .int .i64 0, .int .i64 504] 30)
  clear M b1
  go_wp2_with fail
  generalize w1.alloc (.cells #[.int .u8 3, .int .u64 0, .int .u64 0, .int .u64 0, .int .u64 0, .int .i64 0, .int .i64 504] 30) = w2 at *
  generalize w1.heap.size = gx at *
  refine (U4.out _).mono ?_; rintro e w3 ⟨rfl, b3⟩
  have X3 := Lib.hid (X.out.after b3)
  clear X b3 U4
  go_wp2_with fail
  refine (U6.out _).mono ?_; rintro e w4 ⟨rfl, b4⟩
  have X4 := Lib.hid (X3.out.after b4)
  clear X3 b4 U6
  go_wp2_with fail
  refine (J.out _).mono ?_; rintro e w5 ⟨rfl, b5⟩
  have X5 := Lib.hid ((X4.out.after b5).new (vCells j) 30)
  clear X4 b5 J
  go_upto_region 3 with fail
  generalize w5.alloc (.cells (vCells j) 30) = w6 at *
  generalize w5.heap.size = gj at *
  have SD : Hid (∀ u, Below w6.heap.size w6 u → ((u.cell? ⟨gx, 0, none⟩ = some (.int .u8 3) ∧ u.cell? ⟨gx, 1, none⟩ = some (.int .u64 0) ∧ u.cell? ⟨gx, 2, none⟩ = some (.int .u64 0) ∧ u.cell? ⟨gx, 3, none⟩ = some (.int .u64 0) ∧ u.cell? ⟨gx, 4, none⟩ = some (.int .u64 0) ∧ u.cell? ⟨gx, 5, none⟩ = some (.int .i64 0) ∧ u.cell? ⟨gx, 6, none⟩ = some (.int .i64 504)) ∧ u.cell? ⟨gj, 1, none⟩ = some (.int .u64 4) ∧ u.cell? ⟨gj, 2, none⟩ = some (.int .u64 2))) := Lib.hid fun u b => ⟨Blk.seven ((X5.out.after b).get (g := gx) (cs := #[.int .u8 3, .int .u64 0, .int .u64 0, .int .u64 0, .int .u64 0, .int .i64 0, .int .i64 504]) (t := 30) (by simp)), by rw [← e1.out]; exact (vB.cells (v := j) ((X5.out.after b).get (g := gj) (cs := vCells j) (t := 30) (by simp))).2.1, by rw [← e2.out]; exact (vB.cells (v := j) ((X5.out.after b).get (g := gj) (cs := vCells j) (t := 30) (by simp))).2.2.1⟩
  have QB : Hid (Below w6.heap.size w6 w6.drew) := Lib.hid (Below.drew (Below.refl _ _))
  refine wp_region_held_drew (S := fun w' => (w'.cell? ⟨gx, 0, none⟩ = some (.int .u8 3) ∧ w'.cell? ⟨gx, 1, none⟩ = some (.int .u64 0) ∧ w'.cell? ⟨gx, 2, none⟩ = some (.int .u64 0) ∧ w'.cell? ⟨gx, 3, none⟩ = some (.int .u64 0) ∧ w'.cell? ⟨gx, 4, none⟩ = some (.int .u64 0) ∧ w'.cell? ⟨gx, 5, none⟩ = some (.int .i64 0) ∧ w'.cell? ⟨gx, 6, none⟩ = some (.int .i64 504)) ∧ w'.cell? ⟨gj, 1, none⟩ = some (.int .u64 4) ∧ w'.cell? ⟨gj, 2, none⟩ = some (.int .u64 2)) (by kernel_rfl) (SD.out _ QB.out) (fun hHeld => ?_)
  generalize w6.drew = wd at *
  refine wpAnyH_take (i := 0) (oi := { dst := some 12, op := Op.move (Operand.tmp 2), type := 4, pos := "law.go:19", after := #[], guard := none }) (v := ?_) rfl (by kernel_rfl) (by kernel_rfl) (by kernel_rfl) (fun _ _ _ h => h) (Or.inl ⟨by rfl, ?_⟩) (by first | exact hHeld | assumption) ?_
  rotate_left 1
  · intro w hSw; (try dsimp only at hSw); go_simp; try (with_reducible rfl)
  try simp only [Act.put, List.setIfInBounds_toArray, List.set_cons_zero, List.set_cons_succ]
  refine wpAnyH_take (i := 1) (oi := { dst := some 13, op := Op.move (Operand.tmp 12), type := 4, pos := "law.go:19", after := #[{ on := 0, ground := Ground.data }], guard := none }) (v := ?_) rfl (by kernel_rfl) (by kernel_rfl) (by kernel_rfl) (fun _ _ _ h => h) (Or.inl ⟨by rfl, ?_⟩) (by first | exact hHeld | assumption) ?_
  rotate_left 1
  · intro w hSw; (try dsimp only at hSw); go_simp; try (with_reducible rfl)
  try simp only [Act.put, List.setIfInBounds_toArray, List.set_cons_zero, List.set_cons_succ]
  refine wpAnyH_take (i := 2) (oi := { dst := some 14, op := Op.load 30 (Operand.tmp 1), type := 30, pos := "law.go:19", after := #[{ on := 1, ground := Ground.guard }], guard := some (1, true) }) (v := ?_) rfl (by kernel_rfl) (by kernel_rfl) (by kernel_rfl) (fun _ _ _ h => h) (Or.inl ⟨by rfl, ?_⟩) (by first | exact hHeld | assumption) ?_
  rotate_left 1
  · intro w hSw; (try dsimp only at hSw); go_simp; try (with_reducible rfl)
  try simp only [Act.put, List.setIfInBounds_toArray, List.set_cons_zero, List.set_cons_succ]
  refine wpAnyH_take (i := 3) (oi := { dst := some 15, op := Op.build 30 #[(0, Operand.const (Value.int IntKind.u8 3)), (3, Operand.const (Value.int IntKind.i64 504))], type := 30, pos := "law.go:19", after := #[{ on := 1, ground := Ground.guard }], guard := some (1, true) }) (v := ?_) rfl (by kernel_rfl) (by kernel_rfl) (by kernel_rfl) (fun _ _ _ h => h) (Or.inl ⟨by rfl, ?_⟩) (by first | exact hHeld | assumption) ?_
  rotate_left 1
  · intro w hSw; (try dsimp only at hSw); go_simp; try (with_reducible rfl)
  try simp only [Act.put, List.setIfInBounds_toArray, List.set_cons_zero, List.set_cons_succ]
  refine wpAnyH_take (i := 4) (oi := { dst := some 16, op := Op.binOp BinOp.eql 30 (Operand.tmp 14) (Operand.tmp 15) 30, type := 4, pos := "law.go:19", after := #[{ on := 2, ground := Ground.data }, { on := 3, ground := Ground.data }, { on := 1, ground := Ground.guard }], guard := some (1, true) }) (v := ?_) rfl (by kernel_rfl) (by kernel_rfl) (by kernel_rfl) (fun _ _ _ h => h) (Or.inl ⟨by rfl, ?_⟩) (by first | exact hHeld | assumption) ?_
  rotate_left 1
  · intro w hSw; (try dsimp only at hSw); go_simp; try (with_reducible rfl)
  try simp only [Act.put, List.setIfInBounds_toArray, List.set_cons_zero, List.set_cons_succ]
  refine wpAnyH_take (i := 5) (oi := { dst := some 17, op := Op.pick (Operand.tmp 13) (Operand.tmp 16) (Operand.const (Value.bool false)), type := 4, pos := "law.go:19", after := #[{ on := 1, ground := Ground.data }, { on := 4, ground := Ground.data }], guard := none }) (v := ?_) rfl (by kernel_rfl) (by kernel_rfl) (by kernel_rfl) (fun _ _ _ h => h) (Or.inl ⟨by rfl, ?_⟩) (by first | exact hHeld | assumption) ?_
  rotate_left 1
  · intro w hSw; (try dsimp only at hSw); go_simp; try (with_reducible rfl)
  try simp only [Act.put, List.setIfInBounds_toArray, List.set_cons_zero, List.set_cons_succ]
  refine wpAnyH_take (i := 6) (oi := { dst := some 18, op := Op.move (Operand.tmp 17), type := 4, pos := "law.go:19", after := #[{ on := 5, ground := Ground.data }, { on := 1, ground := Ground.chain }], guard := none }) (v := ?_) rfl (by kernel_rfl) (by kernel_rfl) (by kernel_rfl) (fun _ _ _ h => h) (Or.inl ⟨by rfl, ?_⟩) (by first | exact hHeld | assumption) ?_
  rotate_left 1
  · intro w hSw; (try dsimp only at hSw); go_simp; try (with_reducible rfl)
  try simp only [Act.put, List.setIfInBounds_toArray, List.set_cons_zero, List.set_cons_succ]
  refine wpAnyH_take (i := 7) (oi := { dst := some 19, op := Op.load 30 (Operand.tmp 1), type := 30, pos := "law.go:19", after := #[{ on := 6, ground := Ground.guard }], guard := some (6, true) }) (v := ?_) rfl (by kernel_rfl) (by kernel_rfl) (by kernel_rfl) (fun _ _ _ h => h) (Or.inl ⟨by rfl, ?_⟩) (by first | exact hHeld | assumption) ?_
  rotate_left 1
  · intro w hSw; (try dsimp only at hSw); go_simp; try (with_reducible rfl)
  try simp only [Act.put, List.setIfInBounds_toArray, List.set_cons_zero, List.set_cons_succ]
  refine wpAnyH_ready (rs := [8]) (by kernel_rfl) (by simp) ?_
  refine AllReadyH.cons (o := { dst := some 20, op := Op.call { callee := Callee.value (Operand.func 27), args := #[Operand.const (Value.int IntKind.i64 2), Operand.const (Value.int IntKind.i64 504)], argTypes := #[3, 3] }, type := 22, pos := "law.go:19", after := #[{ on := 6, ground := Ground.chain }, { on := 6, ground := Ground.guard }], guard := some (6, true) }) rfl (fun K hK => ?_) AllReadyH.nil
  go_simp
  refine (A.out _).mono ?_; rintro e u1 ⟨rfl, b⟩
  replace QB := Lib.hid (below_next' QB.out b)
  clear b
  go_wp2_with fail
  refine hK.out _ _ (SD.out _ QB.out) (fun hHeld => ?_)
  clear hK K
  try simp only [Act.put, List.setIfInBounds_toArray, List.set_cons_zero, List.set_cons_succ]
  refine wpAnyH_ready (rs := [9]) (by kernel_rfl) (by simp) ?_
  refine AllReadyH.cons (o := { dst := some 21, op := Op.call { callee := Callee.value (Operand.func 18), args := #[Operand.tmp 19, Operand.tmp 20, Operand.const (Value.bool true)], argTypes := #[30, 22, 4] }, type := 4, pos := "law.go:19", after := #[{ on := 7, ground := Ground.data }, { on := 8, ground := Ground.data }, { on := 8, ground := Ground.chain }, { on := 6, ground := Ground.guard }], guard := some (6, true) }) rfl (fun K hK => ?_) AllReadyH.nil
  go_simp
  refine (I.out _).mono ?_; rintro e u1 ⟨rfl, b⟩
  replace QB := Lib.hid (below_next' QB.out b)
  clear b
  go_wp2_with fail
  refine hK.out _ _ (SD.out _ QB.out) (fun hHeld => ?_)
  clear hK K
  try simp only [Act.put, List.setIfInBounds_toArray, List.set_cons_zero, List.set_cons_succ]
  refine wpAnyH_take (i := 10) (oi := { dst := some 22, op := Op.pick (Operand.tmp 18) (Operand.tmp 21) (Operand.const (Value.bool false)), type := 4, pos := "law.go:19", after := #[{ on := 6, ground := Ground.data }, { on := 9, ground := Ground.data }], guard := none }) (v := ?_) rfl (by kernel_rfl) (by kernel_rfl) (by kernel_rfl) (fun _ _ _ h => h) (Or.inl ⟨by rfl, ?_⟩) (by first | exact hHeld | assumption) ?_
  rotate_left 1
  · intro w hSw; (try dsimp only at hSw); go_simp; try (with_reducible rfl)
  try simp only [Act.put, List.setIfInBounds_toArray, List.set_cons_zero, List.set_cons_succ]
  refine wpAnyH_take (i := 11) (oi := { dst := some 23, op := Op.move (Operand.tmp 22), type := 4, pos := "law.go:19", after := #[{ on := 10, ground := Ground.data }, { on := 9, ground := Ground.chain }], guard := none }) (v := ?_) rfl (by kernel_rfl) (by kernel_rfl) (by kernel_rfl) (fun _ _ _ h => h) (Or.inl ⟨by rfl, ?_⟩) (by first | exact hHeld | assumption) ?_
  rotate_left 1
  · intro w hSw; (try dsimp only at hSw); go_simp; try (with_reducible rfl)
  try simp only [Act.put, List.setIfInBounds_toArray, List.set_cons_zero, List.set_cons_succ]
  refine wpAnyH_take (i := 12) (oi := { dst := some 24, op := Op.fieldAddr 30 (Operand.tmp 3) 1, type := 0, pos := "law.go:19", after := #[{ on := 11, ground := Ground.guard }], guard := some (11, true) }) (v := ?_) rfl (by kernel_rfl) (by kernel_rfl) (by kernel_rfl) (fun _ _ _ h => h) (Or.inl ⟨by rfl, ?_⟩) (by first | exact hHeld | assumption) ?_
  rotate_left 1
  · intro w hSw; (try dsimp only at hSw); go_simp; try (with_reducible rfl)
  try simp only [Act.put, List.setIfInBounds_toArray, List.set_cons_zero, List.set_cons_succ]
  refine wpAnyH_take (i := 13) (oi := { dst := some 25, op := Op.fieldAddr 28 (Operand.tmp 24) 0, type := 0, pos := "law.go:19", after := #[{ on := 12, ground := Ground.data }, { on := 11, ground := Ground.guard }], guard := some (11, true) }) (v := ?_) rfl (by kernel_rfl) (by kernel_rfl) (by kernel_rfl) (fun _ _ _ h => h) (Or.inl ⟨by rfl, ?_⟩) (by first | exact hHeld | assumption) ?_
  rotate_left 1
  · intro w hSw; (try dsimp only at hSw); go_simp; try (with_reducible rfl)
  try simp only [Act.put, List.setIfInBounds_toArray, List.set_cons_zero, List.set_cons_succ]
  refine wpAnyH_take (i := 14) (oi := { dst := some 26, op := Op.load 24 (Operand.tmp 25), type := 24, pos := "law.go:19", after := #[{ on := 13, ground := Ground.data }, { on := 11, ground := Ground.guard }], guard := some (11, true) }) (v := ?_) rfl (by kernel_rfl) (by kernel_rfl) (by kernel_rfl) (fun _ _ _ h => h) (Or.inl ⟨by rfl, ?_⟩) (by first | exact hHeld | assumption) ?_
  rotate_left 1
  · intro w hSw; (try dsimp only at hSw); go_simp; try (with_reducible rfl)
  try simp only [Act.put, List.setIfInBounds_toArray, List.set_cons_zero, List.set_cons_succ]
  refine wpAnyH_take (i := 15) (oi := { dst := some 27, op := Op.build 24 #[(0, Operand.const (Value.int IntKind.u64 4)), (1, Operand.const (Value.int IntKind.u64 2))], type := 24, pos := "law.go:19", after := #[{ on := 11, ground := Ground.guard }], guard := some (11, true) }) (v := ?_) rfl (by kernel_rfl) (by kernel_rfl) (by kernel_rfl) (fun _ _ _ h => h) (Or.inl ⟨by rfl, ?_⟩) (by first | exact hHeld | assumption) ?_
  rotate_left 1
  · intro w hSw; (try dsimp only at hSw); go_simp; try (with_reducible rfl)
  try simp only [Act.put, List.setIfInBounds_toArray, List.set_cons_zero, List.set_cons_succ]
  refine wpAnyH_take (i := 16) (oi := { dst := some 28, op := Op.binOp BinOp.eql 24 (Operand.tmp 26) (Operand.tmp 27) 24, type := 4, pos := "law.go:19", after := #[{ on := 14, ground := Ground.data }, { on := 15, ground := Ground.data }, { on := 11, ground := Ground.guard }], guard := some (11, true) }) (v := ?_) rfl (by kernel_rfl) (by kernel_rfl) (by kernel_rfl) (fun _ _ _ h => h) (Or.inl ⟨by rfl, ?_⟩) (by first | exact hHeld | assumption) ?_
  rotate_left 1
  · intro w hSw; (try dsimp only at hSw); go_simp; try (with_reducible rfl)
  try simp only [Act.put, List.setIfInBounds_toArray, List.set_cons_zero, List.set_cons_succ]
  refine wpAnyH_take (i := 17) (oi := { dst := some 29, op := Op.pick (Operand.tmp 23) (Operand.tmp 28) (Operand.const (Value.bool false)), type := 4, pos := "law.go:19", after := #[{ on := 11, ground := Ground.data }, { on := 16, ground := Ground.data }], guard := none }) (v := ?_) rfl (by kernel_rfl) (by kernel_rfl) (by kernel_rfl) (fun _ _ _ h => h) (Or.inl ⟨by rfl, ?_⟩) (by first | exact hHeld | assumption) ?_
  rotate_left 1
  · intro w hSw; (try dsimp only at hSw); go_simp; try (with_reducible rfl)
  try simp only [Act.put, List.setIfInBounds_toArray, List.set_cons_zero, List.set_cons_succ]
  refine wpAnyH_take (i := 18) (oi := { dst := some 0, op := Op.assign (Operand.tmp 29), type := 4, pos := "law.go:19", after := #[{ on := 17, ground := Ground.data }, { on := 11, ground := Ground.chain }, { on := 0, ground := Ground.phase }, { on := 1, ground := Ground.phase }, { on := 2, ground := Ground.phase }, { on := 3, ground := Ground.phase }, { on := 4, ground := Ground.phase }, { on := 5, ground := Ground.phase }, { on := 6, ground := Ground.phase }, { on := 7, ground := Ground.phase }, { on := 8, ground := Ground.phase }, { on := 9, ground := Ground.phase }, { on := 10, ground := Ground.phase }, { on := 11, ground := Ground.phase }, { on := 12, ground := Ground.phase }, { on := 13, ground := Ground.phase }, { on := 14, ground := Ground.phase }, { on := 15, ground := Ground.phase }, { on := 16, ground := Ground.phase }, { on := 17, ground := Ground.phase }], guard := none }) (v := ?_) rfl (by kernel_rfl) (by kernel_rfl) (by kernel_rfl) (fun _ _ _ h => h) (Or.inl ⟨by rfl, ?_⟩) (by first | exact hHeld | assumption) ?_
  rotate_left 1
  · intro w hSw; (try dsimp only at hSw); go_simp; try (with_reducible rfl)
  try simp only [Act.put, List.setIfInBounds_toArray, List.set_cons_zero, List.set_cons_succ]
  refine wpAnyH_done (by kernel_rfl) ?_ _
  go_wp2_with fail
  go_ret
  exact ⟨rfl, below_next' X5.out.1 QB.out⟩

end Go.Proofs.Ytgjcbcpedoihaaa

namespace Go.Proofs.Ytgjcbcpedoihaaa
open Go.ChangeShapes Go.WideShapes Go.RowKit
set_option maxRecDepth 100000
set_option linter.unusedVariables false

section
variable {H : Type} {enc : TypeId × Value → H} {w : World} {base : Nat} {spare : Nat → Bool} {held : Bool}
set_option maxRecDepth 100000 in
theorem open_val {r : Reach} {b0 : Nat} {v : Value} {d : DataW H} {p : List MemPlace} (hv : Value.okWide Try.prog w r b0 30 v) (h : DataW.Trod enc Try.prog w base spare held 30 v d p) :
    ∃ a : Vl, v = vV a ∧ vIn a := by
  obtain ⟨l, rfl, hl⟩ := agg_of_struct Try.underlying30 hv
  have hc : Try.prog.cellsOf 30 = 7 := by kernel_rfl
  rw [hc] at hl
  obtain ⟨n0, e0, w0⟩ := LeafOk.int_ (leaf_of_Trod h 8 0 (L := some .u8) (by kernel_rfl))
  obtain ⟨n1, e1, w1⟩ := LeafOk.int_ (leaf_of_Trod h 8 1 (L := some .u64) (by kernel_rfl))
  obtain ⟨n2, e2, w2⟩ := LeafOk.int_ (leaf_of_Trod h 8 2 (L := some .u64) (by kernel_rfl))
  obtain ⟨n3, e3, w3⟩ := LeafOk.int_ (leaf_of_Trod h 8 3 (L := some .u64) (by kernel_rfl))
  obtain ⟨n4, e4, w4⟩ := LeafOk.int_ (leaf_of_Trod h 8 4 (L := some .u64) (by kernel_rfl))
  obtain ⟨n5, e5, w5⟩ := LeafOk.int_ (leaf_of_Trod h 8 5 (L := some .i64) (by kernel_rfl))
  obtain ⟨n6, e6, w6⟩ := LeafOk.int_ (leaf_of_Trod h 8 6 (L := some .i64) (by kernel_rfl))
  match l, hl with
  | [c0, c1, c2, c3, c4, c5, c6], _ =>
    simp [Value.cells] at e0 e1 e2 e3 e4 e5 e6
    subst e0 e1 e2 e3 e4 e5 e6
    obtain ⟨x, rfl⟩ := bv_of (bounds_u64 w1)
    obtain ⟨y, rfl⟩ := bv_of (bounds_u64 w2)
    exact ⟨⟨n0, ((x, y), (n3, n4)), n5, n6⟩, rfl, bounds_u8 w0, ⟨bounds_u64 w3, bounds_u64 w4⟩, bounds_i64 w5, bounds_i64 w6⟩
end

end Go.Proofs.Ytgjcbcpedoihaaa
