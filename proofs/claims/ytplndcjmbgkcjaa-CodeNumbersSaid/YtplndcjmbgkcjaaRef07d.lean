/-
  The document's own answers of layer 7: what needs no more than its Op.
  Conditions: the numbers fit their kinds.
-/
import Derived.Test.YtplndcjmbgkcjaaWhBox
import Derived.Test.YtplndcjmbgkcjaaRef07a
import Derived.Deep.RegionHeld3
import Derived.Deep.DeepCutAuto
import Derived.Deep.CutBlock
namespace Go.Proofs.Ytplndcjmbgkcjaa
open Go.RowKit
set_option linter.unusedVariables false

set_option maxRecDepth 100000 in
set_option maxHeartbeats 8000000 in
theorem r7_swaps_dst (x : Ins) (h : x.op = 212 ∨ x.op = 220 ∨ x.op = 215) (wide : Bool) (hw : (x.op != 212) = wide) (l1 : -2147483648 ≤ x.imm) (l2 : x.imm ≤ 2147483647) (hd : (x.dst != 10) = false) (w : World) :
    Calls Try.prog 59 #[iV x] w (Gives (.tuple #[whV (⟨2, 0, wide, false, false, x.imm.tdiv 8⟩ : Wh), .bool false]) w) := by
  have P := Lib.hid (IDuo.new x Wh.zero w)
  have h' := Lib.hid h
  have hw' := Lib.hid hw
  clear h hw
  go_enter Try.func59, Try.ntmps59
  go_upto_if 7 with fail
  go_cut [7] (fun s wx => s = .bool true ∧ Hid (IDuo x Wh.zero w wx))
  case first =>
    rcases h'.out with e | e | e
    · skip
      have k0 : (x.op == 212) = true := by rw [e]; rfl
      clear e
      go_wp2_with fail
      go_meet
      exact ⟨by rw [k0], P⟩
    · skip
      have k0 : (x.op == 212) = false := by rw [e]; rfl
      have k1 : (x.op == 220) = true := by rw [e]; rfl
      clear e
      go_wp2_with fail
      go_meet
      exact ⟨rfl, P⟩
    · skip
      have k0 : (x.op == 212) = false := by rw [e]; rfl
      have k1 : (x.op == 220) = false := by rw [e]; rfl
      have k2 : (x.op == 215) = true := by rw [e]; rfl
      clear e
      go_wp2_with fail
      go_meet
      exact ⟨rfl, P⟩
  case rest =>
    obtain ⟨rfl, Q⟩ := hcut
    clear P
    obtain ⟨p0, p1, p2, p3, p4⟩ := Q.out.2.1.cells
    go_upto_region 5 with fail
    go_cut [4] (fun s wx => ∃ gb, s = .pointer (some ⟨gb, 0, none⟩) ∧ w.heap.size + 1 < gb ∧ Hid (IDuo x Wh.zero w wx ∧ whB gb (⟨2, 0, wide, false, false, x.imm.tdiv 8⟩ : Wh) wx))
    case first =>
      have kq := Q.out.2.2.lt
      go_wp2_with fail
      go_meet
      rw [← hw'.out]
      exact ⟨_, rfl, kq, Lib.hid ⟨Q.out.after (below_alloc (Below.refl _ _) _), whB.new _ _ rfl⟩⟩
    case rest =>
      clear Q p0 p1 p2 p3 p4
      obtain ⟨gb, rfl, kq, Q⟩ := hcut
      generalize x.imm.tdiv 8 = sz at *
      have PD := Lib.hid (And.intro (Q.out.1.after (Below.drew (Below.refl _ _))) (Q.out.2.after (Below.drew (Below.refl _ _))))
      have H : Hid (∀ v wx, IDuo x v w wx ∧ whB gb (⟨2, 0, wide, false, false, sz⟩ : Wh) wx → (wx.cell? ⟨w.heap.size, 0, none⟩ = some (.int .u8 x.op) ∧ wx.cell? ⟨w.heap.size, 1, none⟩ = some (.int .u8 x.dst) ∧ wx.cell? ⟨w.heap.size, 2, none⟩ = some (.int .u8 x.src) ∧ wx.cell? ⟨w.heap.size, 3, none⟩ = some (.int .i16 x.off) ∧ wx.cell? ⟨w.heap.size, 4, none⟩ = some (.int .i32 x.imm)) ∧ (wx.cell? ⟨gb, 0, none⟩ = some (.int .u8 (⟨2, 0, wide, false, false, sz⟩ : Wh).kind) ∧ wx.cell? ⟨gb, 1, none⟩ = some (.int .u8 (⟨2, 0, wide, false, false, sz⟩ : Wh).op) ∧ wx.cell? ⟨gb, 2, none⟩ = some (.bool (⟨2, 0, wide, false, false, sz⟩ : Wh).wide) ∧ wx.cell? ⟨gb, 3, none⟩ = some (.bool (⟨2, 0, wide, false, false, sz⟩ : Wh).reg) ∧ wx.cell? ⟨gb, 4, none⟩ = some (.bool (⟨2, 0, wide, false, false, sz⟩ : Wh).signed) ∧ wx.cell? ⟨gb, 5, none⟩ = some (.int .i64 (⟨2, 0, wide, false, false, sz⟩ : Wh).size))) := Lib.hid fun v wx hx => ⟨hx.1.2.1.cells, hx.2.cells⟩
      go_upto_region 6 with fail
      refine wp_region_held_drew (S := (fun w' => (w'.cell? ⟨w.heap.size, 0, none⟩ = some (.int .u8 x.op) ∧ w'.cell? ⟨w.heap.size, 1, none⟩ = some (.int .u8 x.dst) ∧ w'.cell? ⟨w.heap.size, 2, none⟩ = some (.int .u8 x.src) ∧ w'.cell? ⟨w.heap.size, 3, none⟩ = some (.int .i16 x.off) ∧ w'.cell? ⟨w.heap.size, 4, none⟩ = some (.int .i32 x.imm)) ∧ (w'.cell? ⟨gb, 0, none⟩ = some (.int .u8 (⟨2, 0, wide, false, false, sz⟩ : Wh).kind) ∧ w'.cell? ⟨gb, 1, none⟩ = some (.int .u8 (⟨2, 0, wide, false, false, sz⟩ : Wh).op) ∧ w'.cell? ⟨gb, 2, none⟩ = some (.bool (⟨2, 0, wide, false, false, sz⟩ : Wh).wide) ∧ w'.cell? ⟨gb, 3, none⟩ = some (.bool (⟨2, 0, wide, false, false, sz⟩ : Wh).reg) ∧ w'.cell? ⟨gb, 4, none⟩ = some (.bool (⟨2, 0, wide, false, false, sz⟩ : Wh).signed) ∧ w'.cell? ⟨gb, 5, none⟩ = some (.int .i64 (⟨2, 0, wide, false, false, sz⟩ : Wh).size)))) (by kernel_rfl) (H.out _ _ PD.out) (fun hHeld => ?_)
      refine wpAnyH_take (i := 0) (oi := { dst := some 19, op := Op.load 26 (Operand.tmp 4), type := 26, pos := "ref.go:84", after := #[], guard := none }) (v := ?_) rfl (by kernel_rfl) (by kernel_rfl) (by kernel_rfl) (fun _ _ _ h => h) (Or.inl ⟨by rfl, ?_⟩) (by assumption) ?_
      rotate_left 1
      · intro w hSw; (try dsimp only at hSw); go_simp; try (with_reducible rfl)
      try simp only [Act.put, List.setIfInBounds_toArray, List.set_cons_zero, List.set_cons_succ]
      refine wpAnyH_take (i := 1) (oi := { dst := some 20, op := Op.fieldAddr 24 (Operand.tmp 1) 1, type := 0, pos := "ref.go:84", after := #[], guard := none }) (v := ?_) rfl (by kernel_rfl) (by kernel_rfl) (by kernel_rfl) (fun _ _ _ h => h) (Or.inl ⟨by rfl, ?_⟩) (by assumption) ?_
      rotate_left 1
      · intro w hSw; (try dsimp only at hSw); go_simp; try (with_reducible rfl)
      try simp only [Act.put, List.setIfInBounds_toArray, List.set_cons_zero, List.set_cons_succ]
      refine wpAnyH_take (i := 2) (oi := { dst := some 21, op := Op.load 5 (Operand.tmp 20), type := 5, pos := "ref.go:84", after := #[{ on := 1, ground := Ground.data }], guard := none }) (v := ?_) rfl (by kernel_rfl) (by kernel_rfl) (by kernel_rfl) (fun _ _ _ h => h) (Or.inl ⟨by rfl, ?_⟩) (by assumption) ?_
      rotate_left 1
      · intro w hSw; (try dsimp only at hSw); go_simp; try (with_reducible rfl)
      try simp only [Act.put, List.setIfInBounds_toArray, List.set_cons_zero, List.set_cons_succ]
      refine wpAnyH_take (i := 3) (oi := { dst := some 22, op := Op.binOp BinOp.neq 5 (Operand.tmp 21) (Operand.const (Value.int IntKind.u8 10)) 5, type := 4, pos := "ref.go:84", after := #[{ on := 2, ground := Ground.data }], guard := none }) (v := ?_) rfl (by kernel_rfl) (by kernel_rfl) (by kernel_rfl) (fun _ _ _ h => h) (Or.inl ⟨by rfl, ?_⟩) (by assumption) ?_
      rotate_left 1
      · intro w hSw; (try dsimp only at hSw); go_simp; try (with_reducible rfl)
      try simp only [Act.put, List.setIfInBounds_toArray, List.set_cons_zero, List.set_cons_succ]
      refine wpAnyH_take (i := 4) (oi := { dst := some 23, op := Op.move (Operand.tmp 22), type := 4, pos := "ref.go:84", after := #[{ on := 3, ground := Ground.data }], guard := none }) (v := ?_) rfl (by kernel_rfl) (by kernel_rfl) (by kernel_rfl) (fun _ _ _ h => h) (Or.inl ⟨by rfl, ?_⟩) (by assumption) ?_
      rotate_left 1
      · intro w hSw; (try dsimp only at hSw); go_simp; try (with_reducible rfl)
      try simp only [Act.put, List.setIfInBounds_toArray, List.set_cons_zero, List.set_cons_succ]
      refine wpAnyH_take (i := 5) (oi := { dst := some 24, op := Op.load 24 (Operand.tmp 1), type := 24, pos := "ref.go:84", after := #[{ on := 4, ground := Ground.guard }], guard := some (4, true) }) (v := undef) rfl (by kernel_rfl) (by kernel_rfl) (by kernel_rfl) (fun _ _ _ h => h) (Or.inr ⟨by rfl, rfl⟩) (by assumption) ?_
      try simp only [Act.put, List.setIfInBounds_toArray, List.set_cons_zero, List.set_cons_succ]
      refine wpAnyH_take (i := 6) (oi := { dst := some 25, op := Op.call { callee := Callee.value (Operand.func 61), args := #[Operand.tmp 24, Operand.const (Value.bool false), Operand.const (Value.bool false), Operand.const (Value.bool true)], argTypes := #[24, 4, 4, 4] }, type := 4, pos := "ref.go:84", after := #[{ on := 5, ground := Ground.data }, { on := 4, ground := Ground.chain }, { on := 4, ground := Ground.guard }], guard := some (4, true) }) (v := undef) rfl (by kernel_rfl) (by kernel_rfl) (by kernel_rfl) (fun _ _ _ h => h) (Or.inr ⟨by rfl, rfl⟩) (by assumption) ?_
      try simp only [Act.put, List.setIfInBounds_toArray, List.set_cons_zero, List.set_cons_succ]
      refine wpAnyH_take (i := 7) (oi := { dst := some 26, op := Op.pick (Operand.tmp 23) (Operand.tmp 25) (Operand.const (Value.bool false)), type := 4, pos := "ref.go:84", after := #[{ on := 4, ground := Ground.data }, { on := 6, ground := Ground.data }], guard := none }) (v := ?_) rfl (by kernel_rfl) (by kernel_rfl) (by kernel_rfl) (fun _ _ _ h => h) (Or.inl ⟨by rfl, ?_⟩) (by assumption) ?_
      rotate_left 1
      · intro w hSw; (try dsimp only at hSw); go_simp; try (with_reducible rfl)
      try simp only [Act.put, List.setIfInBounds_toArray, List.set_cons_zero, List.set_cons_succ]
      refine wpAnyH_take (i := 8) (oi := { dst := some 27, op := Op.move (Operand.tmp 26), type := 4, pos := "ref.go:84", after := #[{ on := 7, ground := Ground.data }, { on := 6, ground := Ground.chain }], guard := none }) (v := ?_) rfl (by kernel_rfl) (by kernel_rfl) (by kernel_rfl) (fun _ _ _ h => h) (Or.inl ⟨by rfl, ?_⟩) (by assumption) ?_
      rotate_left 1
      · intro w hSw; (try dsimp only at hSw); go_simp; try (with_reducible rfl)
      try simp only [Act.put, List.setIfInBounds_toArray, List.set_cons_zero, List.set_cons_succ]
      refine wpAnyH_take (i := 9) (oi := { dst := some 28, op := Op.fieldAddr 24 (Operand.tmp 1) 4, type := 0, pos := "ref.go:84", after := #[{ on := 8, ground := Ground.guard }], guard := some (8, true) }) (v := undef) rfl (by kernel_rfl) (by kernel_rfl) (by kernel_rfl) (fun _ _ _ h => h) (Or.inr ⟨by rfl, rfl⟩) (by assumption) ?_
      try simp only [Act.put, List.setIfInBounds_toArray, List.set_cons_zero, List.set_cons_succ]
      refine wpAnyH_take (i := 10) (oi := { dst := some 29, op := Op.load 21 (Operand.tmp 28), type := 21, pos := "ref.go:84", after := #[{ on := 9, ground := Ground.data }, { on := 8, ground := Ground.guard }], guard := some (8, true) }) (v := undef) rfl (by kernel_rfl) (by kernel_rfl) (by kernel_rfl) (fun _ _ _ h => h) (Or.inr ⟨by rfl, rfl⟩) (by assumption) ?_
      try simp only [Act.put, List.setIfInBounds_toArray, List.set_cons_zero, List.set_cons_succ]
      refine wpAnyH_take (i := 11) (oi := { dst := some 30, op := Op.binOp BinOp.eql 21 (Operand.tmp 29) (Operand.const (Value.int IntKind.i32 16)) 21, type := 4, pos := "ref.go:84", after := #[{ on := 10, ground := Ground.data }, { on := 8, ground := Ground.guard }], guard := some (8, true) }) (v := undef) rfl (by kernel_rfl) (by kernel_rfl) (by kernel_rfl) (fun _ _ _ h => h) (Or.inr ⟨by rfl, rfl⟩) (by assumption) ?_
      try simp only [Act.put, List.setIfInBounds_toArray, List.set_cons_zero, List.set_cons_succ]
      refine wpAnyH_take (i := 12) (oi := { dst := some 31, op := Op.move (Operand.tmp 30), type := 4, pos := "ref.go:84", after := #[{ on := 11, ground := Ground.data }, { on := 8, ground := Ground.chain }, { on := 8, ground := Ground.guard }], guard := some (8, true) }) (v := undef) rfl (by kernel_rfl) (by kernel_rfl) (by kernel_rfl) (fun _ _ _ h => h) (Or.inr ⟨by rfl, rfl⟩) (by assumption) ?_
      try simp only [Act.put, List.setIfInBounds_toArray, List.set_cons_zero, List.set_cons_succ]
      refine wpAnyH_take (i := 13) (oi := { dst := some 32, op := Op.fieldAddr 24 (Operand.tmp 1) 4, type := 0, pos := "ref.go:84", after := #[{ on := 12, ground := Ground.guard }], guard := some (12, false) }) (v := undef) rfl (by kernel_rfl) (by kernel_rfl) (by kernel_rfl) (fun _ _ _ h => h) (Or.inr ⟨by rfl, rfl⟩) (by assumption) ?_
      try simp only [Act.put, List.setIfInBounds_toArray, List.set_cons_zero, List.set_cons_succ]
      refine wpAnyH_take (i := 14) (oi := { dst := some 33, op := Op.load 21 (Operand.tmp 32), type := 21, pos := "ref.go:84", after := #[{ on := 13, ground := Ground.data }, { on := 12, ground := Ground.guard }], guard := some (12, false) }) (v := undef) rfl (by kernel_rfl) (by kernel_rfl) (by kernel_rfl) (fun _ _ _ h => h) (Or.inr ⟨by rfl, rfl⟩) (by assumption) ?_
      try simp only [Act.put, List.setIfInBounds_toArray, List.set_cons_zero, List.set_cons_succ]
      refine wpAnyH_take (i := 15) (oi := { dst := some 34, op := Op.binOp BinOp.eql 21 (Operand.tmp 33) (Operand.const (Value.int IntKind.i32 32)) 21, type := 4, pos := "ref.go:84", after := #[{ on := 14, ground := Ground.data }, { on := 12, ground := Ground.guard }], guard := some (12, false) }) (v := undef) rfl (by kernel_rfl) (by kernel_rfl) (by kernel_rfl) (fun _ _ _ h => h) (Or.inr ⟨by rfl, rfl⟩) (by assumption) ?_
      try simp only [Act.put, List.setIfInBounds_toArray, List.set_cons_zero, List.set_cons_succ]
      refine wpAnyH_take (i := 16) (oi := { dst := some 35, op := Op.pick (Operand.tmp 31) (Operand.const (Value.bool true)) (Operand.tmp 34), type := 4, pos := "ref.go:84", after := #[{ on := 12, ground := Ground.data }, { on := 15, ground := Ground.data }, { on := 8, ground := Ground.guard }], guard := some (8, true) }) (v := undef) rfl (by kernel_rfl) (by kernel_rfl) (by kernel_rfl) (fun _ _ _ h => h) (Or.inr ⟨by rfl, rfl⟩) (by assumption) ?_
      try simp only [Act.put, List.setIfInBounds_toArray, List.set_cons_zero, List.set_cons_succ]
      refine wpAnyH_take (i := 17) (oi := { dst := some 36, op := Op.move (Operand.tmp 35), type := 4, pos := "ref.go:84", after := #[{ on := 16, ground := Ground.data }, { on := 12, ground := Ground.chain }, { on := 8, ground := Ground.guard }], guard := some (8, true) }) (v := undef) rfl (by kernel_rfl) (by kernel_rfl) (by kernel_rfl) (fun _ _ _ h => h) (Or.inr ⟨by rfl, rfl⟩) (by assumption) ?_
      try simp only [Act.put, List.setIfInBounds_toArray, List.set_cons_zero, List.set_cons_succ]
      refine wpAnyH_take (i := 18) (oi := { dst := some 37, op := Op.fieldAddr 24 (Operand.tmp 1) 4, type := 0, pos := "ref.go:84", after := #[{ on := 17, ground := Ground.guard }, { on := 23, ground := Ground.gcOnly Departure.lateStores }], guard := some (17, false) }) (v := undef) rfl (by kernel_rfl) (by kernel_rfl) (by kernel_rfl) (fun _ _ _ h => h) (Or.inr ⟨by rfl, rfl⟩) (by assumption) ?_
      try simp only [Act.put, List.setIfInBounds_toArray, List.set_cons_zero, List.set_cons_succ]
      refine wpAnyH_take (i := 19) (oi := { dst := some 38, op := Op.load 21 (Operand.tmp 37), type := 21, pos := "ref.go:84", after := #[{ on := 18, ground := Ground.data }, { on := 17, ground := Ground.guard }, { on := 23, ground := Ground.gcOnly Departure.lateStores }], guard := some (17, false) }) (v := undef) rfl (by kernel_rfl) (by kernel_rfl) (by kernel_rfl) (fun _ _ _ h => h) (Or.inr ⟨by rfl, rfl⟩) (by assumption) ?_
      try simp only [Act.put, List.setIfInBounds_toArray, List.set_cons_zero, List.set_cons_succ]
      refine wpAnyH_take (i := 20) (oi := { dst := some 39, op := Op.binOp BinOp.eql 21 (Operand.tmp 38) (Operand.const (Value.int IntKind.i32 64)) 21, type := 4, pos := "ref.go:84", after := #[{ on := 19, ground := Ground.data }, { on := 17, ground := Ground.guard }, { on := 23, ground := Ground.gcOnly Departure.lateStores }], guard := some (17, false) }) (v := undef) rfl (by kernel_rfl) (by kernel_rfl) (by kernel_rfl) (fun _ _ _ h => h) (Or.inr ⟨by rfl, rfl⟩) (by assumption) ?_
      try simp only [Act.put, List.setIfInBounds_toArray, List.set_cons_zero, List.set_cons_succ]
      refine wpAnyH_take (i := 21) (oi := { dst := some 40, op := Op.pick (Operand.tmp 36) (Operand.const (Value.bool true)) (Operand.tmp 39), type := 4, pos := "ref.go:84", after := #[{ on := 17, ground := Ground.data }, { on := 20, ground := Ground.data }, { on := 8, ground := Ground.guard }, { on := 23, ground := Ground.gcOnly Departure.lateStores }], guard := some (8, true) }) (v := undef) rfl (by kernel_rfl) (by kernel_rfl) (by kernel_rfl) (fun _ _ _ h => h) (Or.inr ⟨by rfl, rfl⟩) (by assumption) ?_
      try simp only [Act.put, List.setIfInBounds_toArray, List.set_cons_zero, List.set_cons_succ]
      refine wpAnyH_take (i := 22) (oi := { dst := some 41, op := Op.pick (Operand.tmp 27) (Operand.tmp 40) (Operand.const (Value.bool false)), type := 4, pos := "ref.go:84", after := #[{ on := 8, ground := Ground.data }, { on := 21, ground := Ground.data }, { on := 23, ground := Ground.gcOnly Departure.lateStores }], guard := none }) (v := ?_) rfl (by kernel_rfl) (by kernel_rfl) (by kernel_rfl) (fun _ _ _ h => h) (Or.inl ⟨by rfl, ?_⟩) (by assumption) ?_
      rotate_left 1
      · intro w hSw; (try dsimp only at hSw); go_simp; try (with_reducible rfl)
      try simp only [Act.put, List.setIfInBounds_toArray, List.set_cons_zero, List.set_cons_succ]
      obtain ⟨f0, f1, f2, f3, f4, f5⟩ := Q.out.1.2.2.free
      obtain ⟨z0, z1, z2, z3, z4, z5⟩ := Q.out.1.2.2.cells
      refine wpAnyH_ready (rs := [23]) (by kernel_rfl) (by simp) ?_
      refine AllReadyH.cons (o := { dst := none, op := Op.store 26 (Operand.tmp 2) (Operand.tmp 19), type := 0, pos := "ref.go:84", after := #[{ on := 0, ground := Ground.data }, { on := 17, ground := Ground.chain }, { on := 0, ground := Ground.phase }, { on := 1, ground := Ground.textOnly Departure.lateStores }, { on := 2, ground := Ground.textOnly Departure.lateStores }, { on := 3, ground := Ground.textOnly Departure.lateStores }, { on := 4, ground := Ground.textOnly Departure.lateStores }, { on := 5, ground := Ground.textOnly Departure.lateStores }, { on := 6, ground := Ground.textOnly Departure.lateStoresUnsure }, { on := 7, ground := Ground.textOnly Departure.lateStores }, { on := 8, ground := Ground.textOnly Departure.lateStores }, { on := 9, ground := Ground.textOnly Departure.lateStores }, { on := 10, ground := Ground.textOnly Departure.lateStores }, { on := 11, ground := Ground.textOnly Departure.lateStores }, { on := 12, ground := Ground.textOnly Departure.lateStores }, { on := 13, ground := Ground.textOnly Departure.lateStores }, { on := 14, ground := Ground.textOnly Departure.lateStores }, { on := 15, ground := Ground.textOnly Departure.lateStores }, { on := 16, ground := Ground.textOnly Departure.lateStores }, { on := 17, ground := Ground.textOnly Departure.lateStores }, { on := 18, ground := Ground.textOnly Departure.lateStores }, { on := 19, ground := Ground.textOnly Departure.lateStores }, { on := 20, ground := Ground.textOnly Departure.lateStores }, { on := 21, ground := Ground.textOnly Departure.lateStores }, { on := 22, ground := Ground.textOnly Departure.lateStores }], guard := none }) rfl (fun K hK => ?_) AllReadyH.nil
      go_simp
      replace PD := Lib.hid (And.intro ((Q.out.1.set (⟨2, 0, wide, false, false, sz⟩ : Wh)).after (Below.drew (Below.refl _ _))) ((Q.out.2.whs (k := w.heap.size + 1) (⟨2, 0, wide, false, false, sz⟩ : Wh) (by omega)).after (Below.drew (Below.refl _ _))))
      clear f0 f1 f2 f3 f4 f5 z0 z1 z2 z3 z4 z5
      refine hK.out _ _ (H.out _ _ PD.out) (fun hHeld => ?_)
      clear hK K
      try simp only [Act.put, List.setIfInBounds_toArray, List.set_cons_zero, List.set_cons_succ]
      refine wpAnyH_take (i := 24) (oi := { dst := some 3, op := Op.assign (Operand.tmp 41), type := 4, pos := "ref.go:84", after := #[{ on := 22, ground := Ground.data }, { on := 23, ground := Ground.chain }, { on := 0, ground := Ground.phase }, { on := 1, ground := Ground.phase }, { on := 2, ground := Ground.phase }, { on := 3, ground := Ground.phase }, { on := 4, ground := Ground.phase }, { on := 5, ground := Ground.phase }, { on := 6, ground := Ground.phase }, { on := 7, ground := Ground.phase }, { on := 8, ground := Ground.phase }, { on := 9, ground := Ground.phase }, { on := 10, ground := Ground.phase }, { on := 11, ground := Ground.phase }, { on := 12, ground := Ground.phase }, { on := 13, ground := Ground.phase }, { on := 14, ground := Ground.phase }, { on := 15, ground := Ground.phase }, { on := 16, ground := Ground.phase }, { on := 17, ground := Ground.phase }, { on := 18, ground := Ground.phase }, { on := 19, ground := Ground.phase }, { on := 20, ground := Ground.phase }, { on := 21, ground := Ground.phase }, { on := 22, ground := Ground.phase }, { on := 23, ground := Ground.phase }], guard := none }) (v := ?_) rfl (by kernel_rfl) (by kernel_rfl) (by kernel_rfl) (fun _ _ _ h => h) (Or.inl ⟨by rfl, ?_⟩) (by assumption) ?_
      rotate_left 1
      · intro w hSw; (try dsimp only at hSw); go_simp; try (with_reducible rfl)
      try simp only [Act.put, List.setIfInBounds_toArray, List.set_cons_zero, List.set_cons_succ]
      refine wpAnyH_done (by kernel_rfl) ?_ _
      have BB := Lib.hid PD.out.1.1
      obtain ⟨z0, z1, z2, z3, z4, z5⟩ := PD.out.1.2.2.cells
      clear H PD
      go_wp2_with fail
      exact bodyPost_ret (v := .tuple #[whV (⟨2, 0, wide, false, false, sz⟩ : Wh), .bool false]) (by simp [results, Try.results59, go_sem, z0, z1, z2, z3, z4, z5]) rfl ⟨rfl, BB.out⟩

set_option maxRecDepth 100000 in
set_option maxHeartbeats 8000000 in
theorem r7_swaps_only (x : Ins) (h : x.op = 212 ∨ x.op = 220 ∨ x.op = 215) (wide : Bool) (hw : (x.op != 212) = wide) (l1 : -2147483648 ≤ x.imm) (l2 : x.imm ≤ 2147483647) (hd : (x.dst != 10) = true) (w : World)
    (C : Hid (∀ w, Calls Try.prog 61 #[iV x, .bool false, .bool false, .bool true] w (Gives (.bool false) w))) :
    Calls Try.prog 59 #[iV x] w (Gives (.tuple #[whV (⟨2, 0, wide, false, false, x.imm.tdiv 8⟩ : Wh), .bool false]) w) := by
  have P := Lib.hid (IDuo.new x Wh.zero w)
  have h' := Lib.hid h
  have hw' := Lib.hid hw
  clear h hw
  go_enter Try.func59, Try.ntmps59
  go_upto_if 7 with fail
  go_cut [7] (fun s wx => s = .bool true ∧ Hid (IDuo x Wh.zero w wx))
  case first =>
    rcases h'.out with e | e | e
    · skip
      have k0 : (x.op == 212) = true := by rw [e]; rfl
      clear e
      go_wp2_with fail
      go_meet
      exact ⟨by rw [k0], P⟩
    · skip
      have k0 : (x.op == 212) = false := by rw [e]; rfl
      have k1 : (x.op == 220) = true := by rw [e]; rfl
      clear e
      go_wp2_with fail
      go_meet
      exact ⟨rfl, P⟩
    · skip
      have k0 : (x.op == 212) = false := by rw [e]; rfl
      have k1 : (x.op == 220) = false := by rw [e]; rfl
      have k2 : (x.op == 215) = true := by rw [e]; rfl
      clear e
      go_wp2_with fail
      go_meet
      exact ⟨rfl, P⟩
  case rest =>
    obtain ⟨rfl, Q⟩ := hcut
    clear P
    obtain ⟨p0, p1, p2, p3, p4⟩ := Q.out.2.1.cells
    go_upto_region 5 with fail
    go_cut [4] (fun s wx => ∃ gb, s = .pointer (some ⟨gb, 0, none⟩) ∧ w.heap.size + 1 < gb ∧ Hid (IDuo x Wh.zero w wx ∧ whB gb (⟨2, 0, wide, false, false, x.imm.tdiv 8⟩ : Wh) wx))
    case first =>
      have kq := Q.out.2.2.lt
      go_wp2_with fail
      go_meet
      rw [← hw'.out]
      exact ⟨_, rfl, kq, Lib.hid ⟨Q.out.after (below_alloc (Below.refl _ _) _), whB.new _ _ rfl⟩⟩
    case rest =>
      clear Q p0 p1 p2 p3 p4
      obtain ⟨gb, rfl, kq, Q⟩ := hcut
      generalize x.imm.tdiv 8 = sz at *
      have PD := Lib.hid (And.intro (Q.out.1.after (Below.drew (Below.refl _ _))) (Q.out.2.after (Below.drew (Below.refl _ _))))
      have H : Hid (∀ v wx, IDuo x v w wx ∧ whB gb (⟨2, 0, wide, false, false, sz⟩ : Wh) wx → (wx.cell? ⟨w.heap.size, 0, none⟩ = some (.int .u8 x.op) ∧ wx.cell? ⟨w.heap.size, 1, none⟩ = some (.int .u8 x.dst) ∧ wx.cell? ⟨w.heap.size, 2, none⟩ = some (.int .u8 x.src) ∧ wx.cell? ⟨w.heap.size, 3, none⟩ = some (.int .i16 x.off) ∧ wx.cell? ⟨w.heap.size, 4, none⟩ = some (.int .i32 x.imm)) ∧ (wx.cell? ⟨gb, 0, none⟩ = some (.int .u8 (⟨2, 0, wide, false, false, sz⟩ : Wh).kind) ∧ wx.cell? ⟨gb, 1, none⟩ = some (.int .u8 (⟨2, 0, wide, false, false, sz⟩ : Wh).op) ∧ wx.cell? ⟨gb, 2, none⟩ = some (.bool (⟨2, 0, wide, false, false, sz⟩ : Wh).wide) ∧ wx.cell? ⟨gb, 3, none⟩ = some (.bool (⟨2, 0, wide, false, false, sz⟩ : Wh).reg) ∧ wx.cell? ⟨gb, 4, none⟩ = some (.bool (⟨2, 0, wide, false, false, sz⟩ : Wh).signed) ∧ wx.cell? ⟨gb, 5, none⟩ = some (.int .i64 (⟨2, 0, wide, false, false, sz⟩ : Wh).size))) := Lib.hid fun v wx hx => ⟨hx.1.2.1.cells, hx.2.cells⟩
      go_upto_region 6 with fail
      refine wp_region_held_drew (S := (fun w' => (w'.cell? ⟨w.heap.size, 0, none⟩ = some (.int .u8 x.op) ∧ w'.cell? ⟨w.heap.size, 1, none⟩ = some (.int .u8 x.dst) ∧ w'.cell? ⟨w.heap.size, 2, none⟩ = some (.int .u8 x.src) ∧ w'.cell? ⟨w.heap.size, 3, none⟩ = some (.int .i16 x.off) ∧ w'.cell? ⟨w.heap.size, 4, none⟩ = some (.int .i32 x.imm)) ∧ (w'.cell? ⟨gb, 0, none⟩ = some (.int .u8 (⟨2, 0, wide, false, false, sz⟩ : Wh).kind) ∧ w'.cell? ⟨gb, 1, none⟩ = some (.int .u8 (⟨2, 0, wide, false, false, sz⟩ : Wh).op) ∧ w'.cell? ⟨gb, 2, none⟩ = some (.bool (⟨2, 0, wide, false, false, sz⟩ : Wh).wide) ∧ w'.cell? ⟨gb, 3, none⟩ = some (.bool (⟨2, 0, wide, false, false, sz⟩ : Wh).reg) ∧ w'.cell? ⟨gb, 4, none⟩ = some (.bool (⟨2, 0, wide, false, false, sz⟩ : Wh).signed) ∧ w'.cell? ⟨gb, 5, none⟩ = some (.int .i64 (⟨2, 0, wide, false, false, sz⟩ : Wh).size)))) (by kernel_rfl) (H.out _ _ PD.out) (fun hHeld => ?_)
      refine wpAnyH_take (i := 0) (oi := { dst := some 19, op := Op.load 26 (Operand.tmp 4), type := 26, pos := "ref.go:84", after := #[], guard := none }) (v := ?_) rfl (by kernel_rfl) (by kernel_rfl) (by kernel_rfl) (fun _ _ _ h => h) (Or.inl ⟨by rfl, ?_⟩) (by assumption) ?_
      rotate_left 1
      · intro w hSw; (try dsimp only at hSw); go_simp; try (with_reducible rfl)
      try simp only [Act.put, List.setIfInBounds_toArray, List.set_cons_zero, List.set_cons_succ]
      refine wpAnyH_take (i := 1) (oi := { dst := some 20, op := Op.fieldAddr 24 (Operand.tmp 1) 1, type := 0, pos := "ref.go:84", after := #[], guard := none }) (v := ?_) rfl (by kernel_rfl) (by kernel_rfl) (by kernel_rfl) (fun _ _ _ h => h) (Or.inl ⟨by rfl, ?_⟩) (by assumption) ?_
      rotate_left 1
      · intro w hSw; (try dsimp only at hSw); go_simp; try (with_reducible rfl)
      try simp only [Act.put, List.setIfInBounds_toArray, List.set_cons_zero, List.set_cons_succ]
      refine wpAnyH_take (i := 2) (oi := { dst := some 21, op := Op.load 5 (Operand.tmp 20), type := 5, pos := "ref.go:84", after := #[{ on := 1, ground := Ground.data }], guard := none }) (v := ?_) rfl (by kernel_rfl) (by kernel_rfl) (by kernel_rfl) (fun _ _ _ h => h) (Or.inl ⟨by rfl, ?_⟩) (by assumption) ?_
      rotate_left 1
      · intro w hSw; (try dsimp only at hSw); go_simp; try (with_reducible rfl)
      try simp only [Act.put, List.setIfInBounds_toArray, List.set_cons_zero, List.set_cons_succ]
      refine wpAnyH_take (i := 3) (oi := { dst := some 22, op := Op.binOp BinOp.neq 5 (Operand.tmp 21) (Operand.const (Value.int IntKind.u8 10)) 5, type := 4, pos := "ref.go:84", after := #[{ on := 2, ground := Ground.data }], guard := none }) (v := ?_) rfl (by kernel_rfl) (by kernel_rfl) (by kernel_rfl) (fun _ _ _ h => h) (Or.inl ⟨by rfl, ?_⟩) (by assumption) ?_
      rotate_left 1
      · intro w hSw; (try dsimp only at hSw); go_simp; try (with_reducible rfl)
      try simp only [Act.put, List.setIfInBounds_toArray, List.set_cons_zero, List.set_cons_succ]
      refine wpAnyH_take (i := 4) (oi := { dst := some 23, op := Op.move (Operand.tmp 22), type := 4, pos := "ref.go:84", after := #[{ on := 3, ground := Ground.data }], guard := none }) (v := ?_) rfl (by kernel_rfl) (by kernel_rfl) (by kernel_rfl) (fun _ _ _ h => h) (Or.inl ⟨by rfl, ?_⟩) (by assumption) ?_
      rotate_left 1
      · intro w hSw; (try dsimp only at hSw); go_simp; try (with_reducible rfl)
      try simp only [Act.put, List.setIfInBounds_toArray, List.set_cons_zero, List.set_cons_succ]
      refine wpAnyH_take (i := 5) (oi := { dst := some 24, op := Op.load 24 (Operand.tmp 1), type := 24, pos := "ref.go:84", after := #[{ on := 4, ground := Ground.guard }], guard := some (4, true) }) (v := ?_) rfl (by kernel_rfl) (by kernel_rfl) (by kernel_rfl) (fun _ _ _ h => h) (Or.inl ⟨by rfl, ?_⟩) (by assumption) ?_
      rotate_left 1
      · intro w hSw; (try dsimp only at hSw); go_simp; try (with_reducible rfl)
      try simp only [Act.put, List.setIfInBounds_toArray, List.set_cons_zero, List.set_cons_succ]
      refine wpAnyH_ready (rs := [6]) (by kernel_rfl) (by simp) ?_
      refine AllReadyH.cons (o := { dst := some 25, op := Op.call { callee := Callee.value (Operand.func 61), args := #[Operand.tmp 24, Operand.const (Value.bool false), Operand.const (Value.bool false), Operand.const (Value.bool true)], argTypes := #[24, 4, 4, 4] }, type := 4, pos := "ref.go:84", after := #[{ on := 5, ground := Ground.data }, { on := 4, ground := Ground.chain }, { on := 4, ground := Ground.guard }], guard := some (4, true) }) rfl (fun K hK => ?_) AllReadyH.nil
      go_simp
      refine (C.out _).mono ?_; rintro e w5 ⟨rfl, hb⟩
      replace PD := Lib.hid (And.intro (PD.out.1.after hb) (PD.out.2.after hb))
      clear hb
      go_wp2_with fail
      refine hK.out _ _ (H.out _ _ PD.out) (fun hHeld => ?_)
      clear hK K
      try simp only [Act.put, List.setIfInBounds_toArray, List.set_cons_zero, List.set_cons_succ]
      refine wpAnyH_take (i := 7) (oi := { dst := some 26, op := Op.pick (Operand.tmp 23) (Operand.tmp 25) (Operand.const (Value.bool false)), type := 4, pos := "ref.go:84", after := #[{ on := 4, ground := Ground.data }, { on := 6, ground := Ground.data }], guard := none }) (v := ?_) rfl (by kernel_rfl) (by kernel_rfl) (by kernel_rfl) (fun _ _ _ h => h) (Or.inl ⟨by rfl, ?_⟩) (by assumption) ?_
      rotate_left 1
      · intro w hSw; (try dsimp only at hSw); go_simp; try (with_reducible rfl)
      try simp only [Act.put, List.setIfInBounds_toArray, List.set_cons_zero, List.set_cons_succ]
      refine wpAnyH_take (i := 8) (oi := { dst := some 27, op := Op.move (Operand.tmp 26), type := 4, pos := "ref.go:84", after := #[{ on := 7, ground := Ground.data }, { on := 6, ground := Ground.chain }], guard := none }) (v := ?_) rfl (by kernel_rfl) (by kernel_rfl) (by kernel_rfl) (fun _ _ _ h => h) (Or.inl ⟨by rfl, ?_⟩) (by assumption) ?_
      rotate_left 1
      · intro w hSw; (try dsimp only at hSw); go_simp; try (with_reducible rfl)
      try simp only [Act.put, List.setIfInBounds_toArray, List.set_cons_zero, List.set_cons_succ]
      refine wpAnyH_take (i := 9) (oi := { dst := some 28, op := Op.fieldAddr 24 (Operand.tmp 1) 4, type := 0, pos := "ref.go:84", after := #[{ on := 8, ground := Ground.guard }], guard := some (8, true) }) (v := undef) rfl (by kernel_rfl) (by kernel_rfl) (by kernel_rfl) (fun _ _ _ h => h) (Or.inr ⟨by rfl, rfl⟩) (by assumption) ?_
      try simp only [Act.put, List.setIfInBounds_toArray, List.set_cons_zero, List.set_cons_succ]
      refine wpAnyH_take (i := 10) (oi := { dst := some 29, op := Op.load 21 (Operand.tmp 28), type := 21, pos := "ref.go:84", after := #[{ on := 9, ground := Ground.data }, { on := 8, ground := Ground.guard }], guard := some (8, true) }) (v := undef) rfl (by kernel_rfl) (by kernel_rfl) (by kernel_rfl) (fun _ _ _ h => h) (Or.inr ⟨by rfl, rfl⟩) (by assumption) ?_
      try simp only [Act.put, List.setIfInBounds_toArray, List.set_cons_zero, List.set_cons_succ]
      refine wpAnyH_take (i := 11) (oi := { dst := some 30, op := Op.binOp BinOp.eql 21 (Operand.tmp 29) (Operand.const (Value.int IntKind.i32 16)) 21, type := 4, pos := "ref.go:84", after := #[{ on := 10, ground := Ground.data }, { on := 8, ground := Ground.guard }], guard := some (8, true) }) (v := undef) rfl (by kernel_rfl) (by kernel_rfl) (by kernel_rfl) (fun _ _ _ h => h) (Or.inr ⟨by rfl, rfl⟩) (by assumption) ?_
      try simp only [Act.put, List.setIfInBounds_toArray, List.set_cons_zero, List.set_cons_succ]
      refine wpAnyH_take (i := 12) (oi := { dst := some 31, op := Op.move (Operand.tmp 30), type := 4, pos := "ref.go:84", after := #[{ on := 11, ground := Ground.data }, { on := 8, ground := Ground.chain }, { on := 8, ground := Ground.guard }], guard := some (8, true) }) (v := undef) rfl (by kernel_rfl) (by kernel_rfl) (by kernel_rfl) (fun _ _ _ h => h) (Or.inr ⟨by rfl, rfl⟩) (by assumption) ?_
      try simp only [Act.put, List.setIfInBounds_toArray, List.set_cons_zero, List.set_cons_succ]
      refine wpAnyH_take (i := 13) (oi := { dst := some 32, op := Op.fieldAddr 24 (Operand.tmp 1) 4, type := 0, pos := "ref.go:84", after := #[{ on := 12, ground := Ground.guard }], guard := some (12, false) }) (v := undef) rfl (by kernel_rfl) (by kernel_rfl) (by kernel_rfl) (fun _ _ _ h => h) (Or.inr ⟨by rfl, rfl⟩) (by assumption) ?_
      try simp only [Act.put, List.setIfInBounds_toArray, List.set_cons_zero, List.set_cons_succ]
      refine wpAnyH_take (i := 14) (oi := { dst := some 33, op := Op.load 21 (Operand.tmp 32), type := 21, pos := "ref.go:84", after := #[{ on := 13, ground := Ground.data }, { on := 12, ground := Ground.guard }], guard := some (12, false) }) (v := undef) rfl (by kernel_rfl) (by kernel_rfl) (by kernel_rfl) (fun _ _ _ h => h) (Or.inr ⟨by rfl, rfl⟩) (by assumption) ?_
      try simp only [Act.put, List.setIfInBounds_toArray, List.set_cons_zero, List.set_cons_succ]
      refine wpAnyH_take (i := 15) (oi := { dst := some 34, op := Op.binOp BinOp.eql 21 (Operand.tmp 33) (Operand.const (Value.int IntKind.i32 32)) 21, type := 4, pos := "ref.go:84", after := #[{ on := 14, ground := Ground.data }, { on := 12, ground := Ground.guard }], guard := some (12, false) }) (v := undef) rfl (by kernel_rfl) (by kernel_rfl) (by kernel_rfl) (fun _ _ _ h => h) (Or.inr ⟨by rfl, rfl⟩) (by assumption) ?_
      try simp only [Act.put, List.setIfInBounds_toArray, List.set_cons_zero, List.set_cons_succ]
      refine wpAnyH_take (i := 16) (oi := { dst := some 35, op := Op.pick (Operand.tmp 31) (Operand.const (Value.bool true)) (Operand.tmp 34), type := 4, pos := "ref.go:84", after := #[{ on := 12, ground := Ground.data }, { on := 15, ground := Ground.data }, { on := 8, ground := Ground.guard }], guard := some (8, true) }) (v := undef) rfl (by kernel_rfl) (by kernel_rfl) (by kernel_rfl) (fun _ _ _ h => h) (Or.inr ⟨by rfl, rfl⟩) (by assumption) ?_
      try simp only [Act.put, List.setIfInBounds_toArray, List.set_cons_zero, List.set_cons_succ]
      refine wpAnyH_take (i := 17) (oi := { dst := some 36, op := Op.move (Operand.tmp 35), type := 4, pos := "ref.go:84", after := #[{ on := 16, ground := Ground.data }, { on := 12, ground := Ground.chain }, { on := 8, ground := Ground.guard }], guard := some (8, true) }) (v := undef) rfl (by kernel_rfl) (by kernel_rfl) (by kernel_rfl) (fun _ _ _ h => h) (Or.inr ⟨by rfl, rfl⟩) (by assumption) ?_
      try simp only [Act.put, List.setIfInBounds_toArray, List.set_cons_zero, List.set_cons_succ]
      refine wpAnyH_take (i := 18) (oi := { dst := some 37, op := Op.fieldAddr 24 (Operand.tmp 1) 4, type := 0, pos := "ref.go:84", after := #[{ on := 17, ground := Ground.guard }, { on := 23, ground := Ground.gcOnly Departure.lateStores }], guard := some (17, false) }) (v := undef) rfl (by kernel_rfl) (by kernel_rfl) (by kernel_rfl) (fun _ _ _ h => h) (Or.inr ⟨by rfl, rfl⟩) (by assumption) ?_
      try simp only [Act.put, List.setIfInBounds_toArray, List.set_cons_zero, List.set_cons_succ]
      refine wpAnyH_take (i := 19) (oi := { dst := some 38, op := Op.load 21 (Operand.tmp 37), type := 21, pos := "ref.go:84", after := #[{ on := 18, ground := Ground.data }, { on := 17, ground := Ground.guard }, { on := 23, ground := Ground.gcOnly Departure.lateStores }], guard := some (17, false) }) (v := undef) rfl (by kernel_rfl) (by kernel_rfl) (by kernel_rfl) (fun _ _ _ h => h) (Or.inr ⟨by rfl, rfl⟩) (by assumption) ?_
      try simp only [Act.put, List.setIfInBounds_toArray, List.set_cons_zero, List.set_cons_succ]
      refine wpAnyH_take (i := 20) (oi := { dst := some 39, op := Op.binOp BinOp.eql 21 (Operand.tmp 38) (Operand.const (Value.int IntKind.i32 64)) 21, type := 4, pos := "ref.go:84", after := #[{ on := 19, ground := Ground.data }, { on := 17, ground := Ground.guard }, { on := 23, ground := Ground.gcOnly Departure.lateStores }], guard := some (17, false) }) (v := undef) rfl (by kernel_rfl) (by kernel_rfl) (by kernel_rfl) (fun _ _ _ h => h) (Or.inr ⟨by rfl, rfl⟩) (by assumption) ?_
      try simp only [Act.put, List.setIfInBounds_toArray, List.set_cons_zero, List.set_cons_succ]
      refine wpAnyH_take (i := 21) (oi := { dst := some 40, op := Op.pick (Operand.tmp 36) (Operand.const (Value.bool true)) (Operand.tmp 39), type := 4, pos := "ref.go:84", after := #[{ on := 17, ground := Ground.data }, { on := 20, ground := Ground.data }, { on := 8, ground := Ground.guard }, { on := 23, ground := Ground.gcOnly Departure.lateStores }], guard := some (8, true) }) (v := undef) rfl (by kernel_rfl) (by kernel_rfl) (by kernel_rfl) (fun _ _ _ h => h) (Or.inr ⟨by rfl, rfl⟩) (by assumption) ?_
      try simp only [Act.put, List.setIfInBounds_toArray, List.set_cons_zero, List.set_cons_succ]
      refine wpAnyH_take (i := 22) (oi := { dst := some 41, op := Op.pick (Operand.tmp 27) (Operand.tmp 40) (Operand.const (Value.bool false)), type := 4, pos := "ref.go:84", after := #[{ on := 8, ground := Ground.data }, { on := 21, ground := Ground.data }, { on := 23, ground := Ground.gcOnly Departure.lateStores }], guard := none }) (v := ?_) rfl (by kernel_rfl) (by kernel_rfl) (by kernel_rfl) (fun _ _ _ h => h) (Or.inl ⟨by rfl, ?_⟩) (by assumption) ?_
      rotate_left 1
      · intro w hSw; (try dsimp only at hSw); go_simp; try (with_reducible rfl)
      try simp only [Act.put, List.setIfInBounds_toArray, List.set_cons_zero, List.set_cons_succ]
      obtain ⟨f0, f1, f2, f3, f4, f5⟩ := PD.out.1.2.2.free
      obtain ⟨z0, z1, z2, z3, z4, z5⟩ := PD.out.1.2.2.cells
      refine wpAnyH_ready (rs := [23]) (by kernel_rfl) (by simp) ?_
      refine AllReadyH.cons (o := { dst := none, op := Op.store 26 (Operand.tmp 2) (Operand.tmp 19), type := 0, pos := "ref.go:84", after := #[{ on := 0, ground := Ground.data }, { on := 17, ground := Ground.chain }, { on := 0, ground := Ground.phase }, { on := 1, ground := Ground.textOnly Departure.lateStores }, { on := 2, ground := Ground.textOnly Departure.lateStores }, { on := 3, ground := Ground.textOnly Departure.lateStores }, { on := 4, ground := Ground.textOnly Departure.lateStores }, { on := 5, ground := Ground.textOnly Departure.lateStores }, { on := 6, ground := Ground.textOnly Departure.lateStoresUnsure }, { on := 7, ground := Ground.textOnly Departure.lateStores }, { on := 8, ground := Ground.textOnly Departure.lateStores }, { on := 9, ground := Ground.textOnly Departure.lateStores }, { on := 10, ground := Ground.textOnly Departure.lateStores }, { on := 11, ground := Ground.textOnly Departure.lateStores }, { on := 12, ground := Ground.textOnly Departure.lateStores }, { on := 13, ground := Ground.textOnly Departure.lateStores }, { on := 14, ground := Ground.textOnly Departure.lateStores }, { on := 15, ground := Ground.textOnly Departure.lateStores }, { on := 16, ground := Ground.textOnly Departure.lateStores }, { on := 17, ground := Ground.textOnly Departure.lateStores }, { on := 18, ground := Ground.textOnly Departure.lateStores }, { on := 19, ground := Ground.textOnly Departure.lateStores }, { on := 20, ground := Ground.textOnly Departure.lateStores }, { on := 21, ground := Ground.textOnly Departure.lateStores }, { on := 22, ground := Ground.textOnly Departure.lateStores }], guard := none }) rfl (fun K hK => ?_) AllReadyH.nil
      go_simp
      replace PD := Lib.hid (And.intro (PD.out.1.set (⟨2, 0, wide, false, false, sz⟩ : Wh)) (PD.out.2.whs (k := w.heap.size + 1) (⟨2, 0, wide, false, false, sz⟩ : Wh) (by omega)))
      clear f0 f1 f2 f3 f4 f5 z0 z1 z2 z3 z4 z5
      refine hK.out _ _ (H.out _ _ PD.out) (fun hHeld => ?_)
      clear hK K
      try simp only [Act.put, List.setIfInBounds_toArray, List.set_cons_zero, List.set_cons_succ]
      refine wpAnyH_take (i := 24) (oi := { dst := some 3, op := Op.assign (Operand.tmp 41), type := 4, pos := "ref.go:84", after := #[{ on := 22, ground := Ground.data }, { on := 23, ground := Ground.chain }, { on := 0, ground := Ground.phase }, { on := 1, ground := Ground.phase }, { on := 2, ground := Ground.phase }, { on := 3, ground := Ground.phase }, { on := 4, ground := Ground.phase }, { on := 5, ground := Ground.phase }, { on := 6, ground := Ground.phase }, { on := 7, ground := Ground.phase }, { on := 8, ground := Ground.phase }, { on := 9, ground := Ground.phase }, { on := 10, ground := Ground.phase }, { on := 11, ground := Ground.phase }, { on := 12, ground := Ground.phase }, { on := 13, ground := Ground.phase }, { on := 14, ground := Ground.phase }, { on := 15, ground := Ground.phase }, { on := 16, ground := Ground.phase }, { on := 17, ground := Ground.phase }, { on := 18, ground := Ground.phase }, { on := 19, ground := Ground.phase }, { on := 20, ground := Ground.phase }, { on := 21, ground := Ground.phase }, { on := 22, ground := Ground.phase }, { on := 23, ground := Ground.phase }], guard := none }) (v := ?_) rfl (by kernel_rfl) (by kernel_rfl) (by kernel_rfl) (fun _ _ _ h => h) (Or.inl ⟨by rfl, ?_⟩) (by assumption) ?_
      rotate_left 1
      · intro w hSw; (try dsimp only at hSw); go_simp; try (with_reducible rfl)
      try simp only [Act.put, List.setIfInBounds_toArray, List.set_cons_zero, List.set_cons_succ]
      refine wpAnyH_done (by kernel_rfl) ?_ _
      have BB := Lib.hid PD.out.1.1
      obtain ⟨z0, z1, z2, z3, z4, z5⟩ := PD.out.1.2.2.cells
      clear H PD
      go_wp2_with fail
      exact bodyPost_ret (v := .tuple #[whV (⟨2, 0, wide, false, false, sz⟩ : Wh), .bool false]) (by simp [results, Try.results59, go_sem, z0, z1, z2, z3, z4, z5]) rfl ⟨rfl, BB.out⟩

set_option maxRecDepth 100000 in
set_option maxHeartbeats 8000000 in
theorem r7_swaps_16 (x : Ins) (h : x.op = 212 ∨ x.op = 220 ∨ x.op = 215) (wide : Bool) (hw : (x.op != 212) = wide) (l1 : -2147483648 ≤ x.imm) (l2 : x.imm ≤ 2147483647) (hd : (x.dst != 10) = true) (h1 : (x.imm == 16) = true) (w : World)
    (C : Hid (∀ w, Calls Try.prog 61 #[iV x, .bool false, .bool false, .bool true] w (Gives (.bool true) w))) :
    Calls Try.prog 59 #[iV x] w (Gives (.tuple #[whV (⟨2, 0, wide, false, false, x.imm.tdiv 8⟩ : Wh), .bool true]) w) := by
  have P := Lib.hid (IDuo.new x Wh.zero w)
  have h' := Lib.hid h
  have hw' := Lib.hid hw
  clear h hw
  go_enter Try.func59, Try.ntmps59
  go_upto_if 7 with fail
  go_cut [7] (fun s wx => s = .bool true ∧ Hid (IDuo x Wh.zero w wx))
  case first =>
    rcases h'.out with e | e | e
    · skip
      have k0 : (x.op == 212) = true := by rw [e]; rfl
      clear e
      go_wp2_with fail
      go_meet
      exact ⟨by rw [k0], P⟩
    · skip
      have k0 : (x.op == 212) = false := by rw [e]; rfl
      have k1 : (x.op == 220) = true := by rw [e]; rfl
      clear e
      go_wp2_with fail
      go_meet
      exact ⟨rfl, P⟩
    · skip
      have k0 : (x.op == 212) = false := by rw [e]; rfl
      have k1 : (x.op == 220) = false := by rw [e]; rfl
      have k2 : (x.op == 215) = true := by rw [e]; rfl
      clear e
      go_wp2_with fail
      go_meet
      exact ⟨rfl, P⟩
  case rest =>
    obtain ⟨rfl, Q⟩ := hcut
    clear P
    obtain ⟨p0, p1, p2, p3, p4⟩ := Q.out.2.1.cells
    go_upto_region 5 with fail
    go_cut [4] (fun s wx => ∃ gb, s = .pointer (some ⟨gb, 0, none⟩) ∧ w.heap.size + 1 < gb ∧ Hid (IDuo x Wh.zero w wx ∧ whB gb (⟨2, 0, wide, false, false, x.imm.tdiv 8⟩ : Wh) wx))
    case first =>
      have kq := Q.out.2.2.lt
      go_wp2_with fail
      go_meet
      rw [← hw'.out]
      exact ⟨_, rfl, kq, Lib.hid ⟨Q.out.after (below_alloc (Below.refl _ _) _), whB.new _ _ rfl⟩⟩
    case rest =>
      clear Q p0 p1 p2 p3 p4
      obtain ⟨gb, rfl, kq, Q⟩ := hcut
      generalize x.imm.tdiv 8 = sz at *
      have PD := Lib.hid (And.intro (Q.out.1.after (Below.drew (Below.refl _ _))) (Q.out.2.after (Below.drew (Below.refl _ _))))
      have H : Hid (∀ v wx, IDuo x v w wx ∧ whB gb (⟨2, 0, wide, false, false, sz⟩ : Wh) wx → (wx.cell? ⟨w.heap.size, 0, none⟩ = some (.int .u8 x.op) ∧ wx.cell? ⟨w.heap.size, 1, none⟩ = some (.int .u8 x.dst) ∧ wx.cell? ⟨w.heap.size, 2, none⟩ = some (.int .u8 x.src) ∧ wx.cell? ⟨w.heap.size, 3, none⟩ = some (.int .i16 x.off) ∧ wx.cell? ⟨w.heap.size, 4, none⟩ = some (.int .i32 x.imm)) ∧ (wx.cell? ⟨gb, 0, none⟩ = some (.int .u8 (⟨2, 0, wide, false, false, sz⟩ : Wh).kind) ∧ wx.cell? ⟨gb, 1, none⟩ = some (.int .u8 (⟨2, 0, wide, false, false, sz⟩ : Wh).op) ∧ wx.cell? ⟨gb, 2, none⟩ = some (.bool (⟨2, 0, wide, false, false, sz⟩ : Wh).wide) ∧ wx.cell? ⟨gb, 3, none⟩ = some (.bool (⟨2, 0, wide, false, false, sz⟩ : Wh).reg) ∧ wx.cell? ⟨gb, 4, none⟩ = some (.bool (⟨2, 0, wide, false, false, sz⟩ : Wh).signed) ∧ wx.cell? ⟨gb, 5, none⟩ = some (.int .i64 (⟨2, 0, wide, false, false, sz⟩ : Wh).size))) := Lib.hid fun v wx hx => ⟨hx.1.2.1.cells, hx.2.cells⟩
      go_upto_region 6 with fail
      refine wp_region_held_drew (S := (fun w' => (w'.cell? ⟨w.heap.size, 0, none⟩ = some (.int .u8 x.op) ∧ w'.cell? ⟨w.heap.size, 1, none⟩ = some (.int .u8 x.dst) ∧ w'.cell? ⟨w.heap.size, 2, none⟩ = some (.int .u8 x.src) ∧ w'.cell? ⟨w.heap.size, 3, none⟩ = some (.int .i16 x.off) ∧ w'.cell? ⟨w.heap.size, 4, none⟩ = some (.int .i32 x.imm)) ∧ (w'.cell? ⟨gb, 0, none⟩ = some (.int .u8 (⟨2, 0, wide, false, false, sz⟩ : Wh).kind) ∧ w'.cell? ⟨gb, 1, none⟩ = some (.int .u8 (⟨2, 0, wide, false, false, sz⟩ : Wh).op) ∧ w'.cell? ⟨gb, 2, none⟩ = some (.bool (⟨2, 0, wide, false, false, sz⟩ : Wh).wide) ∧ w'.cell? ⟨gb, 3, none⟩ = some (.bool (⟨2, 0, wide, false, false, sz⟩ : Wh).reg) ∧ w'.cell? ⟨gb, 4, none⟩ = some (.bool (⟨2, 0, wide, false, false, sz⟩ : Wh).signed) ∧ w'.cell? ⟨gb, 5, none⟩ = some (.int .i64 (⟨2, 0, wide, false, false, sz⟩ : Wh).size)))) (by kernel_rfl) (H.out _ _ PD.out) (fun hHeld => ?_)
      refine wpAnyH_take (i := 0) (oi := { dst := some 19, op := Op.load 26 (Operand.tmp 4), type := 26, pos := "ref.go:84", after := #[], guard := none }) (v := ?_) rfl (by kernel_rfl) (by kernel_rfl) (by kernel_rfl) (fun _ _ _ h => h) (Or.inl ⟨by rfl, ?_⟩) (by assumption) ?_
      rotate_left 1
      · intro w hSw; (try dsimp only at hSw); go_simp; try (with_reducible rfl)
      try simp only [Act.put, List.setIfInBounds_toArray, List.set_cons_zero, List.set_cons_succ]
      refine wpAnyH_take (i := 1) (oi := { dst := some 20, op := Op.fieldAddr 24 (Operand.tmp 1) 1, type := 0, pos := "ref.go:84", after := #[], guard := none }) (v := ?_) rfl (by kernel_rfl) (by kernel_rfl) (by kernel_rfl) (fun _ _ _ h => h) (Or.inl ⟨by rfl, ?_⟩) (by assumption) ?_
      rotate_left 1
      · intro w hSw; (try dsimp only at hSw); go_simp; try (with_reducible rfl)
      try simp only [Act.put, List.setIfInBounds_toArray, List.set_cons_zero, List.set_cons_succ]
      refine wpAnyH_take (i := 2) (oi := { dst := some 21, op := Op.load 5 (Operand.tmp 20), type := 5, pos := "ref.go:84", after := #[{ on := 1, ground := Ground.data }], guard := none }) (v := ?_) rfl (by kernel_rfl) (by kernel_rfl) (by kernel_rfl) (fun _ _ _ h => h) (Or.inl ⟨by rfl, ?_⟩) (by assumption) ?_
      rotate_left 1
      · intro w hSw; (try dsimp only at hSw); go_simp; try (with_reducible rfl)
      try simp only [Act.put, List.setIfInBounds_toArray, List.set_cons_zero, List.set_cons_succ]
      refine wpAnyH_take (i := 3) (oi := { dst := some 22, op := Op.binOp BinOp.neq 5 (Operand.tmp 21) (Operand.const (Value.int IntKind.u8 10)) 5, type := 4, pos := "ref.go:84", after := #[{ on := 2, ground := Ground.data }], guard := none }) (v := ?_) rfl (by kernel_rfl) (by kernel_rfl) (by kernel_rfl) (fun _ _ _ h => h) (Or.inl ⟨by rfl, ?_⟩) (by assumption) ?_
      rotate_left 1
      · intro w hSw; (try dsimp only at hSw); go_simp; try (with_reducible rfl)
      try simp only [Act.put, List.setIfInBounds_toArray, List.set_cons_zero, List.set_cons_succ]
      refine wpAnyH_take (i := 4) (oi := { dst := some 23, op := Op.move (Operand.tmp 22), type := 4, pos := "ref.go:84", after := #[{ on := 3, ground := Ground.data }], guard := none }) (v := ?_) rfl (by kernel_rfl) (by kernel_rfl) (by kernel_rfl) (fun _ _ _ h => h) (Or.inl ⟨by rfl, ?_⟩) (by assumption) ?_
      rotate_left 1
      · intro w hSw; (try dsimp only at hSw); go_simp; try (with_reducible rfl)
      try simp only [Act.put, List.setIfInBounds_toArray, List.set_cons_zero, List.set_cons_succ]
      refine wpAnyH_take (i := 5) (oi := { dst := some 24, op := Op.load 24 (Operand.tmp 1), type := 24, pos := "ref.go:84", after := #[{ on := 4, ground := Ground.guard }], guard := some (4, true) }) (v := ?_) rfl (by kernel_rfl) (by kernel_rfl) (by kernel_rfl) (fun _ _ _ h => h) (Or.inl ⟨by rfl, ?_⟩) (by assumption) ?_
      rotate_left 1
      · intro w hSw; (try dsimp only at hSw); go_simp; try (with_reducible rfl)
      try simp only [Act.put, List.setIfInBounds_toArray, List.set_cons_zero, List.set_cons_succ]
      refine wpAnyH_ready (rs := [6]) (by kernel_rfl) (by simp) ?_
      refine AllReadyH.cons (o := { dst := some 25, op := Op.call { callee := Callee.value (Operand.func 61), args := #[Operand.tmp 24, Operand.const (Value.bool false), Operand.const (Value.bool false), Operand.const (Value.bool true)], argTypes := #[24, 4, 4, 4] }, type := 4, pos := "ref.go:84", after := #[{ on := 5, ground := Ground.data }, { on := 4, ground := Ground.chain }, { on := 4, ground := Ground.guard }], guard := some (4, true) }) rfl (fun K hK => ?_) AllReadyH.nil
      go_simp
      refine (C.out _).mono ?_; rintro e w5 ⟨rfl, hb⟩
      replace PD := Lib.hid (And.intro (PD.out.1.after hb) (PD.out.2.after hb))
      clear hb
      go_wp2_with fail
      refine hK.out _ _ (H.out _ _ PD.out) (fun hHeld => ?_)
      clear hK K
      try simp only [Act.put, List.setIfInBounds_toArray, List.set_cons_zero, List.set_cons_succ]
      refine wpAnyH_take (i := 7) (oi := { dst := some 26, op := Op.pick (Operand.tmp 23) (Operand.tmp 25) (Operand.const (Value.bool false)), type := 4, pos := "ref.go:84", after := #[{ on := 4, ground := Ground.data }, { on := 6, ground := Ground.data }], guard := none }) (v := ?_) rfl (by kernel_rfl) (by kernel_rfl) (by kernel_rfl) (fun _ _ _ h => h) (Or.inl ⟨by rfl, ?_⟩) (by assumption) ?_
      rotate_left 1
      · intro w hSw; (try dsimp only at hSw); go_simp; try (with_reducible rfl)
      try simp only [Act.put, List.setIfInBounds_toArray, List.set_cons_zero, List.set_cons_succ]
      refine wpAnyH_take (i := 8) (oi := { dst := some 27, op := Op.move (Operand.tmp 26), type := 4, pos := "ref.go:84", after := #[{ on := 7, ground := Ground.data }, { on := 6, ground := Ground.chain }], guard := none }) (v := ?_) rfl (by kernel_rfl) (by kernel_rfl) (by kernel_rfl) (fun _ _ _ h => h) (Or.inl ⟨by rfl, ?_⟩) (by assumption) ?_
      rotate_left 1
      · intro w hSw; (try dsimp only at hSw); go_simp; try (with_reducible rfl)
      try simp only [Act.put, List.setIfInBounds_toArray, List.set_cons_zero, List.set_cons_succ]
      refine wpAnyH_take (i := 9) (oi := { dst := some 28, op := Op.fieldAddr 24 (Operand.tmp 1) 4, type := 0, pos := "ref.go:84", after := #[{ on := 8, ground := Ground.guard }], guard := some (8, true) }) (v := ?_) rfl (by kernel_rfl) (by kernel_rfl) (by kernel_rfl) (fun _ _ _ h => h) (Or.inl ⟨by rfl, ?_⟩) (by assumption) ?_
      rotate_left 1
      · intro w hSw; (try dsimp only at hSw); go_simp; try (with_reducible rfl)
      try simp only [Act.put, List.setIfInBounds_toArray, List.set_cons_zero, List.set_cons_succ]
      refine wpAnyH_take (i := 10) (oi := { dst := some 29, op := Op.load 21 (Operand.tmp 28), type := 21, pos := "ref.go:84", after := #[{ on := 9, ground := Ground.data }, { on := 8, ground := Ground.guard }], guard := some (8, true) }) (v := ?_) rfl (by kernel_rfl) (by kernel_rfl) (by kernel_rfl) (fun _ _ _ h => h) (Or.inl ⟨by rfl, ?_⟩) (by assumption) ?_
      rotate_left 1
      · intro w hSw; (try dsimp only at hSw); go_simp; try (with_reducible rfl)
      try simp only [Act.put, List.setIfInBounds_toArray, List.set_cons_zero, List.set_cons_succ]
      refine wpAnyH_take (i := 11) (oi := { dst := some 30, op := Op.binOp BinOp.eql 21 (Operand.tmp 29) (Operand.const (Value.int IntKind.i32 16)) 21, type := 4, pos := "ref.go:84", after := #[{ on := 10, ground := Ground.data }, { on := 8, ground := Ground.guard }], guard := some (8, true) }) (v := ?_) rfl (by kernel_rfl) (by kernel_rfl) (by kernel_rfl) (fun _ _ _ h => h) (Or.inl ⟨by rfl, ?_⟩) (by assumption) ?_
      rotate_left 1
      · intro w hSw; (try dsimp only at hSw); go_simp; try (with_reducible rfl)
      try simp only [Act.put, List.setIfInBounds_toArray, List.set_cons_zero, List.set_cons_succ]
      refine wpAnyH_take (i := 12) (oi := { dst := some 31, op := Op.move (Operand.tmp 30), type := 4, pos := "ref.go:84", after := #[{ on := 11, ground := Ground.data }, { on := 8, ground := Ground.chain }, { on := 8, ground := Ground.guard }], guard := some (8, true) }) (v := ?_) rfl (by kernel_rfl) (by kernel_rfl) (by kernel_rfl) (fun _ _ _ h => h) (Or.inl ⟨by rfl, ?_⟩) (by assumption) ?_
      rotate_left 1
      · intro w hSw; (try dsimp only at hSw); go_simp; try (with_reducible rfl)
      try simp only [Act.put, List.setIfInBounds_toArray, List.set_cons_zero, List.set_cons_succ]
      refine wpAnyH_take (i := 13) (oi := { dst := some 32, op := Op.fieldAddr 24 (Operand.tmp 1) 4, type := 0, pos := "ref.go:84", after := #[{ on := 12, ground := Ground.guard }], guard := some (12, false) }) (v := undef) rfl (by kernel_rfl) (by kernel_rfl) (by kernel_rfl) (fun _ _ _ h => h) (Or.inr ⟨by rfl, rfl⟩) (by assumption) ?_
      try simp only [Act.put, List.setIfInBounds_toArray, List.set_cons_zero, List.set_cons_succ]
      refine wpAnyH_take (i := 14) (oi := { dst := some 33, op := Op.load 21 (Operand.tmp 32), type := 21, pos := "ref.go:84", after := #[{ on := 13, ground := Ground.data }, { on := 12, ground := Ground.guard }], guard := some (12, false) }) (v := undef) rfl (by kernel_rfl) (by kernel_rfl) (by kernel_rfl) (fun _ _ _ h => h) (Or.inr ⟨by rfl, rfl⟩) (by assumption) ?_
      try simp only [Act.put, List.setIfInBounds_toArray, List.set_cons_zero, List.set_cons_succ]
      refine wpAnyH_take (i := 15) (oi := { dst := some 34, op := Op.binOp BinOp.eql 21 (Operand.tmp 33) (Operand.const (Value.int IntKind.i32 32)) 21, type := 4, pos := "ref.go:84", after := #[{ on := 14, ground := Ground.data }, { on := 12, ground := Ground.guard }], guard := some (12, false) }) (v := undef) rfl (by kernel_rfl) (by kernel_rfl) (by kernel_rfl) (fun _ _ _ h => h) (Or.inr ⟨by rfl, rfl⟩) (by assumption) ?_
      try simp only [Act.put, List.setIfInBounds_toArray, List.set_cons_zero, List.set_cons_succ]
      refine wpAnyH_take (i := 16) (oi := { dst := some 35, op := Op.pick (Operand.tmp 31) (Operand.const (Value.bool true)) (Operand.tmp 34), type := 4, pos := "ref.go:84", after := #[{ on := 12, ground := Ground.data }, { on := 15, ground := Ground.data }, { on := 8, ground := Ground.guard }], guard := some (8, true) }) (v := ?_) rfl (by kernel_rfl) (by kernel_rfl) (by kernel_rfl) (fun _ _ _ h => h) (Or.inl ⟨by rfl, ?_⟩) (by assumption) ?_
      rotate_left 1
      · intro w hSw; (try dsimp only at hSw); go_simp; try (with_reducible rfl)
      try simp only [Act.put, List.setIfInBounds_toArray, List.set_cons_zero, List.set_cons_succ]
      refine wpAnyH_take (i := 17) (oi := { dst := some 36, op := Op.move (Operand.tmp 35), type := 4, pos := "ref.go:84", after := #[{ on := 16, ground := Ground.data }, { on := 12, ground := Ground.chain }, { on := 8, ground := Ground.guard }], guard := some (8, true) }) (v := ?_) rfl (by kernel_rfl) (by kernel_rfl) (by kernel_rfl) (fun _ _ _ h => h) (Or.inl ⟨by rfl, ?_⟩) (by assumption) ?_
      rotate_left 1
      · intro w hSw; (try dsimp only at hSw); go_simp; try (with_reducible rfl)
      try simp only [Act.put, List.setIfInBounds_toArray, List.set_cons_zero, List.set_cons_succ]
      refine wpAnyH_take (i := 18) (oi := { dst := some 37, op := Op.fieldAddr 24 (Operand.tmp 1) 4, type := 0, pos := "ref.go:84", after := #[{ on := 17, ground := Ground.guard }, { on := 23, ground := Ground.gcOnly Departure.lateStores }], guard := some (17, false) }) (v := undef) rfl (by kernel_rfl) (by kernel_rfl) (by kernel_rfl) (fun _ _ _ h => h) (Or.inr ⟨by rfl, rfl⟩) (by assumption) ?_
      try simp only [Act.put, List.setIfInBounds_toArray, List.set_cons_zero, List.set_cons_succ]
      refine wpAnyH_take (i := 19) (oi := { dst := some 38, op := Op.load 21 (Operand.tmp 37), type := 21, pos := "ref.go:84", after := #[{ on := 18, ground := Ground.data }, { on := 17, ground := Ground.guard }, { on := 23, ground := Ground.gcOnly Departure.lateStores }], guard := some (17, false) }) (v := undef) rfl (by kernel_rfl) (by kernel_rfl) (by kernel_rfl) (fun _ _ _ h => h) (Or.inr ⟨by rfl, rfl⟩) (by assumption) ?_
      try simp only [Act.put, List.setIfInBounds_toArray, List.set_cons_zero, List.set_cons_succ]
      refine wpAnyH_take (i := 20) (oi := { dst := some 39, op := Op.binOp BinOp.eql 21 (Operand.tmp 38) (Operand.const (Value.int IntKind.i32 64)) 21, type := 4, pos := "ref.go:84", after := #[{ on := 19, ground := Ground.data }, { on := 17, ground := Ground.guard }, { on := 23, ground := Ground.gcOnly Departure.lateStores }], guard := some (17, false) }) (v := undef) rfl (by kernel_rfl) (by kernel_rfl) (by kernel_rfl) (fun _ _ _ h => h) (Or.inr ⟨by rfl, rfl⟩) (by assumption) ?_
      try simp only [Act.put, List.setIfInBounds_toArray, List.set_cons_zero, List.set_cons_succ]
      refine wpAnyH_take (i := 21) (oi := { dst := some 40, op := Op.pick (Operand.tmp 36) (Operand.const (Value.bool true)) (Operand.tmp 39), type := 4, pos := "ref.go:84", after := #[{ on := 17, ground := Ground.data }, { on := 20, ground := Ground.data }, { on := 8, ground := Ground.guard }, { on := 23, ground := Ground.gcOnly Departure.lateStores }], guard := some (8, true) }) (v := ?_) rfl (by kernel_rfl) (by kernel_rfl) (by kernel_rfl) (fun _ _ _ h => h) (Or.inl ⟨by rfl, ?_⟩) (by assumption) ?_
      rotate_left 1
      · intro w hSw; (try dsimp only at hSw); go_simp; try (with_reducible rfl)
      try simp only [Act.put, List.setIfInBounds_toArray, List.set_cons_zero, List.set_cons_succ]
      refine wpAnyH_take (i := 22) (oi := { dst := some 41, op := Op.pick (Operand.tmp 27) (Operand.tmp 40) (Operand.const (Value.bool false)), type := 4, pos := "ref.go:84", after := #[{ on := 8, ground := Ground.data }, { on := 21, ground := Ground.data }, { on := 23, ground := Ground.gcOnly Departure.lateStores }], guard := none }) (v := ?_) rfl (by kernel_rfl) (by kernel_rfl) (by kernel_rfl) (fun _ _ _ h => h) (Or.inl ⟨by rfl, ?_⟩) (by assumption) ?_
      rotate_left 1
      · intro w hSw; (try dsimp only at hSw); go_simp; try (with_reducible rfl)
      try simp only [Act.put, List.setIfInBounds_toArray, List.set_cons_zero, List.set_cons_succ]
      obtain ⟨f0, f1, f2, f3, f4, f5⟩ := PD.out.1.2.2.free
      obtain ⟨z0, z1, z2, z3, z4, z5⟩ := PD.out.1.2.2.cells
      refine wpAnyH_ready (rs := [23]) (by kernel_rfl) (by simp) ?_
      refine AllReadyH.cons (o := { dst := none, op := Op.store 26 (Operand.tmp 2) (Operand.tmp 19), type := 0, pos := "ref.go:84", after := #[{ on := 0, ground := Ground.data }, { on := 17, ground := Ground.chain }, { on := 0, ground := Ground.phase }, { on := 1, ground := Ground.textOnly Departure.lateStores }, { on := 2, ground := Ground.textOnly Departure.lateStores }, { on := 3, ground := Ground.textOnly Departure.lateStores }, { on := 4, ground := Ground.textOnly Departure.lateStores }, { on := 5, ground := Ground.textOnly Departure.lateStores }, { on := 6, ground := Ground.textOnly Departure.lateStoresUnsure }, { on := 7, ground := Ground.textOnly Departure.lateStores }, { on := 8, ground := Ground.textOnly Departure.lateStores }, { on := 9, ground := Ground.textOnly Departure.lateStores }, { on := 10, ground := Ground.textOnly Departure.lateStores }, { on := 11, ground := Ground.textOnly Departure.lateStores }, { on := 12, ground := Ground.textOnly Departure.lateStores }, { on := 13, ground := Ground.textOnly Departure.lateStores }, { on := 14, ground := Ground.textOnly Departure.lateStores }, { on := 15, ground := Ground.textOnly Departure.lateStores }, { on := 16, ground := Ground.textOnly Departure.lateStores }, { on := 17, ground := Ground.textOnly Departure.lateStores }, { on := 18, ground := Ground.textOnly Departure.lateStores }, { on := 19, ground := Ground.textOnly Departure.lateStores }, { on := 20, ground := Ground.textOnly Departure.lateStores }, { on := 21, ground := Ground.textOnly Departure.lateStores }, { on := 22, ground := Ground.textOnly Departure.lateStores }], guard := none }) rfl (fun K hK => ?_) AllReadyH.nil
      go_simp
      replace PD := Lib.hid (And.intro (PD.out.1.set (⟨2, 0, wide, false, false, sz⟩ : Wh)) (PD.out.2.whs (k := w.heap.size + 1) (⟨2, 0, wide, false, false, sz⟩ : Wh) (by omega)))
      clear f0 f1 f2 f3 f4 f5 z0 z1 z2 z3 z4 z5
      refine hK.out _ _ (H.out _ _ PD.out) (fun hHeld => ?_)
      clear hK K
      try simp only [Act.put, List.setIfInBounds_toArray, List.set_cons_zero, List.set_cons_succ]
      refine wpAnyH_take (i := 24) (oi := { dst := some 3, op := Op.assign (Operand.tmp 41), type := 4, pos := "ref.go:84", after := #[{ on := 22, ground := Ground.data }, { on := 23, ground := Ground.chain }, { on := 0, ground := Ground.phase }, { on := 1, ground := Ground.phase }, { on := 2, ground := Ground.phase }, { on := 3, ground := Ground.phase }, { on := 4, ground := Ground.phase }, { on := 5, ground := Ground.phase }, { on := 6, ground := Ground.phase }, { on := 7, ground := Ground.phase }, { on := 8, ground := Ground.phase }, { on := 9, ground := Ground.phase }, { on := 10, ground := Ground.phase }, { on := 11, ground := Ground.phase }, { on := 12, ground := Ground.phase }, { on := 13, ground := Ground.phase }, { on := 14, ground := Ground.phase }, { on := 15, ground := Ground.phase }, { on := 16, ground := Ground.phase }, { on := 17, ground := Ground.phase }, { on := 18, ground := Ground.phase }, { on := 19, ground := Ground.phase }, { on := 20, ground := Ground.phase }, { on := 21, ground := Ground.phase }, { on := 22, ground := Ground.phase }, { on := 23, ground := Ground.phase }], guard := none }) (v := ?_) rfl (by kernel_rfl) (by kernel_rfl) (by kernel_rfl) (fun _ _ _ h => h) (Or.inl ⟨by rfl, ?_⟩) (by assumption) ?_
      rotate_left 1
      · intro w hSw; (try dsimp only at hSw); go_simp; try (with_reducible rfl)
      try simp only [Act.put, List.setIfInBounds_toArray, List.set_cons_zero, List.set_cons_succ]
      refine wpAnyH_done (by kernel_rfl) ?_ _
      have BB := Lib.hid PD.out.1.1
      obtain ⟨z0, z1, z2, z3, z4, z5⟩ := PD.out.1.2.2.cells
      clear H PD
      go_wp2_with fail
      exact bodyPost_ret (v := .tuple #[whV (⟨2, 0, wide, false, false, sz⟩ : Wh), .bool true]) (by simp [results, Try.results59, go_sem, z0, z1, z2, z3, z4, z5]) rfl ⟨rfl, BB.out⟩

set_option maxRecDepth 100000 in
set_option maxHeartbeats 8000000 in
theorem r7_swaps_32 (x : Ins) (h : x.op = 212 ∨ x.op = 220 ∨ x.op = 215) (wide : Bool) (hw : (x.op != 212) = wide) (l1 : -2147483648 ≤ x.imm) (l2 : x.imm ≤ 2147483647) (hd : (x.dst != 10) = true) (h1 : (x.imm == 16) = false) (h2 : (x.imm == 32) = true) (w : World)
    (C : Hid (∀ w, Calls Try.prog 61 #[iV x, .bool false, .bool false, .bool true] w (Gives (.bool true) w))) :
    Calls Try.prog 59 #[iV x] w (Gives (.tuple #[whV (⟨2, 0, wide, false, false, x.imm.tdiv 8⟩ : Wh), .bool true]) w) := by
  have P := Lib.hid (IDuo.new x Wh.zero w)
  have h' := Lib.hid h
  have hw' := Lib.hid hw
  clear h hw
  go_enter Try.func59, Try.ntmps59
  go_upto_if 7 with fail
  go_cut [7] (fun s wx => s = .bool true ∧ Hid (IDuo x Wh.zero w wx))
  case first =>
    rcases h'.out with e | e | e
    · skip
      have k0 : (x.op == 212) = true := by rw [e]; rfl
      clear e
      go_wp2_with fail
      go_meet
      exact ⟨by rw [k0], P⟩
    · skip
      have k0 : (x.op == 212) = false := by rw [e]; rfl
      have k1 : (x.op == 220) = true := by rw [e]; rfl
      clear e
      go_wp2_with fail
      go_meet
      exact ⟨rfl, P⟩
    · skip
      have k0 : (x.op == 212) = false := by rw [e]; rfl
      have k1 : (x.op == 220) = false := by rw [e]; rfl
      have k2 : (x.op == 215) = true := by rw [e]; rfl
      clear e
      go_wp2_with fail
      go_meet
      exact ⟨rfl, P⟩
  case rest =>
    obtain ⟨rfl, Q⟩ := hcut
    clear P
    obtain ⟨p0, p1, p2, p3, p4⟩ := Q.out.2.1.cells
    go_upto_region 5 with fail
    go_cut [4] (fun s wx => ∃ gb, s = .pointer (some ⟨gb, 0, none⟩) ∧ w.heap.size + 1 < gb ∧ Hid (IDuo x Wh.zero w wx ∧ whB gb (⟨2, 0, wide, false, false, x.imm.tdiv 8⟩ : Wh) wx))
    case first =>
      have kq := Q.out.2.2.lt
      go_wp2_with fail
      go_meet
      rw [← hw'.out]
      exact ⟨_, rfl, kq, Lib.hid ⟨Q.out.after (below_alloc (Below.refl _ _) _), whB.new _ _ rfl⟩⟩
    case rest =>
      clear Q p0 p1 p2 p3 p4
      obtain ⟨gb, rfl, kq, Q⟩ := hcut
      generalize x.imm.tdiv 8 = sz at *
      have PD := Lib.hid (And.intro (Q.out.1.after (Below.drew (Below.refl _ _))) (Q.out.2.after (Below.drew (Below.refl _ _))))
      have H : Hid (∀ v wx, IDuo x v w wx ∧ whB gb (⟨2, 0, wide, false, false, sz⟩ : Wh) wx → (wx.cell? ⟨w.heap.size, 0, none⟩ = some (.int .u8 x.op) ∧ wx.cell? ⟨w.heap.size, 1, none⟩ = some (.int .u8 x.dst) ∧ wx.cell? ⟨w.heap.size, 2, none⟩ = some (.int .u8 x.src) ∧ wx.cell? ⟨w.heap.size, 3, none⟩ = some (.int .i16 x.off) ∧ wx.cell? ⟨w.heap.size, 4, none⟩ = some (.int .i32 x.imm)) ∧ (wx.cell? ⟨gb, 0, none⟩ = some (.int .u8 (⟨2, 0, wide, false, false, sz⟩ : Wh).kind) ∧ wx.cell? ⟨gb, 1, none⟩ = some (.int .u8 (⟨2, 0, wide, false, false, sz⟩ : Wh).op) ∧ wx.cell? ⟨gb, 2, none⟩ = some (.bool (⟨2, 0, wide, false, false, sz⟩ : Wh).wide) ∧ wx.cell? ⟨gb, 3, none⟩ = some (.bool (⟨2, 0, wide, false, false, sz⟩ : Wh).reg) ∧ wx.cell? ⟨gb, 4, none⟩ = some (.bool (⟨2, 0, wide, false, false, sz⟩ : Wh).signed) ∧ wx.cell? ⟨gb, 5, none⟩ = some (.int .i64 (⟨2, 0, wide, false, false, sz⟩ : Wh).size))) := Lib.hid fun v wx hx => ⟨hx.1.2.1.cells, hx.2.cells⟩
      go_upto_region 6 with fail
      refine wp_region_held_drew (S := (fun w' => (w'.cell? ⟨w.heap.size, 0, none⟩ = some (.int .u8 x.op) ∧ w'.cell? ⟨w.heap.size, 1, none⟩ = some (.int .u8 x.dst) ∧ w'.cell? ⟨w.heap.size, 2, none⟩ = some (.int .u8 x.src) ∧ w'.cell? ⟨w.heap.size, 3, none⟩ = some (.int .i16 x.off) ∧ w'.cell? ⟨w.heap.size, 4, none⟩ = some (.int .i32 x.imm)) ∧ (w'.cell? ⟨gb, 0, none⟩ = some (.int .u8 (⟨2, 0, wide, false, false, sz⟩ : Wh).kind) ∧ w'.cell? ⟨gb, 1, none⟩ = some (.int .u8 (⟨2, 0, wide, false, false, sz⟩ : Wh).op) ∧ w'.cell? ⟨gb, 2, none⟩ = some (.bool (⟨2, 0, wide, false, false, sz⟩ : Wh).wide) ∧ w'.cell? ⟨gb, 3, none⟩ = some (.bool (⟨2, 0, wide, false, false, sz⟩ : Wh).reg) ∧ w'.cell? ⟨gb, 4, none⟩ = some (.bool (⟨2, 0, wide, false, false, sz⟩ : Wh).signed) ∧ w'.cell? ⟨gb, 5, none⟩ = some (.int .i64 (⟨2, 0, wide, false, false, sz⟩ : Wh).size)))) (by kernel_rfl) (H.out _ _ PD.out) (fun hHeld => ?_)
      refine wpAnyH_take (i := 0) (oi := { dst := some 19, op := Op.load 26 (Operand.tmp 4), type := 26, pos := "ref.go:84", after := #[], guard := none }) (v := ?_) rfl (by kernel_rfl) (by kernel_rfl) (by kernel_rfl) (fun _ _ _ h => h) (Or.inl ⟨by rfl, ?_⟩) (by assumption) ?_
      rotate_left 1
      · intro w hSw; (try dsimp only at hSw); go_simp; try (with_reducible rfl)
      try simp only [Act.put, List.setIfInBounds_toArray, List.set_cons_zero, List.set_cons_succ]
      refine wpAnyH_take (i := 1) (oi := { dst := some 20, op := Op.fieldAddr 24 (Operand.tmp 1) 1, type := 0, pos := "ref.go:84", after := #[], guard := none }) (v := ?_) rfl (by kernel_rfl) (by kernel_rfl) (by kernel_rfl) (fun _ _ _ h => h) (Or.inl ⟨by rfl, ?_⟩) (by assumption) ?_
      rotate_left 1
      · intro w hSw; (try dsimp only at hSw); go_simp; try (with_reducible rfl)
      try simp only [Act.put, List.setIfInBounds_toArray, List.set_cons_zero, List.set_cons_succ]
      refine wpAnyH_take (i := 2) (oi := { dst := some 21, op := Op.load 5 (Operand.tmp 20), type := 5, pos := "ref.go:84", after := #[{ on := 1, ground := Ground.data }], guard := none }) (v := ?_) rfl (by kernel_rfl) (by kernel_rfl) (by kernel_rfl) (fun _ _ _ h => h) (Or.inl ⟨by rfl, ?_⟩) (by assumption) ?_
      rotate_left 1
      · intro w hSw; (try dsimp only at hSw); go_simp; try (with_reducible rfl)
      try simp only [Act.put, List.setIfInBounds_toArray, List.set_cons_zero, List.set_cons_succ]
      refine wpAnyH_take (i := 3) (oi := { dst := some 22, op := Op.binOp BinOp.neq 5 (Operand.tmp 21) (Operand.const (Value.int IntKind.u8 10)) 5, type := 4, pos := "ref.go:84", after := #[{ on := 2, ground := Ground.data }], guard := none }) (v := ?_) rfl (by kernel_rfl) (by kernel_rfl) (by kernel_rfl) (fun _ _ _ h => h) (Or.inl ⟨by rfl, ?_⟩) (by assumption) ?_
      rotate_left 1
      · intro w hSw; (try dsimp only at hSw); go_simp; try (with_reducible rfl)
      try simp only [Act.put, List.setIfInBounds_toArray, List.set_cons_zero, List.set_cons_succ]
      refine wpAnyH_take (i := 4) (oi := { dst := some 23, op := Op.move (Operand.tmp 22), type := 4, pos := "ref.go:84", after := #[{ on := 3, ground := Ground.data }], guard := none }) (v := ?_) rfl (by kernel_rfl) (by kernel_rfl) (by kernel_rfl) (fun _ _ _ h => h) (Or.inl ⟨by rfl, ?_⟩) (by assumption) ?_
      rotate_left 1
      · intro w hSw; (try dsimp only at hSw); go_simp; try (with_reducible rfl)
      try simp only [Act.put, List.setIfInBounds_toArray, List.set_cons_zero, List.set_cons_succ]
      refine wpAnyH_take (i := 5) (oi := { dst := some 24, op := Op.load 24 (Operand.tmp 1), type := 24, pos := "ref.go:84", after := #[{ on := 4, ground := Ground.guard }], guard := some (4, true) }) (v := ?_) rfl (by kernel_rfl) (by kernel_rfl) (by kernel_rfl) (fun _ _ _ h => h) (Or.inl ⟨by rfl, ?_⟩) (by assumption) ?_
      rotate_left 1
      · intro w hSw; (try dsimp only at hSw); go_simp; try (with_reducible rfl)
      try simp only [Act.put, List.setIfInBounds_toArray, List.set_cons_zero, List.set_cons_succ]
      refine wpAnyH_ready (rs := [6]) (by kernel_rfl) (by simp) ?_
      refine AllReadyH.cons (o := { dst := some 25, op := Op.call { callee := Callee.value (Operand.func 61), args := #[Operand.tmp 24, Operand.const (Value.bool false), Operand.const (Value.bool false), Operand.const (Value.bool true)], argTypes := #[24, 4, 4, 4] }, type := 4, pos := "ref.go:84", after := #[{ on := 5, ground := Ground.data }, { on := 4, ground := Ground.chain }, { on := 4, ground := Ground.guard }], guard := some (4, true) }) rfl (fun K hK => ?_) AllReadyH.nil
      go_simp
      refine (C.out _).mono ?_; rintro e w5 ⟨rfl, hb⟩
      replace PD := Lib.hid (And.intro (PD.out.1.after hb) (PD.out.2.after hb))
      clear hb
      go_wp2_with fail
      refine hK.out _ _ (H.out _ _ PD.out) (fun hHeld => ?_)
      clear hK K
      try simp only [Act.put, List.setIfInBounds_toArray, List.set_cons_zero, List.set_cons_succ]
      refine wpAnyH_take (i := 7) (oi := { dst := some 26, op := Op.pick (Operand.tmp 23) (Operand.tmp 25) (Operand.const (Value.bool false)), type := 4, pos := "ref.go:84", after := #[{ on := 4, ground := Ground.data }, { on := 6, ground := Ground.data }], guard := none }) (v := ?_) rfl (by kernel_rfl) (by kernel_rfl) (by kernel_rfl) (fun _ _ _ h => h) (Or.inl ⟨by rfl, ?_⟩) (by assumption) ?_
      rotate_left 1
      · intro w hSw; (try dsimp only at hSw); go_simp; try (with_reducible rfl)
      try simp only [Act.put, List.setIfInBounds_toArray, List.set_cons_zero, List.set_cons_succ]
      refine wpAnyH_take (i := 8) (oi := { dst := some 27, op := Op.move (Operand.tmp 26), type := 4, pos := "ref.go:84", after := #[{ on := 7, ground := Ground.data }, { on := 6, ground := Ground.chain }], guard := none }) (v := ?_) rfl (by kernel_rfl) (by kernel_rfl) (by kernel_rfl) (fun _ _ _ h => h) (Or.inl ⟨by rfl, ?_⟩) (by assumption) ?_
      rotate_left 1
      · intro w hSw; (try dsimp only at hSw); go_simp; try (with_reducible rfl)
      try simp only [Act.put, List.setIfInBounds_toArray, List.set_cons_zero, List.set_cons_succ]
      refine wpAnyH_take (i := 9) (oi := { dst := some 28, op := Op.fieldAddr 24 (Operand.tmp 1) 4, type := 0, pos := "ref.go:84", after := #[{ on := 8, ground := Ground.guard }], guard := some (8, true) }) (v := ?_) rfl (by kernel_rfl) (by kernel_rfl) (by kernel_rfl) (fun _ _ _ h => h) (Or.inl ⟨by rfl, ?_⟩) (by assumption) ?_
      rotate_left 1
      · intro w hSw; (try dsimp only at hSw); go_simp; try (with_reducible rfl)
      try simp only [Act.put, List.setIfInBounds_toArray, List.set_cons_zero, List.set_cons_succ]
      refine wpAnyH_take (i := 10) (oi := { dst := some 29, op := Op.load 21 (Operand.tmp 28), type := 21, pos := "ref.go:84", after := #[{ on := 9, ground := Ground.data }, { on := 8, ground := Ground.guard }], guard := some (8, true) }) (v := ?_) rfl (by kernel_rfl) (by kernel_rfl) (by kernel_rfl) (fun _ _ _ h => h) (Or.inl ⟨by rfl, ?_⟩) (by assumption) ?_
      rotate_left 1
      · intro w hSw; (try dsimp only at hSw); go_simp; try (with_reducible rfl)
      try simp only [Act.put, List.setIfInBounds_toArray, List.set_cons_zero, List.set_cons_succ]
      refine wpAnyH_take (i := 11) (oi := { dst := some 30, op := Op.binOp BinOp.eql 21 (Operand.tmp 29) (Operand.const (Value.int IntKind.i32 16)) 21, type := 4, pos := "ref.go:84", after := #[{ on := 10, ground := Ground.data }, { on := 8, ground := Ground.guard }], guard := some (8, true) }) (v := ?_) rfl (by kernel_rfl) (by kernel_rfl) (by kernel_rfl) (fun _ _ _ h => h) (Or.inl ⟨by rfl, ?_⟩) (by assumption) ?_
      rotate_left 1
      · intro w hSw; (try dsimp only at hSw); go_simp; try (with_reducible rfl)
      try simp only [Act.put, List.setIfInBounds_toArray, List.set_cons_zero, List.set_cons_succ]
      refine wpAnyH_take (i := 12) (oi := { dst := some 31, op := Op.move (Operand.tmp 30), type := 4, pos := "ref.go:84", after := #[{ on := 11, ground := Ground.data }, { on := 8, ground := Ground.chain }, { on := 8, ground := Ground.guard }], guard := some (8, true) }) (v := ?_) rfl (by kernel_rfl) (by kernel_rfl) (by kernel_rfl) (fun _ _ _ h => h) (Or.inl ⟨by rfl, ?_⟩) (by assumption) ?_
      rotate_left 1
      · intro w hSw; (try dsimp only at hSw); go_simp; try (with_reducible rfl)
      try simp only [Act.put, List.setIfInBounds_toArray, List.set_cons_zero, List.set_cons_succ]
      refine wpAnyH_take (i := 13) (oi := { dst := some 32, op := Op.fieldAddr 24 (Operand.tmp 1) 4, type := 0, pos := "ref.go:84", after := #[{ on := 12, ground := Ground.guard }], guard := some (12, false) }) (v := ?_) rfl (by kernel_rfl) (by kernel_rfl) (by kernel_rfl) (fun _ _ _ h => h) (Or.inl ⟨by rfl, ?_⟩) (by assumption) ?_
      rotate_left 1
      · intro w hSw; (try dsimp only at hSw); go_simp; try (with_reducible rfl)
      try simp only [Act.put, List.setIfInBounds_toArray, List.set_cons_zero, List.set_cons_succ]
      refine wpAnyH_take (i := 14) (oi := { dst := some 33, op := Op.load 21 (Operand.tmp 32), type := 21, pos := "ref.go:84", after := #[{ on := 13, ground := Ground.data }, { on := 12, ground := Ground.guard }], guard := some (12, false) }) (v := ?_) rfl (by kernel_rfl) (by kernel_rfl) (by kernel_rfl) (fun _ _ _ h => h) (Or.inl ⟨by rfl, ?_⟩) (by assumption) ?_
      rotate_left 1
      · intro w hSw; (try dsimp only at hSw); go_simp; try (with_reducible rfl)
      try simp only [Act.put, List.setIfInBounds_toArray, List.set_cons_zero, List.set_cons_succ]
      refine wpAnyH_take (i := 15) (oi := { dst := some 34, op := Op.binOp BinOp.eql 21 (Operand.tmp 33) (Operand.const (Value.int IntKind.i32 32)) 21, type := 4, pos := "ref.go:84", after := #[{ on := 14, ground := Ground.data }, { on := 12, ground := Ground.guard }], guard := some (12, false) }) (v := ?_) rfl (by kernel_rfl) (by kernel_rfl) (by kernel_rfl) (fun _ _ _ h => h) (Or.inl ⟨by rfl, ?_⟩) (by assumption) ?_
      rotate_left 1
      · intro w hSw; (try dsimp only at hSw); go_simp; try (with_reducible rfl)
      try simp only [Act.put, List.setIfInBounds_toArray, List.set_cons_zero, List.set_cons_succ]
      refine wpAnyH_take (i := 16) (oi := { dst := some 35, op := Op.pick (Operand.tmp 31) (Operand.const (Value.bool true)) (Operand.tmp 34), type := 4, pos := "ref.go:84", after := #[{ on := 12, ground := Ground.data }, { on := 15, ground := Ground.data }, { on := 8, ground := Ground.guard }], guard := some (8, true) }) (v := ?_) rfl (by kernel_rfl) (by kernel_rfl) (by kernel_rfl) (fun _ _ _ h => h) (Or.inl ⟨by rfl, ?_⟩) (by assumption) ?_
      rotate_left 1
      · intro w hSw; (try dsimp only at hSw); go_simp; try (with_reducible rfl)
      try simp only [Act.put, List.setIfInBounds_toArray, List.set_cons_zero, List.set_cons_succ]
      refine wpAnyH_take (i := 17) (oi := { dst := some 36, op := Op.move (Operand.tmp 35), type := 4, pos := "ref.go:84", after := #[{ on := 16, ground := Ground.data }, { on := 12, ground := Ground.chain }, { on := 8, ground := Ground.guard }], guard := some (8, true) }) (v := ?_) rfl (by kernel_rfl) (by kernel_rfl) (by kernel_rfl) (fun _ _ _ h => h) (Or.inl ⟨by rfl, ?_⟩) (by assumption) ?_
      rotate_left 1
      · intro w hSw; (try dsimp only at hSw); go_simp; try (with_reducible rfl)
      try simp only [Act.put, List.setIfInBounds_toArray, List.set_cons_zero, List.set_cons_succ]
      refine wpAnyH_take (i := 18) (oi := { dst := some 37, op := Op.fieldAddr 24 (Operand.tmp 1) 4, type := 0, pos := "ref.go:84", after := #[{ on := 17, ground := Ground.guard }, { on := 23, ground := Ground.gcOnly Departure.lateStores }], guard := some (17, false) }) (v := undef) rfl (by kernel_rfl) (by kernel_rfl) (by kernel_rfl) (fun _ _ _ h => h) (Or.inr ⟨by rfl, rfl⟩) (by assumption) ?_
      try simp only [Act.put, List.setIfInBounds_toArray, List.set_cons_zero, List.set_cons_succ]
      refine wpAnyH_take (i := 19) (oi := { dst := some 38, op := Op.load 21 (Operand.tmp 37), type := 21, pos := "ref.go:84", after := #[{ on := 18, ground := Ground.data }, { on := 17, ground := Ground.guard }, { on := 23, ground := Ground.gcOnly Departure.lateStores }], guard := some (17, false) }) (v := undef) rfl (by kernel_rfl) (by kernel_rfl) (by kernel_rfl) (fun _ _ _ h => h) (Or.inr ⟨by rfl, rfl⟩) (by assumption) ?_
      try simp only [Act.put, List.setIfInBounds_toArray, List.set_cons_zero, List.set_cons_succ]
      refine wpAnyH_take (i := 20) (oi := { dst := some 39, op := Op.binOp BinOp.eql 21 (Operand.tmp 38) (Operand.const (Value.int IntKind.i32 64)) 21, type := 4, pos := "ref.go:84", after := #[{ on := 19, ground := Ground.data }, { on := 17, ground := Ground.guard }, { on := 23, ground := Ground.gcOnly Departure.lateStores }], guard := some (17, false) }) (v := undef) rfl (by kernel_rfl) (by kernel_rfl) (by kernel_rfl) (fun _ _ _ h => h) (Or.inr ⟨by rfl, rfl⟩) (by assumption) ?_
      try simp only [Act.put, List.setIfInBounds_toArray, List.set_cons_zero, List.set_cons_succ]
      refine wpAnyH_take (i := 21) (oi := { dst := some 40, op := Op.pick (Operand.tmp 36) (Operand.const (Value.bool true)) (Operand.tmp 39), type := 4, pos := "ref.go:84", after := #[{ on := 17, ground := Ground.data }, { on := 20, ground := Ground.data }, { on := 8, ground := Ground.guard }, { on := 23, ground := Ground.gcOnly Departure.lateStores }], guard := some (8, true) }) (v := ?_) rfl (by kernel_rfl) (by kernel_rfl) (by kernel_rfl) (fun _ _ _ h => h) (Or.inl ⟨by rfl, ?_⟩) (by assumption) ?_
      rotate_left 1
      · intro w hSw; (try dsimp only at hSw); go_simp; try (with_reducible rfl)
      try simp only [Act.put, List.setIfInBounds_toArray, List.set_cons_zero, List.set_cons_succ]
      refine wpAnyH_take (i := 22) (oi := { dst := some 41, op := Op.pick (Operand.tmp 27) (Operand.tmp 40) (Operand.const (Value.bool false)), type := 4, pos := "ref.go:84", after := #[{ on := 8, ground := Ground.data }, { on := 21, ground := Ground.data }, { on := 23, ground := Ground.gcOnly Departure.lateStores }], guard := none }) (v := ?_) rfl (by kernel_rfl) (by kernel_rfl) (by kernel_rfl) (fun _ _ _ h => h) (Or.inl ⟨by rfl, ?_⟩) (by assumption) ?_
      rotate_left 1
      · intro w hSw; (try dsimp only at hSw); go_simp; try (with_reducible rfl)
      try simp only [Act.put, List.setIfInBounds_toArray, List.set_cons_zero, List.set_cons_succ]
      obtain ⟨f0, f1, f2, f3, f4, f5⟩ := PD.out.1.2.2.free
      obtain ⟨z0, z1, z2, z3, z4, z5⟩ := PD.out.1.2.2.cells
      refine wpAnyH_ready (rs := [23]) (by kernel_rfl) (by simp) ?_
      refine AllReadyH.cons (o := { dst := none, op := Op.store 26 (Operand.tmp 2) (Operand.tmp 19), type := 0, pos := "ref.go:84", after := #[{ on := 0, ground := Ground.data }, { on := 17, ground := Ground.chain }, { on := 0, ground := Ground.phase }, { on := 1, ground := Ground.textOnly Departure.lateStores }, { on := 2, ground := Ground.textOnly Departure.lateStores }, { on := 3, ground := Ground.textOnly Departure.lateStores }, { on := 4, ground := Ground.textOnly Departure.lateStores }, { on := 5, ground := Ground.textOnly Departure.lateStores }, { on := 6, ground := Ground.textOnly Departure.lateStoresUnsure }, { on := 7, ground := Ground.textOnly Departure.lateStores }, { on := 8, ground := Ground.textOnly Departure.lateStores }, { on := 9, ground := Ground.textOnly Departure.lateStores }, { on := 10, ground := Ground.textOnly Departure.lateStores }, { on := 11, ground := Ground.textOnly Departure.lateStores }, { on := 12, ground := Ground.textOnly Departure.lateStores }, { on := 13, ground := Ground.textOnly Departure.lateStores }, { on := 14, ground := Ground.textOnly Departure.lateStores }, { on := 15, ground := Ground.textOnly Departure.lateStores }, { on := 16, ground := Ground.textOnly Departure.lateStores }, { on := 17, ground := Ground.textOnly Departure.lateStores }, { on := 18, ground := Ground.textOnly Departure.lateStores }, { on := 19, ground := Ground.textOnly Departure.lateStores }, { on := 20, ground := Ground.textOnly Departure.lateStores }, { on := 21, ground := Ground.textOnly Departure.lateStores }, { on := 22, ground := Ground.textOnly Departure.lateStores }], guard := none }) rfl (fun K hK => ?_) AllReadyH.nil
      go_simp
      replace PD := Lib.hid (And.intro (PD.out.1.set (⟨2, 0, wide, false, false, sz⟩ : Wh)) (PD.out.2.whs (k := w.heap.size + 1) (⟨2, 0, wide, false, false, sz⟩ : Wh) (by omega)))
      clear f0 f1 f2 f3 f4 f5 z0 z1 z2 z3 z4 z5
      refine hK.out _ _ (H.out _ _ PD.out) (fun hHeld => ?_)
      clear hK K
      try simp only [Act.put, List.setIfInBounds_toArray, List.set_cons_zero, List.set_cons_succ]
      refine wpAnyH_take (i := 24) (oi := { dst := some 3, op := Op.assign (Operand.tmp 41), type := 4, pos := "ref.go:84", after := #[{ on := 22, ground := Ground.data }, { on := 23, ground := Ground.chain }, { on := 0, ground := Ground.phase }, { on := 1, ground := Ground.phase }, { on := 2, ground := Ground.phase }, { on := 3, ground := Ground.phase }, { on := 4, ground := Ground.phase }, { on := 5, ground := Ground.phase }, { on := 6, ground := Ground.phase }, { on := 7, ground := Ground.phase }, { on := 8, ground := Ground.phase }, { on := 9, ground := Ground.phase }, { on := 10, ground := Ground.phase }, { on := 11, ground := Ground.phase }, { on := 12, ground := Ground.phase }, { on := 13, ground := Ground.phase }, { on := 14, ground := Ground.phase }, { on := 15, ground := Ground.phase }, { on := 16, ground := Ground.phase }, { on := 17, ground := Ground.phase }, { on := 18, ground := Ground.phase }, { on := 19, ground := Ground.phase }, { on := 20, ground := Ground.phase }, { on := 21, ground := Ground.phase }, { on := 22, ground := Ground.phase }, { on := 23, ground := Ground.phase }], guard := none }) (v := ?_) rfl (by kernel_rfl) (by kernel_rfl) (by kernel_rfl) (fun _ _ _ h => h) (Or.inl ⟨by rfl, ?_⟩) (by assumption) ?_
      rotate_left 1
      · intro w hSw; (try dsimp only at hSw); go_simp; try (with_reducible rfl)
      try simp only [Act.put, List.setIfInBounds_toArray, List.set_cons_zero, List.set_cons_succ]
      refine wpAnyH_done (by kernel_rfl) ?_ _
      have BB := Lib.hid PD.out.1.1
      obtain ⟨z0, z1, z2, z3, z4, z5⟩ := PD.out.1.2.2.cells
      clear H PD
      go_wp2_with fail
      exact bodyPost_ret (v := .tuple #[whV (⟨2, 0, wide, false, false, sz⟩ : Wh), .bool true]) (by simp [results, Try.results59, go_sem, z0, z1, z2, z3, z4, z5]) rfl ⟨rfl, BB.out⟩

set_option maxRecDepth 100000 in
set_option maxHeartbeats 8000000 in
theorem r7_swaps_64 (x : Ins) (h : x.op = 212 ∨ x.op = 220 ∨ x.op = 215) (wide : Bool) (hw : (x.op != 212) = wide) (l1 : -2147483648 ≤ x.imm) (l2 : x.imm ≤ 2147483647) (hd : (x.dst != 10) = true) (h1 : (x.imm == 16) = false) (h2 : (x.imm == 32) = false) (h3 : (x.imm == 64) = true) (w : World)
    (C : Hid (∀ w, Calls Try.prog 61 #[iV x, .bool false, .bool false, .bool true] w (Gives (.bool true) w))) :
    Calls Try.prog 59 #[iV x] w (Gives (.tuple #[whV (⟨2, 0, wide, false, false, x.imm.tdiv 8⟩ : Wh), .bool true]) w) := by
  have P := Lib.hid (IDuo.new x Wh.zero w)
  have h' := Lib.hid h
  have hw' := Lib.hid hw
  clear h hw
  go_enter Try.func59, Try.ntmps59
  go_upto_if 7 with fail
  go_cut [7] (fun s wx => s = .bool true ∧ Hid (IDuo x Wh.zero w wx))
  case first =>
    rcases h'.out with e | e | e
    · skip
      have k0 : (x.op == 212) = true := by rw [e]; rfl
      clear e
      go_wp2_with fail
      go_meet
      exact ⟨by rw [k0], P⟩
    · skip
      have k0 : (x.op == 212) = false := by rw [e]; rfl
      have k1 : (x.op == 220) = true := by rw [e]; rfl
      clear e
      go_wp2_with fail
      go_meet
      exact ⟨rfl, P⟩
    · skip
      have k0 : (x.op == 212) = false := by rw [e]; rfl
      have k1 : (x.op == 220) = false := by rw [e]; rfl
      have k2 : (x.op == 215) = true := by rw [e]; rfl
      clear e
      go_wp2_with fail
      go_meet
      exact ⟨rfl, P⟩
  case rest =>
    obtain ⟨rfl, Q⟩ := hcut
    clear P
    obtain ⟨p0, p1, p2, p3, p4⟩ := Q.out.2.1.cells
    go_upto_region 5 with fail
    go_cut [4] (fun s wx => ∃ gb, s = .pointer (some ⟨gb, 0, none⟩) ∧ w.heap.size + 1 < gb ∧ Hid (IDuo x Wh.zero w wx ∧ whB gb (⟨2, 0, wide, false, false, x.imm.tdiv 8⟩ : Wh) wx))
    case first =>
      have kq := Q.out.2.2.lt
      go_wp2_with fail
      go_meet
      rw [← hw'.out]
      exact ⟨_, rfl, kq, Lib.hid ⟨Q.out.after (below_alloc (Below.refl _ _) _), whB.new _ _ rfl⟩⟩
    case rest =>
      clear Q p0 p1 p2 p3 p4
      obtain ⟨gb, rfl, kq, Q⟩ := hcut
      generalize x.imm.tdiv 8 = sz at *
      have PD := Lib.hid (And.intro (Q.out.1.after (Below.drew (Below.refl _ _))) (Q.out.2.after (Below.drew (Below.refl _ _))))
      have H : Hid (∀ v wx, IDuo x v w wx ∧ whB gb (⟨2, 0, wide, false, false, sz⟩ : Wh) wx → (wx.cell? ⟨w.heap.size, 0, none⟩ = some (.int .u8 x.op) ∧ wx.cell? ⟨w.heap.size, 1, none⟩ = some (.int .u8 x.dst) ∧ wx.cell? ⟨w.heap.size, 2, none⟩ = some (.int .u8 x.src) ∧ wx.cell? ⟨w.heap.size, 3, none⟩ = some (.int .i16 x.off) ∧ wx.cell? ⟨w.heap.size, 4, none⟩ = some (.int .i32 x.imm)) ∧ (wx.cell? ⟨gb, 0, none⟩ = some (.int .u8 (⟨2, 0, wide, false, false, sz⟩ : Wh).kind) ∧ wx.cell? ⟨gb, 1, none⟩ = some (.int .u8 (⟨2, 0, wide, false, false, sz⟩ : Wh).op) ∧ wx.cell? ⟨gb, 2, none⟩ = some (.bool (⟨2, 0, wide, false, false, sz⟩ : Wh).wide) ∧ wx.cell? ⟨gb, 3, none⟩ = some (.bool (⟨2, 0, wide, false, false, sz⟩ : Wh).reg) ∧ wx.cell? ⟨gb, 4, none⟩ = some (.bool (⟨2, 0, wide, false, false, sz⟩ : Wh).signed) ∧ wx.cell? ⟨gb, 5, none⟩ = some (.int .i64 (⟨2, 0, wide, false, false, sz⟩ : Wh).size))) := Lib.hid fun v wx hx => ⟨hx.1.2.1.cells, hx.2.cells⟩
      go_upto_region 6 with fail
      refine wp_region_held_drew (S := (fun w' => (w'.cell? ⟨w.heap.size, 0, none⟩ = some (.int .u8 x.op) ∧ w'.cell? ⟨w.heap.size, 1, none⟩ = some (.int .u8 x.dst) ∧ w'.cell? ⟨w.heap.size, 2, none⟩ = some (.int .u8 x.src) ∧ w'.cell? ⟨w.heap.size, 3, none⟩ = some (.int .i16 x.off) ∧ w'.cell? ⟨w.heap.size, 4, none⟩ = some (.int .i32 x.imm)) ∧ (w'.cell? ⟨gb, 0, none⟩ = some (.int .u8 (⟨2, 0, wide, false, false, sz⟩ : Wh).kind) ∧ w'.cell? ⟨gb, 1, none⟩ = some (.int .u8 (⟨2, 0, wide, false, false, sz⟩ : Wh).op) ∧ w'.cell? ⟨gb, 2, none⟩ = some (.bool (⟨2, 0, wide, false, false, sz⟩ : Wh).wide) ∧ w'.cell? ⟨gb, 3, none⟩ = some (.bool (⟨2, 0, wide, false, false, sz⟩ : Wh).reg) ∧ w'.cell? ⟨gb, 4, none⟩ = some (.bool (⟨2, 0, wide, false, false, sz⟩ : Wh).signed) ∧ w'.cell? ⟨gb, 5, none⟩ = some (.int .i64 (⟨2, 0, wide, false, false, sz⟩ : Wh).size)))) (by kernel_rfl) (H.out _ _ PD.out) (fun hHeld => ?_)
      refine wpAnyH_take (i := 0) (oi := { dst := some 19, op := Op.load 26 (Operand.tmp 4), type := 26, pos := "ref.go:84", after := #[], guard := none }) (v := ?_) rfl (by kernel_rfl) (by kernel_rfl) (by kernel_rfl) (fun _ _ _ h => h) (Or.inl ⟨by rfl, ?_⟩) (by assumption) ?_
      rotate_left 1
      · intro w hSw; (try dsimp only at hSw); go_simp; try (with_reducible rfl)
      try simp only [Act.put, List.setIfInBounds_toArray, List.set_cons_zero, List.set_cons_succ]
      refine wpAnyH_take (i := 1) (oi := { dst := some 20, op := Op.fieldAddr 24 (Operand.tmp 1) 1, type := 0, pos := "ref.go:84", after := #[], guard := none }) (v := ?_) rfl (by kernel_rfl) (by kernel_rfl) (by kernel_rfl) (fun _ _ _ h => h) (Or.inl ⟨by rfl, ?_⟩) (by assumption) ?_
      rotate_left 1
      · intro w hSw; (try dsimp only at hSw); go_simp; try (with_reducible rfl)
      try simp only [Act.put, List.setIfInBounds_toArray, List.set_cons_zero, List.set_cons_succ]
      refine wpAnyH_take (i := 2) (oi := { dst := some 21, op := Op.load 5 (Operand.tmp 20), type := 5, pos := "ref.go:84", after := #[{ on := 1, ground := Ground.data }], guard := none }) (v := ?_) rfl (by kernel_rfl) (by kernel_rfl) (by kernel_rfl) (fun _ _ _ h => h) (Or.inl ⟨by rfl, ?_⟩) (by assumption) ?_
      rotate_left 1
      · intro w hSw; (try dsimp only at hSw); go_simp; try (with_reducible rfl)
      try simp only [Act.put, List.setIfInBounds_toArray, List.set_cons_zero, List.set_cons_succ]
      refine wpAnyH_take (i := 3) (oi := { dst := some 22, op := Op.binOp BinOp.neq 5 (Operand.tmp 21) (Operand.const (Value.int IntKind.u8 10)) 5, type := 4, pos := "ref.go:84", after := #[{ on := 2, ground := Ground.data }], guard := none }) (v := ?_) rfl (by kernel_rfl) (by kernel_rfl) (by kernel_rfl) (fun _ _ _ h => h) (Or.inl ⟨by rfl, ?_⟩) (by assumption) ?_
      rotate_left 1
      · intro w hSw; (try dsimp only at hSw); go_simp; try (with_reducible rfl)
      try simp only [Act.put, List.setIfInBounds_toArray, List.set_cons_zero, List.set_cons_succ]
      refine wpAnyH_take (i := 4) (oi := { dst := some 23, op := Op.move (Operand.tmp 22), type := 4, pos := "ref.go:84", after := #[{ on := 3, ground := Ground.data }], guard := none }) (v := ?_) rfl (by kernel_rfl) (by kernel_rfl) (by kernel_rfl) (fun _ _ _ h => h) (Or.inl ⟨by rfl, ?_⟩) (by assumption) ?_
      rotate_left 1
      · intro w hSw; (try dsimp only at hSw); go_simp; try (with_reducible rfl)
      try simp only [Act.put, List.setIfInBounds_toArray, List.set_cons_zero, List.set_cons_succ]
      refine wpAnyH_take (i := 5) (oi := { dst := some 24, op := Op.load 24 (Operand.tmp 1), type := 24, pos := "ref.go:84", after := #[{ on := 4, ground := Ground.guard }], guard := some (4, true) }) (v := ?_) rfl (by kernel_rfl) (by kernel_rfl) (by kernel_rfl) (fun _ _ _ h => h) (Or.inl ⟨by rfl, ?_⟩) (by assumption) ?_
      rotate_left 1
      · intro w hSw; (try dsimp only at hSw); go_simp; try (with_reducible rfl)
      try simp only [Act.put, List.setIfInBounds_toArray, List.set_cons_zero, List.set_cons_succ]
      refine wpAnyH_ready (rs := [6]) (by kernel_rfl) (by simp) ?_
      refine AllReadyH.cons (o := { dst := some 25, op := Op.call { callee := Callee.value (Operand.func 61), args := #[Operand.tmp 24, Operand.const (Value.bool false), Operand.const (Value.bool false), Operand.const (Value.bool true)], argTypes := #[24, 4, 4, 4] }, type := 4, pos := "ref.go:84", after := #[{ on := 5, ground := Ground.data }, { on := 4, ground := Ground.chain }, { on := 4, ground := Ground.guard }], guard := some (4, true) }) rfl (fun K hK => ?_) AllReadyH.nil
      go_simp
      refine (C.out _).mono ?_; rintro e w5 ⟨rfl, hb⟩
      replace PD := Lib.hid (And.intro (PD.out.1.after hb) (PD.out.2.after hb))
      clear hb
      go_wp2_with fail
      refine hK.out _ _ (H.out _ _ PD.out) (fun hHeld => ?_)
      clear hK K
      try simp only [Act.put, List.setIfInBounds_toArray, List.set_cons_zero, List.set_cons_succ]
      refine wpAnyH_take (i := 7) (oi := { dst := some 26, op := Op.pick (Operand.tmp 23) (Operand.tmp 25) (Operand.const (Value.bool false)), type := 4, pos := "ref.go:84", after := #[{ on := 4, ground := Ground.data }, { on := 6, ground := Ground.data }], guard := none }) (v := ?_) rfl (by kernel_rfl) (by kernel_rfl) (by kernel_rfl) (fun _ _ _ h => h) (Or.inl ⟨by rfl, ?_⟩) (by assumption) ?_
      rotate_left 1
      · intro w hSw; (try dsimp only at hSw); go_simp; try (with_reducible rfl)
      try simp only [Act.put, List.setIfInBounds_toArray, List.set_cons_zero, List.set_cons_succ]
      refine wpAnyH_take (i := 8) (oi := { dst := some 27, op := Op.move (Operand.tmp 26), type := 4, pos := "ref.go:84", after := #[{ on := 7, ground := Ground.data }, { on := 6, ground := Ground.chain }], guard := none }) (v := ?_) rfl (by kernel_rfl) (by kernel_rfl) (by kernel_rfl) (fun _ _ _ h => h) (Or.inl ⟨by rfl, ?_⟩) (by assumption) ?_
      rotate_left 1
      · intro w hSw; (try dsimp only at hSw); go_simp; try (with_reducible rfl)
      try simp only [Act.put, List.setIfInBounds_toArray, List.set_cons_zero, List.set_cons_succ]
      refine wpAnyH_take (i := 9) (oi := { dst := some 28, op := Op.fieldAddr 24 (Operand.tmp 1) 4, type := 0, pos := "ref.go:84", after := #[{ on := 8, ground := Ground.guard }], guard := some (8, true) }) (v := ?_) rfl (by kernel_rfl) (by kernel_rfl) (by kernel_rfl) (fun _ _ _ h => h) (Or.inl ⟨by rfl, ?_⟩) (by assumption) ?_
      rotate_left 1
      · intro w hSw; (try dsimp only at hSw); go_simp; try (with_reducible rfl)
      try simp only [Act.put, List.setIfInBounds_toArray, List.set_cons_zero, List.set_cons_succ]
      refine wpAnyH_take (i := 10) (oi := { dst := some 29, op := Op.load 21 (Operand.tmp 28), type := 21, pos := "ref.go:84", after := #[{ on := 9, ground := Ground.data }, { on := 8, ground := Ground.guard }], guard := some (8, true) }) (v := ?_) rfl (by kernel_rfl) (by kernel_rfl) (by kernel_rfl) (fun _ _ _ h => h) (Or.inl ⟨by rfl, ?_⟩) (by assumption) ?_
      rotate_left 1
      · intro w hSw; (try dsimp only at hSw); go_simp; try (with_reducible rfl)
      try simp only [Act.put, List.setIfInBounds_toArray, List.set_cons_zero, List.set_cons_succ]
      refine wpAnyH_take (i := 11) (oi := { dst := some 30, op := Op.binOp BinOp.eql 21 (Operand.tmp 29) (Operand.const (Value.int IntKind.i32 16)) 21, type := 4, pos := "ref.go:84", after := #[{ on := 10, ground := Ground.data }, { on := 8, ground := Ground.guard }], guard := some (8, true) }) (v := ?_) rfl (by kernel_rfl) (by kernel_rfl) (by kernel_rfl) (fun _ _ _ h => h) (Or.inl ⟨by rfl, ?_⟩) (by assumption) ?_
      rotate_left 1
      · intro w hSw; (try dsimp only at hSw); go_simp; try (with_reducible rfl)
      try simp only [Act.put, List.setIfInBounds_toArray, List.set_cons_zero, List.set_cons_succ]
      refine wpAnyH_take (i := 12) (oi := { dst := some 31, op := Op.move (Operand.tmp 30), type := 4, pos := "ref.go:84", after := #[{ on := 11, ground := Ground.data }, { on := 8, ground := Ground.chain }, { on := 8, ground := Ground.guard }], guard := some (8, true) }) (v := ?_) rfl (by kernel_rfl) (by kernel_rfl) (by kernel_rfl) (fun _ _ _ h => h) (Or.inl ⟨by rfl, ?_⟩) (by assumption) ?_
      rotate_left 1
      · intro w hSw; (try dsimp only at hSw); go_simp; try (with_reducible rfl)
      try simp only [Act.put, List.setIfInBounds_toArray, List.set_cons_zero, List.set_cons_succ]
      refine wpAnyH_take (i := 13) (oi := { dst := some 32, op := Op.fieldAddr 24 (Operand.tmp 1) 4, type := 0, pos := "ref.go:84", after := #[{ on := 12, ground := Ground.guard }], guard := some (12, false) }) (v := ?_) rfl (by kernel_rfl) (by kernel_rfl) (by kernel_rfl) (fun _ _ _ h => h) (Or.inl ⟨by rfl, ?_⟩) (by assumption) ?_
      rotate_left 1
      · intro w hSw; (try dsimp only at hSw); go_simp; try (with_reducible rfl)
      try simp only [Act.put, List.setIfInBounds_toArray, List.set_cons_zero, List.set_cons_succ]
      refine wpAnyH_take (i := 14) (oi := { dst := some 33, op := Op.load 21 (Operand.tmp 32), type := 21, pos := "ref.go:84", after := #[{ on := 13, ground := Ground.data }, { on := 12, ground := Ground.guard }], guard := some (12, false) }) (v := ?_) rfl (by kernel_rfl) (by kernel_rfl) (by kernel_rfl) (fun _ _ _ h => h) (Or.inl ⟨by rfl, ?_⟩) (by assumption) ?_
      rotate_left 1
      · intro w hSw; (try dsimp only at hSw); go_simp; try (with_reducible rfl)
      try simp only [Act.put, List.setIfInBounds_toArray, List.set_cons_zero, List.set_cons_succ]
      refine wpAnyH_take (i := 15) (oi := { dst := some 34, op := Op.binOp BinOp.eql 21 (Operand.tmp 33) (Operand.const (Value.int IntKind.i32 32)) 21, type := 4, pos := "ref.go:84", after := #[{ on := 14, ground := Ground.data }, { on := 12, ground := Ground.guard }], guard := some (12, false) }) (v := ?_) rfl (by kernel_rfl) (by kernel_rfl) (by kernel_rfl) (fun _ _ _ h => h) (Or.inl ⟨by rfl, ?_⟩) (by assumption) ?_
      rotate_left 1
      · intro w hSw; (try dsimp only at hSw); go_simp; try (with_reducible rfl)
      try simp only [Act.put, List.setIfInBounds_toArray, List.set_cons_zero, List.set_cons_succ]
      refine wpAnyH_take (i := 16) (oi := { dst := some 35, op := Op.pick (Operand.tmp 31) (Operand.const (Value.bool true)) (Operand.tmp 34), type := 4, pos := "ref.go:84", after := #[{ on := 12, ground := Ground.data }, { on := 15, ground := Ground.data }, { on := 8, ground := Ground.guard }], guard := some (8, true) }) (v := ?_) rfl (by kernel_rfl) (by kernel_rfl) (by kernel_rfl) (fun _ _ _ h => h) (Or.inl ⟨by rfl, ?_⟩) (by assumption) ?_
      rotate_left 1
      · intro w hSw; (try dsimp only at hSw); go_simp; try (with_reducible rfl)
      try simp only [Act.put, List.setIfInBounds_toArray, List.set_cons_zero, List.set_cons_succ]
      refine wpAnyH_take (i := 17) (oi := { dst := some 36, op := Op.move (Operand.tmp 35), type := 4, pos := "ref.go:84", after := #[{ on := 16, ground := Ground.data }, { on := 12, ground := Ground.chain }, { on := 8, ground := Ground.guard }], guard := some (8, true) }) (v := ?_) rfl (by kernel_rfl) (by kernel_rfl) (by kernel_rfl) (fun _ _ _ h => h) (Or.inl ⟨by rfl, ?_⟩) (by assumption) ?_
      rotate_left 1
      · intro w hSw; (try dsimp only at hSw); go_simp; try (with_reducible rfl)
      try simp only [Act.put, List.setIfInBounds_toArray, List.set_cons_zero, List.set_cons_succ]
      refine wpAnyH_take (i := 18) (oi := { dst := some 37, op := Op.fieldAddr 24 (Operand.tmp 1) 4, type := 0, pos := "ref.go:84", after := #[{ on := 17, ground := Ground.guard }, { on := 23, ground := Ground.gcOnly Departure.lateStores }], guard := some (17, false) }) (v := ?_) rfl (by kernel_rfl) (by kernel_rfl) (by kernel_rfl) (fun _ _ _ h => h) (Or.inl ⟨by rfl, ?_⟩) (by assumption) ?_
      rotate_left 1
      · intro w hSw; (try dsimp only at hSw); go_simp; try (with_reducible rfl)
      try simp only [Act.put, List.setIfInBounds_toArray, List.set_cons_zero, List.set_cons_succ]
      refine wpAnyH_take (i := 19) (oi := { dst := some 38, op := Op.load 21 (Operand.tmp 37), type := 21, pos := "ref.go:84", after := #[{ on := 18, ground := Ground.data }, { on := 17, ground := Ground.guard }, { on := 23, ground := Ground.gcOnly Departure.lateStores }], guard := some (17, false) }) (v := ?_) rfl (by kernel_rfl) (by kernel_rfl) (by kernel_rfl) (fun _ _ _ h => h) (Or.inl ⟨by rfl, ?_⟩) (by assumption) ?_
      rotate_left 1
      · intro w hSw; (try dsimp only at hSw); go_simp; try (with_reducible rfl)
      try simp only [Act.put, List.setIfInBounds_toArray, List.set_cons_zero, List.set_cons_succ]
      refine wpAnyH_take (i := 20) (oi := { dst := some 39, op := Op.binOp BinOp.eql 21 (Operand.tmp 38) (Operand.const (Value.int IntKind.i32 64)) 21, type := 4, pos := "ref.go:84", after := #[{ on := 19, ground := Ground.data }, { on := 17, ground := Ground.guard }, { on := 23, ground := Ground.gcOnly Departure.lateStores }], guard := some (17, false) }) (v := ?_) rfl (by kernel_rfl) (by kernel_rfl) (by kernel_rfl) (fun _ _ _ h => h) (Or.inl ⟨by rfl, ?_⟩) (by assumption) ?_
      rotate_left 1
      · intro w hSw; (try dsimp only at hSw); go_simp; try (with_reducible rfl)
      try simp only [Act.put, List.setIfInBounds_toArray, List.set_cons_zero, List.set_cons_succ]
      refine wpAnyH_take (i := 21) (oi := { dst := some 40, op := Op.pick (Operand.tmp 36) (Operand.const (Value.bool true)) (Operand.tmp 39), type := 4, pos := "ref.go:84", after := #[{ on := 17, ground := Ground.data }, { on := 20, ground := Ground.data }, { on := 8, ground := Ground.guard }, { on := 23, ground := Ground.gcOnly Departure.lateStores }], guard := some (8, true) }) (v := ?_) rfl (by kernel_rfl) (by kernel_rfl) (by kernel_rfl) (fun _ _ _ h => h) (Or.inl ⟨by rfl, ?_⟩) (by assumption) ?_
      rotate_left 1
      · intro w hSw; (try dsimp only at hSw); go_simp; try (with_reducible rfl)
      try simp only [Act.put, List.setIfInBounds_toArray, List.set_cons_zero, List.set_cons_succ]
      refine wpAnyH_take (i := 22) (oi := { dst := some 41, op := Op.pick (Operand.tmp 27) (Operand.tmp 40) (Operand.const (Value.bool false)), type := 4, pos := "ref.go:84", after := #[{ on := 8, ground := Ground.data }, { on := 21, ground := Ground.data }, { on := 23, ground := Ground.gcOnly Departure.lateStores }], guard := none }) (v := ?_) rfl (by kernel_rfl) (by kernel_rfl) (by kernel_rfl) (fun _ _ _ h => h) (Or.inl ⟨by rfl, ?_⟩) (by assumption) ?_
      rotate_left 1
      · intro w hSw; (try dsimp only at hSw); go_simp; try (with_reducible rfl)
      try simp only [Act.put, List.setIfInBounds_toArray, List.set_cons_zero, List.set_cons_succ]
      obtain ⟨f0, f1, f2, f3, f4, f5⟩ := PD.out.1.2.2.free
      obtain ⟨z0, z1, z2, z3, z4, z5⟩ := PD.out.1.2.2.cells
      refine wpAnyH_ready (rs := [23]) (by kernel_rfl) (by simp) ?_
      refine AllReadyH.cons (o := { dst := none, op := Op.store 26 (Operand.tmp 2) (Operand.tmp 19), type := 0, pos := "ref.go:84", after := #[{ on := 0, ground := Ground.data }, { on := 17, ground := Ground.chain }, { on := 0, ground := Ground.phase }, { on := 1, ground := Ground.textOnly Departure.lateStores }, { on := 2, ground := Ground.textOnly Departure.lateStores }, { on := 3, ground := Ground.textOnly Departure.lateStores }, { on := 4, ground := Ground.textOnly Departure.lateStores }, { on := 5, ground := Ground.textOnly Departure.lateStores }, { on := 6, ground := Ground.textOnly Departure.lateStoresUnsure }, { on := 7, ground := Ground.textOnly Departure.lateStores }, { on := 8, ground := Ground.textOnly Departure.lateStores }, { on := 9, ground := Ground.textOnly Departure.lateStores }, { on := 10, ground := Ground.textOnly Departure.lateStores }, { on := 11, ground := Ground.textOnly Departure.lateStores }, { on := 12, ground := Ground.textOnly Departure.lateStores }, { on := 13, ground := Ground.textOnly Departure.lateStores }, { on := 14, ground := Ground.textOnly Departure.lateStores }, { on := 15, ground := Ground.textOnly Departure.lateStores }, { on := 16, ground := Ground.textOnly Departure.lateStores }, { on := 17, ground := Ground.textOnly Departure.lateStores }, { on := 18, ground := Ground.textOnly Departure.lateStores }, { on := 19, ground := Ground.textOnly Departure.lateStores }, { on := 20, ground := Ground.textOnly Departure.lateStores }, { on := 21, ground := Ground.textOnly Departure.lateStores }, { on := 22, ground := Ground.textOnly Departure.lateStores }], guard := none }) rfl (fun K hK => ?_) AllReadyH.nil
      go_simp
      replace PD := Lib.hid (And.intro (PD.out.1.set (⟨2, 0, wide, false, false, sz⟩ : Wh)) (PD.out.2.whs (k := w.heap.size + 1) (⟨2, 0, wide, false, false, sz⟩ : Wh) (by omega)))
      clear f0 f1 f2 f3 f4 f5 z0 z1 z2 z3 z4 z5
      refine hK.out _ _ (H.out _ _ PD.out) (fun hHeld => ?_)
      clear hK K
      try simp only [Act.put, List.setIfInBounds_toArray, List.set_cons_zero, List.set_cons_succ]
      refine wpAnyH_take (i := 24) (oi := { dst := some 3, op := Op.assign (Operand.tmp 41), type := 4, pos := "ref.go:84", after := #[{ on := 22, ground := Ground.data }, { on := 23, ground := Ground.chain }, { on := 0, ground := Ground.phase }, { on := 1, ground := Ground.phase }, { on := 2, ground := Ground.phase }, { on := 3, ground := Ground.phase }, { on := 4, ground := Ground.phase }, { on := 5, ground := Ground.phase }, { on := 6, ground := Ground.phase }, { on := 7, ground := Ground.phase }, { on := 8, ground := Ground.phase }, { on := 9, ground := Ground.phase }, { on := 10, ground := Ground.phase }, { on := 11, ground := Ground.phase }, { on := 12, ground := Ground.phase }, { on := 13, ground := Ground.phase }, { on := 14, ground := Ground.phase }, { on := 15, ground := Ground.phase }, { on := 16, ground := Ground.phase }, { on := 17, ground := Ground.phase }, { on := 18, ground := Ground.phase }, { on := 19, ground := Ground.phase }, { on := 20, ground := Ground.phase }, { on := 21, ground := Ground.phase }, { on := 22, ground := Ground.phase }, { on := 23, ground := Ground.phase }], guard := none }) (v := ?_) rfl (by kernel_rfl) (by kernel_rfl) (by kernel_rfl) (fun _ _ _ h => h) (Or.inl ⟨by rfl, ?_⟩) (by assumption) ?_
      rotate_left 1
      · intro w hSw; (try dsimp only at hSw); go_simp; try (with_reducible rfl)
      try simp only [Act.put, List.setIfInBounds_toArray, List.set_cons_zero, List.set_cons_succ]
      refine wpAnyH_done (by kernel_rfl) ?_ _
      have BB := Lib.hid PD.out.1.1
      obtain ⟨z0, z1, z2, z3, z4, z5⟩ := PD.out.1.2.2.cells
      clear H PD
      go_wp2_with fail
      exact bodyPost_ret (v := .tuple #[whV (⟨2, 0, wide, false, false, sz⟩ : Wh), .bool true]) (by simp [results, Try.results59, go_sem, z0, z1, z2, z3, z4, z5]) rfl ⟨rfl, BB.out⟩

set_option maxRecDepth 100000 in
set_option maxHeartbeats 8000000 in
theorem r7_swaps_no (x : Ins) (h : x.op = 212 ∨ x.op = 220 ∨ x.op = 215) (wide : Bool) (hw : (x.op != 212) = wide) (l1 : -2147483648 ≤ x.imm) (l2 : x.imm ≤ 2147483647) (hd : (x.dst != 10) = true) (h1 : (x.imm == 16) = false) (h2 : (x.imm == 32) = false) (h3 : (x.imm == 64) = false) (w : World)
    (C : Hid (∀ w, Calls Try.prog 61 #[iV x, .bool false, .bool false, .bool true] w (Gives (.bool true) w))) :
    Calls Try.prog 59 #[iV x] w (Gives (.tuple #[whV (⟨2, 0, wide, false, false, x.imm.tdiv 8⟩ : Wh), .bool false]) w) := by
  have P := Lib.hid (IDuo.new x Wh.zero w)
  have h' := Lib.hid h
  have hw' := Lib.hid hw
  clear h hw
  go_enter Try.func59, Try.ntmps59
  go_upto_if 7 with fail
  go_cut [7] (fun s wx => s = .bool true ∧ Hid (IDuo x Wh.zero w wx))
  case first =>
    rcases h'.out with e | e | e
    · skip
      have k0 : (x.op == 212) = true := by rw [e]; rfl
      clear e
      go_wp2_with fail
      go_meet
      exact ⟨by rw [k0], P⟩
    · skip
      have k0 : (x.op == 212) = false := by rw [e]; rfl
      have k1 : (x.op == 220) = true := by rw [e]; rfl
      clear e
      go_wp2_with fail
      go_meet
      exact ⟨rfl, P⟩
    · skip
      have k0 : (x.op == 212) = false := by rw [e]; rfl
      have k1 : (x.op == 220) = false := by rw [e]; rfl
      have k2 : (x.op == 215) = true := by rw [e]; rfl
      clear e
      go_wp2_with fail
      go_meet
      exact ⟨rfl, P⟩
  case rest =>
    obtain ⟨rfl, Q⟩ := hcut
    clear P
    obtain ⟨p0, p1, p2, p3, p4⟩ := Q.out.2.1.cells
    go_upto_region 5 with fail
    go_cut [4] (fun s wx => ∃ gb, s = .pointer (some ⟨gb, 0, none⟩) ∧ w.heap.size + 1 < gb ∧ Hid (IDuo x Wh.zero w wx ∧ whB gb (⟨2, 0, wide, false, false, x.imm.tdiv 8⟩ : Wh) wx))
    case first =>
      have kq := Q.out.2.2.lt
      go_wp2_with fail
      go_meet
      rw [← hw'.out]
      exact ⟨_, rfl, kq, Lib.hid ⟨Q.out.after (below_alloc (Below.refl _ _) _), whB.new _ _ rfl⟩⟩
    case rest =>
      clear Q p0 p1 p2 p3 p4
      obtain ⟨gb, rfl, kq, Q⟩ := hcut
      generalize x.imm.tdiv 8 = sz at *
      have PD := Lib.hid (And.intro (Q.out.1.after (Below.drew (Below.refl _ _))) (Q.out.2.after (Below.drew (Below.refl _ _))))
      have H : Hid (∀ v wx, IDuo x v w wx ∧ whB gb (⟨2, 0, wide, false, false, sz⟩ : Wh) wx → (wx.cell? ⟨w.heap.size, 0, none⟩ = some (.int .u8 x.op) ∧ wx.cell? ⟨w.heap.size, 1, none⟩ = some (.int .u8 x.dst) ∧ wx.cell? ⟨w.heap.size, 2, none⟩ = some (.int .u8 x.src) ∧ wx.cell? ⟨w.heap.size, 3, none⟩ = some (.int .i16 x.off) ∧ wx.cell? ⟨w.heap.size, 4, none⟩ = some (.int .i32 x.imm)) ∧ (wx.cell? ⟨gb, 0, none⟩ = some (.int .u8 (⟨2, 0, wide, false, false, sz⟩ : Wh).kind) ∧ wx.cell? ⟨gb, 1, none⟩ = some (.int .u8 (⟨2, 0, wide, false, false, sz⟩ : Wh).op) ∧ wx.cell? ⟨gb, 2, none⟩ = some (.bool (⟨2, 0, wide, false, false, sz⟩ : Wh).wide) ∧ wx.cell? ⟨gb, 3, none⟩ = some (.bool (⟨2, 0, wide, false, false, sz⟩ : Wh).reg) ∧ wx.cell? ⟨gb, 4, none⟩ = some (.bool (⟨2, 0, wide, false, false, sz⟩ : Wh).signed) ∧ wx.cell? ⟨gb, 5, none⟩ = some (.int .i64 (⟨2, 0, wide, false, false, sz⟩ : Wh).size))) := Lib.hid fun v wx hx => ⟨hx.1.2.1.cells, hx.2.cells⟩
      go_upto_region 6 with fail
      refine wp_region_held_drew (S := (fun w' => (w'.cell? ⟨w.heap.size, 0, none⟩ = some (.int .u8 x.op) ∧ w'.cell? ⟨w.heap.size, 1, none⟩ = some (.int .u8 x.dst) ∧ w'.cell? ⟨w.heap.size, 2, none⟩ = some (.int .u8 x.src) ∧ w'.cell? ⟨w.heap.size, 3, none⟩ = some (.int .i16 x.off) ∧ w'.cell? ⟨w.heap.size, 4, none⟩ = some (.int .i32 x.imm)) ∧ (w'.cell? ⟨gb, 0, none⟩ = some (.int .u8 (⟨2, 0, wide, false, false, sz⟩ : Wh).kind) ∧ w'.cell? ⟨gb, 1, none⟩ = some (.int .u8 (⟨2, 0, wide, false, false, sz⟩ : Wh).op) ∧ w'.cell? ⟨gb, 2, none⟩ = some (.bool (⟨2, 0, wide, false, false, sz⟩ : Wh).wide) ∧ w'.cell? ⟨gb, 3, none⟩ = some (.bool (⟨2, 0, wide, false, false, sz⟩ : Wh).reg) ∧ w'.cell? ⟨gb, 4, none⟩ = some (.bool (⟨2, 0, wide, false, false, sz⟩ : Wh).signed) ∧ w'.cell? ⟨gb, 5, none⟩ = some (.int .i64 (⟨2, 0, wide, false, false, sz⟩ : Wh).size)))) (by kernel_rfl) (H.out _ _ PD.out) (fun hHeld => ?_)
      refine wpAnyH_take (i := 0) (oi := { dst := some 19, op := Op.load 26 (Operand.tmp 4), type := 26, pos := "ref.go:84", after := #[], guard := none }) (v := ?_) rfl (by kernel_rfl) (by kernel_rfl) (by kernel_rfl) (fun _ _ _ h => h) (Or.inl ⟨by rfl, ?_⟩) (by assumption) ?_
      rotate_left 1
      · intro w hSw; (try dsimp only at hSw); go_simp; try (with_reducible rfl)
      try simp only [Act.put, List.setIfInBounds_toArray, List.set_cons_zero, List.set_cons_succ]
      refine wpAnyH_take (i := 1) (oi := { dst := some 20, op := Op.fieldAddr 24 (Operand.tmp 1) 1, type := 0, pos := "ref.go:84", after := #[], guard := none }) (v := ?_) rfl (by kernel_rfl) (by kernel_rfl) (by kernel_rfl) (fun _ _ _ h => h) (Or.inl ⟨by rfl, ?_⟩) (by assumption) ?_
      rotate_left 1
      · intro w hSw; (try dsimp only at hSw); go_simp; try (with_reducible rfl)
      try simp only [Act.put, List.setIfInBounds_toArray, List.set_cons_zero, List.set_cons_succ]
      refine wpAnyH_take (i := 2) (oi := { dst := some 21, op := Op.load 5 (Operand.tmp 20), type := 5, pos := "ref.go:84", after := #[{ on := 1, ground := Ground.data }], guard := none }) (v := ?_) rfl (by kernel_rfl) (by kernel_rfl) (by kernel_rfl) (fun _ _ _ h => h) (Or.inl ⟨by rfl, ?_⟩) (by assumption) ?_
      rotate_left 1
      · intro w hSw; (try dsimp only at hSw); go_simp; try (with_reducible rfl)
      try simp only [Act.put, List.setIfInBounds_toArray, List.set_cons_zero, List.set_cons_succ]
      refine wpAnyH_take (i := 3) (oi := { dst := some 22, op := Op.binOp BinOp.neq 5 (Operand.tmp 21) (Operand.const (Value.int IntKind.u8 10)) 5, type := 4, pos := "ref.go:84", after := #[{ on := 2, ground := Ground.data }], guard := none }) (v := ?_) rfl (by kernel_rfl) (by kernel_rfl) (by kernel_rfl) (fun _ _ _ h => h) (Or.inl ⟨by rfl, ?_⟩) (by assumption) ?_
      rotate_left 1
      · intro w hSw; (try dsimp only at hSw); go_simp; try (with_reducible rfl)
      try simp only [Act.put, List.setIfInBounds_toArray, List.set_cons_zero, List.set_cons_succ]
      refine wpAnyH_take (i := 4) (oi := { dst := some 23, op := Op.move (Operand.tmp 22), type := 4, pos := "ref.go:84", after := #[{ on := 3, ground := Ground.data }], guard := none }) (v := ?_) rfl (by kernel_rfl) (by kernel_rfl) (by kernel_rfl) (fun _ _ _ h => h) (Or.inl ⟨by rfl, ?_⟩) (by assumption) ?_
      rotate_left 1
      · intro w hSw; (try dsimp only at hSw); go_simp; try (with_reducible rfl)
      try simp only [Act.put, List.setIfInBounds_toArray, List.set_cons_zero, List.set_cons_succ]
      refine wpAnyH_take (i := 5) (oi := { dst := some 24, op := Op.load 24 (Operand.tmp 1), type := 24, pos := "ref.go:84", after := #[{ on := 4, ground := Ground.guard }], guard := some (4, true) }) (v := ?_) rfl (by kernel_rfl) (by kernel_rfl) (by kernel_rfl) (fun _ _ _ h => h) (Or.inl ⟨by rfl, ?_⟩) (by assumption) ?_
      rotate_left 1
      · intro w hSw; (try dsimp only at hSw); go_simp; try (with_reducible rfl)
      try simp only [Act.put, List.setIfInBounds_toArray, List.set_cons_zero, List.set_cons_succ]
      refine wpAnyH_ready (rs := [6]) (by kernel_rfl) (by simp) ?_
      refine AllReadyH.cons (o := { dst := some 25, op := Op.call { callee := Callee.value (Operand.func 61), args := #[Operand.tmp 24, Operand.const (Value.bool false), Operand.const (Value.bool false), Operand.const (Value.bool true)], argTypes := #[24, 4, 4, 4] }, type := 4, pos := "ref.go:84", after := #[{ on := 5, ground := Ground.data }, { on := 4, ground := Ground.chain }, { on := 4, ground := Ground.guard }], guard := some (4, true) }) rfl (fun K hK => ?_) AllReadyH.nil
      go_simp
      refine (C.out _).mono ?_; rintro e w5 ⟨rfl, hb⟩
      replace PD := Lib.hid (And.intro (PD.out.1.after hb) (PD.out.2.after hb))
      clear hb
      go_wp2_with fail
      refine hK.out _ _ (H.out _ _ PD.out) (fun hHeld => ?_)
      clear hK K
      try simp only [Act.put, List.setIfInBounds_toArray, List.set_cons_zero, List.set_cons_succ]
      refine wpAnyH_take (i := 7) (oi := { dst := some 26, op := Op.pick (Operand.tmp 23) (Operand.tmp 25) (Operand.const (Value.bool false)), type := 4, pos := "ref.go:84", after := #[{ on := 4, ground := Ground.data }, { on := 6, ground := Ground.data }], guard := none }) (v := ?_) rfl (by kernel_rfl) (by kernel_rfl) (by kernel_rfl) (fun _ _ _ h => h) (Or.inl ⟨by rfl, ?_⟩) (by assumption) ?_
      rotate_left 1
      · intro w hSw; (try dsimp only at hSw); go_simp; try (with_reducible rfl)
      try simp only [Act.put, List.setIfInBounds_toArray, List.set_cons_zero, List.set_cons_succ]
      refine wpAnyH_take (i := 8) (oi := { dst := some 27, op := Op.move (Operand.tmp 26), type := 4, pos := "ref.go:84", after := #[{ on := 7, ground := Ground.data }, { on := 6, ground := Ground.chain }], guard := none }) (v := ?_) rfl (by kernel_rfl) (by kernel_rfl) (by kernel_rfl) (fun _ _ _ h => h) (Or.inl ⟨by rfl, ?_⟩) (by assumption) ?_
      rotate_left 1
      · intro w hSw; (try dsimp only at hSw); go_simp; try (with_reducible rfl)
      try simp only [Act.put, List.setIfInBounds_toArray, List.set_cons_zero, List.set_cons_succ]
      refine wpAnyH_take (i := 9) (oi := { dst := some 28, op := Op.fieldAddr 24 (Operand.tmp 1) 4, type := 0, pos := "ref.go:84", after := #[{ on := 8, ground := Ground.guard }], guard := some (8, true) }) (v := ?_) rfl (by kernel_rfl) (by kernel_rfl) (by kernel_rfl) (fun _ _ _ h => h) (Or.inl ⟨by rfl, ?_⟩) (by assumption) ?_
      rotate_left 1
      · intro w hSw; (try dsimp only at hSw); go_simp; try (with_reducible rfl)
      try simp only [Act.put, List.setIfInBounds_toArray, List.set_cons_zero, List.set_cons_succ]
      refine wpAnyH_take (i := 10) (oi := { dst := some 29, op := Op.load 21 (Operand.tmp 28), type := 21, pos := "ref.go:84", after := #[{ on := 9, ground := Ground.data }, { on := 8, ground := Ground.guard }], guard := some (8, true) }) (v := ?_) rfl (by kernel_rfl) (by kernel_rfl) (by kernel_rfl) (fun _ _ _ h => h) (Or.inl ⟨by rfl, ?_⟩) (by assumption) ?_
      rotate_left 1
      · intro w hSw; (try dsimp only at hSw); go_simp; try (with_reducible rfl)
      try simp only [Act.put, List.setIfInBounds_toArray, List.set_cons_zero, List.set_cons_succ]
      refine wpAnyH_take (i := 11) (oi := { dst := some 30, op := Op.binOp BinOp.eql 21 (Operand.tmp 29) (Operand.const (Value.int IntKind.i32 16)) 21, type := 4, pos := "ref.go:84", after := #[{ on := 10, ground := Ground.data }, { on := 8, ground := Ground.guard }], guard := some (8, true) }) (v := ?_) rfl (by kernel_rfl) (by kernel_rfl) (by kernel_rfl) (fun _ _ _ h => h) (Or.inl ⟨by rfl, ?_⟩) (by assumption) ?_
      rotate_left 1
      · intro w hSw; (try dsimp only at hSw); go_simp; try (with_reducible rfl)
      try simp only [Act.put, List.setIfInBounds_toArray, List.set_cons_zero, List.set_cons_succ]
      refine wpAnyH_take (i := 12) (oi := { dst := some 31, op := Op.move (Operand.tmp 30), type := 4, pos := "ref.go:84", after := #[{ on := 11, ground := Ground.data }, { on := 8, ground := Ground.chain }, { on := 8, ground := Ground.guard }], guard := some (8, true) }) (v := ?_) rfl (by kernel_rfl) (by kernel_rfl) (by kernel_rfl) (fun _ _ _ h => h) (Or.inl ⟨by rfl, ?_⟩) (by assumption) ?_
      rotate_left 1
      · intro w hSw; (try dsimp only at hSw); go_simp; try (with_reducible rfl)
      try simp only [Act.put, List.setIfInBounds_toArray, List.set_cons_zero, List.set_cons_succ]
      refine wpAnyH_take (i := 13) (oi := { dst := some 32, op := Op.fieldAddr 24 (Operand.tmp 1) 4, type := 0, pos := "ref.go:84", after := #[{ on := 12, ground := Ground.guard }], guard := some (12, false) }) (v := ?_) rfl (by kernel_rfl) (by kernel_rfl) (by kernel_rfl) (fun _ _ _ h => h) (Or.inl ⟨by rfl, ?_⟩) (by assumption) ?_
      rotate_left 1
      · intro w hSw; (try dsimp only at hSw); go_simp; try (with_reducible rfl)
      try simp only [Act.put, List.setIfInBounds_toArray, List.set_cons_zero, List.set_cons_succ]
      refine wpAnyH_take (i := 14) (oi := { dst := some 33, op := Op.load 21 (Operand.tmp 32), type := 21, pos := "ref.go:84", after := #[{ on := 13, ground := Ground.data }, { on := 12, ground := Ground.guard }], guard := some (12, false) }) (v := ?_) rfl (by kernel_rfl) (by kernel_rfl) (by kernel_rfl) (fun _ _ _ h => h) (Or.inl ⟨by rfl, ?_⟩) (by assumption) ?_
      rotate_left 1
      · intro w hSw; (try dsimp only at hSw); go_simp; try (with_reducible rfl)
      try simp only [Act.put, List.setIfInBounds_toArray, List.set_cons_zero, List.set_cons_succ]
      refine wpAnyH_take (i := 15) (oi := { dst := some 34, op := Op.binOp BinOp.eql 21 (Operand.tmp 33) (Operand.const (Value.int IntKind.i32 32)) 21, type := 4, pos := "ref.go:84", after := #[{ on := 14, ground := Ground.data }, { on := 12, ground := Ground.guard }], guard := some (12, false) }) (v := ?_) rfl (by kernel_rfl) (by kernel_rfl) (by kernel_rfl) (fun _ _ _ h => h) (Or.inl ⟨by rfl, ?_⟩) (by assumption) ?_
      rotate_left 1
      · intro w hSw; (try dsimp only at hSw); go_simp; try (with_reducible rfl)
      try simp only [Act.put, List.setIfInBounds_toArray, List.set_cons_zero, List.set_cons_succ]
      refine wpAnyH_take (i := 16) (oi := { dst := some 35, op := Op.pick (Operand.tmp 31) (Operand.const (Value.bool true)) (Operand.tmp 34), type := 4, pos := "ref.go:84", after := #[{ on := 12, ground := Ground.data }, { on := 15, ground := Ground.data }, { on := 8, ground := Ground.guard }], guard := some (8, true) }) (v := ?_) rfl (by kernel_rfl) (by kernel_rfl) (by kernel_rfl) (fun _ _ _ h => h) (Or.inl ⟨by rfl, ?_⟩) (by assumption) ?_
      rotate_left 1
      · intro w hSw; (try dsimp only at hSw); go_simp; try (with_reducible rfl)
      try simp only [Act.put, List.setIfInBounds_toArray, List.set_cons_zero, List.set_cons_succ]
      refine wpAnyH_take (i := 17) (oi := { dst := some 36, op := Op.move (Operand.tmp 35), type := 4, pos := "ref.go:84", after := #[{ on := 16, ground := Ground.data }, { on := 12, ground := Ground.chain }, { on := 8, ground := Ground.guard }], guard := some (8, true) }) (v := ?_) rfl (by kernel_rfl) (by kernel_rfl) (by kernel_rfl) (fun _ _ _ h => h) (Or.inl ⟨by rfl, ?_⟩) (by assumption) ?_
      rotate_left 1
      · intro w hSw; (try dsimp only at hSw); go_simp; try (with_reducible rfl)
      try simp only [Act.put, List.setIfInBounds_toArray, List.set_cons_zero, List.set_cons_succ]
      refine wpAnyH_take (i := 18) (oi := { dst := some 37, op := Op.fieldAddr 24 (Operand.tmp 1) 4, type := 0, pos := "ref.go:84", after := #[{ on := 17, ground := Ground.guard }, { on := 23, ground := Ground.gcOnly Departure.lateStores }], guard := some (17, false) }) (v := ?_) rfl (by kernel_rfl) (by kernel_rfl) (by kernel_rfl) (fun _ _ _ h => h) (Or.inl ⟨by rfl, ?_⟩) (by assumption) ?_
      rotate_left 1
      · intro w hSw; (try dsimp only at hSw); go_simp; try (with_reducible rfl)
      try simp only [Act.put, List.setIfInBounds_toArray, List.set_cons_zero, List.set_cons_succ]
      refine wpAnyH_take (i := 19) (oi := { dst := some 38, op := Op.load 21 (Operand.tmp 37), type := 21, pos := "ref.go:84", after := #[{ on := 18, ground := Ground.data }, { on := 17, ground := Ground.guard }, { on := 23, ground := Ground.gcOnly Departure.lateStores }], guard := some (17, false) }) (v := ?_) rfl (by kernel_rfl) (by kernel_rfl) (by kernel_rfl) (fun _ _ _ h => h) (Or.inl ⟨by rfl, ?_⟩) (by assumption) ?_
      rotate_left 1
      · intro w hSw; (try dsimp only at hSw); go_simp; try (with_reducible rfl)
      try simp only [Act.put, List.setIfInBounds_toArray, List.set_cons_zero, List.set_cons_succ]
      refine wpAnyH_take (i := 20) (oi := { dst := some 39, op := Op.binOp BinOp.eql 21 (Operand.tmp 38) (Operand.const (Value.int IntKind.i32 64)) 21, type := 4, pos := "ref.go:84", after := #[{ on := 19, ground := Ground.data }, { on := 17, ground := Ground.guard }, { on := 23, ground := Ground.gcOnly Departure.lateStores }], guard := some (17, false) }) (v := ?_) rfl (by kernel_rfl) (by kernel_rfl) (by kernel_rfl) (fun _ _ _ h => h) (Or.inl ⟨by rfl, ?_⟩) (by assumption) ?_
      rotate_left 1
      · intro w hSw; (try dsimp only at hSw); go_simp; try (with_reducible rfl)
      try simp only [Act.put, List.setIfInBounds_toArray, List.set_cons_zero, List.set_cons_succ]
      refine wpAnyH_take (i := 21) (oi := { dst := some 40, op := Op.pick (Operand.tmp 36) (Operand.const (Value.bool true)) (Operand.tmp 39), type := 4, pos := "ref.go:84", after := #[{ on := 17, ground := Ground.data }, { on := 20, ground := Ground.data }, { on := 8, ground := Ground.guard }, { on := 23, ground := Ground.gcOnly Departure.lateStores }], guard := some (8, true) }) (v := ?_) rfl (by kernel_rfl) (by kernel_rfl) (by kernel_rfl) (fun _ _ _ h => h) (Or.inl ⟨by rfl, ?_⟩) (by assumption) ?_
      rotate_left 1
      · intro w hSw; (try dsimp only at hSw); go_simp; try (with_reducible rfl)
      try simp only [Act.put, List.setIfInBounds_toArray, List.set_cons_zero, List.set_cons_succ]
      refine wpAnyH_take (i := 22) (oi := { dst := some 41, op := Op.pick (Operand.tmp 27) (Operand.tmp 40) (Operand.const (Value.bool false)), type := 4, pos := "ref.go:84", after := #[{ on := 8, ground := Ground.data }, { on := 21, ground := Ground.data }, { on := 23, ground := Ground.gcOnly Departure.lateStores }], guard := none }) (v := ?_) rfl (by kernel_rfl) (by kernel_rfl) (by kernel_rfl) (fun _ _ _ h => h) (Or.inl ⟨by rfl, ?_⟩) (by assumption) ?_
      rotate_left 1
      · intro w hSw; (try dsimp only at hSw); go_simp; try (with_reducible rfl)
      try simp only [Act.put, List.setIfInBounds_toArray, List.set_cons_zero, List.set_cons_succ]
      obtain ⟨f0, f1, f2, f3, f4, f5⟩ := PD.out.1.2.2.free
      obtain ⟨z0, z1, z2, z3, z4, z5⟩ := PD.out.1.2.2.cells
      refine wpAnyH_ready (rs := [23]) (by kernel_rfl) (by simp) ?_
      refine AllReadyH.cons (o := { dst := none, op := Op.store 26 (Operand.tmp 2) (Operand.tmp 19), type := 0, pos := "ref.go:84", after := #[{ on := 0, ground := Ground.data }, { on := 17, ground := Ground.chain }, { on := 0, ground := Ground.phase }, { on := 1, ground := Ground.textOnly Departure.lateStores }, { on := 2, ground := Ground.textOnly Departure.lateStores }, { on := 3, ground := Ground.textOnly Departure.lateStores }, { on := 4, ground := Ground.textOnly Departure.lateStores }, { on := 5, ground := Ground.textOnly Departure.lateStores }, { on := 6, ground := Ground.textOnly Departure.lateStoresUnsure }, { on := 7, ground := Ground.textOnly Departure.lateStores }, { on := 8, ground := Ground.textOnly Departure.lateStores }, { on := 9, ground := Ground.textOnly Departure.lateStores }, { on := 10, ground := Ground.textOnly Departure.lateStores }, { on := 11, ground := Ground.textOnly Departure.lateStores }, { on := 12, ground := Ground.textOnly Departure.lateStores }, { on := 13, ground := Ground.textOnly Departure.lateStores }, { on := 14, ground := Ground.textOnly Departure.lateStores }, { on := 15, ground := Ground.textOnly Departure.lateStores }, { on := 16, ground := Ground.textOnly Departure.lateStores }, { on := 17, ground := Ground.textOnly Departure.lateStores }, { on := 18, ground := Ground.textOnly Departure.lateStores }, { on := 19, ground := Ground.textOnly Departure.lateStores }, { on := 20, ground := Ground.textOnly Departure.lateStores }, { on := 21, ground := Ground.textOnly Departure.lateStores }, { on := 22, ground := Ground.textOnly Departure.lateStores }], guard := none }) rfl (fun K hK => ?_) AllReadyH.nil
      go_simp
      replace PD := Lib.hid (And.intro (PD.out.1.set (⟨2, 0, wide, false, false, sz⟩ : Wh)) (PD.out.2.whs (k := w.heap.size + 1) (⟨2, 0, wide, false, false, sz⟩ : Wh) (by omega)))
      clear f0 f1 f2 f3 f4 f5 z0 z1 z2 z3 z4 z5
      refine hK.out _ _ (H.out _ _ PD.out) (fun hHeld => ?_)
      clear hK K
      try simp only [Act.put, List.setIfInBounds_toArray, List.set_cons_zero, List.set_cons_succ]
      refine wpAnyH_take (i := 24) (oi := { dst := some 3, op := Op.assign (Operand.tmp 41), type := 4, pos := "ref.go:84", after := #[{ on := 22, ground := Ground.data }, { on := 23, ground := Ground.chain }, { on := 0, ground := Ground.phase }, { on := 1, ground := Ground.phase }, { on := 2, ground := Ground.phase }, { on := 3, ground := Ground.phase }, { on := 4, ground := Ground.phase }, { on := 5, ground := Ground.phase }, { on := 6, ground := Ground.phase }, { on := 7, ground := Ground.phase }, { on := 8, ground := Ground.phase }, { on := 9, ground := Ground.phase }, { on := 10, ground := Ground.phase }, { on := 11, ground := Ground.phase }, { on := 12, ground := Ground.phase }, { on := 13, ground := Ground.phase }, { on := 14, ground := Ground.phase }, { on := 15, ground := Ground.phase }, { on := 16, ground := Ground.phase }, { on := 17, ground := Ground.phase }, { on := 18, ground := Ground.phase }, { on := 19, ground := Ground.phase }, { on := 20, ground := Ground.phase }, { on := 21, ground := Ground.phase }, { on := 22, ground := Ground.phase }, { on := 23, ground := Ground.phase }], guard := none }) (v := ?_) rfl (by kernel_rfl) (by kernel_rfl) (by kernel_rfl) (fun _ _ _ h => h) (Or.inl ⟨by rfl, ?_⟩) (by assumption) ?_
      rotate_left 1
      · intro w hSw; (try dsimp only at hSw); go_simp; try (with_reducible rfl)
      try simp only [Act.put, List.setIfInBounds_toArray, List.set_cons_zero, List.set_cons_succ]
      refine wpAnyH_done (by kernel_rfl) ?_ _
      have BB := Lib.hid PD.out.1.1
      obtain ⟨z0, z1, z2, z3, z4, z5⟩ := PD.out.1.2.2.cells
      clear H PD
      go_wp2_with fail
      exact bodyPost_ret (v := .tuple #[whV (⟨2, 0, wide, false, false, sz⟩ : Wh), .bool false]) (by simp [results, Try.results59, go_sem, z0, z1, z2, z3, z4, z5]) rfl ⟨rfl, BB.out⟩

set_option maxRecDepth 100000 in
set_option maxHeartbeats 8000000 in
theorem r7_jump5_no (dst src off imm : Int) (hd : (dst == 0) = false) (w : World) (b : Bool) :
    Calls Try.prog 59 #[iV (⟨5, dst, src, off, imm⟩ : Ins)] w (Gives (.tuple #[whV (⟨9, 0, false, false, false, 0⟩ : Wh), .bool false]) w) := by
  have P := Lib.hid (IDuo.new (⟨5, dst, src, off, imm⟩ : Ins) Wh.zero w)
  go_enter Try.func59, Try.ntmps59
  have BB := Lib.hid (IDuo.new (⟨5, dst, src, off, imm⟩ : Ins) (⟨9, 0, false, false, false, 0⟩ : Wh) w).1
  go_wp2_with fail
  exact bodyPost_ret (v := .tuple #[whV (⟨9, 0, false, false, false, 0⟩ : Wh), .bool false]) (by simp [results, Try.results59, go_sem]) rfl ⟨rfl, BB.out⟩

set_option maxRecDepth 100000 in
set_option maxHeartbeats 8000000 in
theorem r7_jump5_yes (dst src off imm : Int) (hd : (dst == 0) = true) (w : World) (b : Bool)
    (C : Hid (∀ w, Calls Try.prog 61 #[iV (⟨5, dst, src, off, imm⟩ : Ins), .bool false, .bool true, .bool false] w (Gives (.bool b) w))) :
    Calls Try.prog 59 #[iV (⟨5, dst, src, off, imm⟩ : Ins)] w (Gives (.tuple #[whV (⟨9, 0, false, false, false, 0⟩ : Wh), .bool b]) w) := by
  have P := Lib.hid (IDuo.new (⟨5, dst, src, off, imm⟩ : Ins) Wh.zero w)
  go_enter Try.func59, Try.ntmps59
  go_wp2_with fail
  refine (C.out _).mono ?_
  rintro e w8 ⟨rfl, b5⟩
  have Q := Lib.hid (P.out.after b5)
  clear b5 P
  obtain ⟨f0, f1, f2, f3, f4, f5⟩ := Q.out.2.2.free
  obtain ⟨z0, z1, z2, z3, z4, z5⟩ := Q.out.2.2.cells
  have BB := Lib.hid (Q.out.set (⟨9, 0, false, false, false, 0⟩ : Wh)).1
  go_wp2_with fail
  exact bodyPost_ret (v := .tuple #[whV (⟨9, 0, false, false, false, 0⟩ : Wh), .bool b]) (by simp [results, Try.results59, go_sem, z0, z1, z2, z3, z4, z5]) rfl ⟨rfl, BB.out⟩

set_option maxRecDepth 100000 in
set_option maxHeartbeats 8000000 in
theorem r7_jump6_no (dst src off imm : Int) (hd : (dst == 0) = false) (w : World) (b : Bool) :
    Calls Try.prog 59 #[iV (⟨6, dst, src, off, imm⟩ : Ins)] w (Gives (.tuple #[whV (⟨9, 0, false, false, false, 0⟩ : Wh), .bool false]) w) := by
  have P := Lib.hid (IDuo.new (⟨6, dst, src, off, imm⟩ : Ins) Wh.zero w)
  go_enter Try.func59, Try.ntmps59
  have BB := Lib.hid (IDuo.new (⟨6, dst, src, off, imm⟩ : Ins) (⟨9, 0, false, false, false, 0⟩ : Wh) w).1
  go_wp2_with fail
  exact bodyPost_ret (v := .tuple #[whV (⟨9, 0, false, false, false, 0⟩ : Wh), .bool false]) (by simp [results, Try.results59, go_sem]) rfl ⟨rfl, BB.out⟩

set_option maxRecDepth 100000 in
set_option maxHeartbeats 8000000 in
theorem r7_jump6_yes (dst src off imm : Int) (hd : (dst == 0) = true) (w : World) (b : Bool)
    (C : Hid (∀ w, Calls Try.prog 61 #[iV (⟨6, dst, src, off, imm⟩ : Ins), .bool false, .bool false, .bool true] w (Gives (.bool b) w))) :
    Calls Try.prog 59 #[iV (⟨6, dst, src, off, imm⟩ : Ins)] w (Gives (.tuple #[whV (⟨9, 0, false, false, false, 0⟩ : Wh), .bool b]) w) := by
  have P := Lib.hid (IDuo.new (⟨6, dst, src, off, imm⟩ : Ins) Wh.zero w)
  go_enter Try.func59, Try.ntmps59
  go_wp2_with fail
  refine (C.out _).mono ?_
  rintro e w8 ⟨rfl, b5⟩
  have Q := Lib.hid (P.out.after b5)
  clear b5 P
  obtain ⟨f0, f1, f2, f3, f4, f5⟩ := Q.out.2.2.free
  obtain ⟨z0, z1, z2, z3, z4, z5⟩ := Q.out.2.2.cells
  have BB := Lib.hid (Q.out.set (⟨9, 0, false, false, false, 0⟩ : Wh)).1
  go_wp2_with fail
  exact bodyPost_ret (v := .tuple #[whV (⟨9, 0, false, false, false, 0⟩ : Wh), .bool b]) (by simp [results, Try.results59, go_sem, z0, z1, z2, z3, z4, z5]) rfl ⟨rfl, BB.out⟩

set_option maxRecDepth 100000 in
set_option maxHeartbeats 8000000 in
theorem r7_call_no (dst src off imm : Int) (hd : (dst == 0) = false) (w : World) (b : Bool) :
    Calls Try.prog 59 #[iV (⟨133, dst, src, off, imm⟩ : Ins)] w (Gives (.tuple #[whV (⟨11, 0, false, false, false, 0⟩ : Wh), .bool false]) w) := by
  have P := Lib.hid (IDuo.new (⟨133, dst, src, off, imm⟩ : Ins) Wh.zero w)
  go_enter Try.func59, Try.ntmps59
  have BB := Lib.hid (IDuo.new (⟨133, dst, src, off, imm⟩ : Ins) (⟨11, 0, false, false, false, 0⟩ : Wh) w).1
  go_wp2_with fail
  exact bodyPost_ret (v := .tuple #[whV (⟨11, 0, false, false, false, 0⟩ : Wh), .bool false]) (by simp [results, Try.results59, go_sem]) rfl ⟨rfl, BB.out⟩

set_option maxRecDepth 100000 in
set_option maxHeartbeats 8000000 in
theorem r7_call_yes (dst src off imm : Int) (hd : (dst == 0) = true) (w : World) (b : Bool)
    (C : Hid (∀ w, Calls Try.prog 61 #[iV (⟨133, dst, src, off, imm⟩ : Ins), .bool false, .bool false, .bool true] w (Gives (.bool b) w))) :
    Calls Try.prog 59 #[iV (⟨133, dst, src, off, imm⟩ : Ins)] w (Gives (.tuple #[whV (⟨11, 0, false, false, false, 0⟩ : Wh), .bool b]) w) := by
  have P := Lib.hid (IDuo.new (⟨133, dst, src, off, imm⟩ : Ins) Wh.zero w)
  go_enter Try.func59, Try.ntmps59
  go_wp2_with fail
  refine (C.out _).mono ?_
  rintro e w8 ⟨rfl, b5⟩
  have Q := Lib.hid (P.out.after b5)
  clear b5 P
  obtain ⟨f0, f1, f2, f3, f4, f5⟩ := Q.out.2.2.free
  obtain ⟨z0, z1, z2, z3, z4, z5⟩ := Q.out.2.2.cells
  have BB := Lib.hid (Q.out.set (⟨11, 0, false, false, false, 0⟩ : Wh)).1
  go_wp2_with fail
  exact bodyPost_ret (v := .tuple #[whV (⟨11, 0, false, false, false, 0⟩ : Wh), .bool b]) (by simp [results, Try.results59, go_sem, z0, z1, z2, z3, z4, z5]) rfl ⟨rfl, BB.out⟩

set_option maxRecDepth 100000 in
set_option maxHeartbeats 8000000 in
theorem r7_exit_no (dst src off imm : Int) (hd : (dst == 0) = false) (w : World) (b : Bool) :
    Calls Try.prog 59 #[iV (⟨149, dst, src, off, imm⟩ : Ins)] w (Gives (.tuple #[whV (⟨12, 0, false, false, false, 0⟩ : Wh), .bool false]) w) := by
  have P := Lib.hid (IDuo.new (⟨149, dst, src, off, imm⟩ : Ins) Wh.zero w)
  go_enter Try.func59, Try.ntmps59
  have BB := Lib.hid (IDuo.new (⟨149, dst, src, off, imm⟩ : Ins) (⟨12, 0, false, false, false, 0⟩ : Wh) w).1
  go_wp2_with fail
  exact bodyPost_ret (v := .tuple #[whV (⟨12, 0, false, false, false, 0⟩ : Wh), .bool false]) (by simp [results, Try.results59, go_sem]) rfl ⟨rfl, BB.out⟩

set_option maxRecDepth 100000 in
set_option maxHeartbeats 8000000 in
theorem r7_exit_yes (dst src off imm : Int) (hd : (dst == 0) = true) (w : World) (b : Bool)
    (C : Hid (∀ w, Calls Try.prog 61 #[iV (⟨149, dst, src, off, imm⟩ : Ins), .bool false, .bool false, .bool false] w (Gives (.bool b) w))) :
    Calls Try.prog 59 #[iV (⟨149, dst, src, off, imm⟩ : Ins)] w (Gives (.tuple #[whV (⟨12, 0, false, false, false, 0⟩ : Wh), .bool b]) w) := by
  have P := Lib.hid (IDuo.new (⟨149, dst, src, off, imm⟩ : Ins) Wh.zero w)
  go_enter Try.func59, Try.ntmps59
  go_wp2_with fail
  refine (C.out _).mono ?_
  rintro e w8 ⟨rfl, b5⟩
  have Q := Lib.hid (P.out.after b5)
  clear b5 P
  obtain ⟨f0, f1, f2, f3, f4, f5⟩ := Q.out.2.2.free
  obtain ⟨z0, z1, z2, z3, z4, z5⟩ := Q.out.2.2.cells
  have BB := Lib.hid (Q.out.set (⟨12, 0, false, false, false, 0⟩ : Wh)).1
  go_wp2_with fail
  exact bodyPost_ret (v := .tuple #[whV (⟨12, 0, false, false, false, 0⟩ : Wh), .bool b]) (by simp [results, Try.results59, go_sem, z0, z1, z2, z3, z4, z5]) rfl ⟨rfl, BB.out⟩

set_option maxRecDepth 100000 in
set_option maxHeartbeats 8000000 in
theorem r7_number_dst (dst src off imm : Int) (hs : (src == 0) = true) (hd : (dst != 10) = false) (w : World) (b : Bool) :
    Calls Try.prog 59 #[iV (⟨24, dst, src, off, imm⟩ : Ins)] w (Gives (.tuple #[whV (⟨3, 0, true, false, false, 0⟩ : Wh), .bool false]) w) := by
  have P := Lib.hid (IDuo.new (⟨24, dst, src, off, imm⟩ : Ins) Wh.zero w)
  go_enter Try.func59, Try.ntmps59
  go_upto_region 1 with fail
  go_cut [6] (fun s wx => s = .int .u8 24 ∧ Hid (IDuo (⟨24, dst, src, off, imm⟩ : Ins) Wh.zero w wx))
  case first =>
    go_wp2_with fail
    go_meet
    exact ⟨rfl, P⟩
  case rest =>
    obtain ⟨rfl, Q⟩ := hcut
    clear P
    obtain ⟨p0, p1, p2, p3, p4⟩ := Q.out.2.1.cells
    go_upto_region 9 with fail
    clear p0 p1 p2 p3 p4
    have PD := Lib.hid (Q.out.after (Below.drew (Below.refl _ _)))
    have H : Hid (∀ v wx, IDuo (⟨24, dst, src, off, imm⟩ : Ins) v w wx → wx.cell? ⟨w.heap.size, 0, none⟩ = some (.int .u8 24) ∧ wx.cell? ⟨w.heap.size, 1, none⟩ = some (.int .u8 dst) ∧ wx.cell? ⟨w.heap.size, 2, none⟩ = some (.int .u8 src) ∧ wx.cell? ⟨w.heap.size, 3, none⟩ = some (.int .i16 off) ∧ wx.cell? ⟨w.heap.size, 4, none⟩ = some (.int .i32 imm)) := Lib.hid fun v wx hx => hx.2.1.cells
    refine wp_region_held_drew (S := (fun w' => w'.cell? ⟨w.heap.size, 0, none⟩ = some (.int .u8 24) ∧ w'.cell? ⟨w.heap.size, 1, none⟩ = some (.int .u8 dst) ∧ w'.cell? ⟨w.heap.size, 2, none⟩ = some (.int .u8 src) ∧ w'.cell? ⟨w.heap.size, 3, none⟩ = some (.int .i16 off) ∧ w'.cell? ⟨w.heap.size, 4, none⟩ = some (.int .i32 imm))) (by kernel_rfl) (H.out _ _ PD.out) (fun hHeld => ?_)
    refine wpAnyH_take (i := 0) (oi := { dst := some 47, op := Op.build 26 #[(0, Operand.const (Value.int IntKind.u8 3)), (2, Operand.const (Value.bool true))], type := 26, pos := "ref.go:87", after := #[], guard := none }) (v := ?_) rfl (by kernel_rfl) (by kernel_rfl) (by kernel_rfl) (fun _ _ _ h => h) (Or.inl ⟨by rfl, ?_⟩) (by assumption) ?_
    rotate_left 1
    · intro w hSw; (try dsimp only at hSw); go_simp; try (with_reducible rfl)
    try simp only [Act.put, List.setIfInBounds_toArray, List.set_cons_zero, List.set_cons_succ]
    refine wpAnyH_take (i := 1) (oi := { dst := some 48, op := Op.fieldAddr 24 (Operand.tmp 1) 1, type := 0, pos := "ref.go:87", after := #[], guard := none }) (v := ?_) rfl (by kernel_rfl) (by kernel_rfl) (by kernel_rfl) (fun _ _ _ h => h) (Or.inl ⟨by rfl, ?_⟩) (by assumption) ?_
    rotate_left 1
    · intro w hSw; (try dsimp only at hSw); go_simp; try (with_reducible rfl)
    try simp only [Act.put, List.setIfInBounds_toArray, List.set_cons_zero, List.set_cons_succ]
    refine wpAnyH_take (i := 2) (oi := { dst := some 49, op := Op.load 5 (Operand.tmp 48), type := 5, pos := "ref.go:87", after := #[{ on := 1, ground := Ground.data }], guard := none }) (v := ?_) rfl (by kernel_rfl) (by kernel_rfl) (by kernel_rfl) (fun _ _ _ h => h) (Or.inl ⟨by rfl, ?_⟩) (by assumption) ?_
    rotate_left 1
    · intro w hSw; (try dsimp only at hSw); go_simp; try (with_reducible rfl)
    try simp only [Act.put, List.setIfInBounds_toArray, List.set_cons_zero, List.set_cons_succ]
    refine wpAnyH_take (i := 3) (oi := { dst := some 50, op := Op.binOp BinOp.neq 5 (Operand.tmp 49) (Operand.const (Value.int IntKind.u8 10)) 5, type := 4, pos := "ref.go:87", after := #[{ on := 2, ground := Ground.data }], guard := none }) (v := ?_) rfl (by kernel_rfl) (by kernel_rfl) (by kernel_rfl) (fun _ _ _ h => h) (Or.inl ⟨by rfl, ?_⟩) (by assumption) ?_
    rotate_left 1
    · intro w hSw; (try dsimp only at hSw); go_simp; try (with_reducible rfl)
    try simp only [Act.put, List.setIfInBounds_toArray, List.set_cons_zero, List.set_cons_succ]
    refine wpAnyH_take (i := 4) (oi := { dst := some 51, op := Op.move (Operand.tmp 50), type := 4, pos := "ref.go:87", after := #[{ on := 3, ground := Ground.data }], guard := none }) (v := ?_) rfl (by kernel_rfl) (by kernel_rfl) (by kernel_rfl) (fun _ _ _ h => h) (Or.inl ⟨by rfl, ?_⟩) (by assumption) ?_
    rotate_left 1
    · intro w hSw; (try dsimp only at hSw); go_simp; try (with_reducible rfl)
    try simp only [Act.put, List.setIfInBounds_toArray, List.set_cons_zero, List.set_cons_succ]
    refine wpAnyH_take (i := 5) (oi := { dst := some 52, op := Op.fieldAddr 24 (Operand.tmp 1) 3, type := 0, pos := "ref.go:87", after := #[{ on := 4, ground := Ground.guard }, { on := 9, ground := Ground.gcOnly Departure.lateStores }], guard := some (4, true) }) (v := undef) rfl (by kernel_rfl) (by kernel_rfl) (by kernel_rfl) (fun _ _ _ h => h) (Or.inr ⟨by rfl, rfl⟩) (by assumption) ?_
    try simp only [Act.put, List.setIfInBounds_toArray, List.set_cons_zero, List.set_cons_succ]
    refine wpAnyH_take (i := 6) (oi := { dst := some 53, op := Op.load 22 (Operand.tmp 52), type := 22, pos := "ref.go:87", after := #[{ on := 5, ground := Ground.data }, { on := 4, ground := Ground.guard }, { on := 9, ground := Ground.gcOnly Departure.lateStores }], guard := some (4, true) }) (v := undef) rfl (by kernel_rfl) (by kernel_rfl) (by kernel_rfl) (fun _ _ _ h => h) (Or.inr ⟨by rfl, rfl⟩) (by assumption) ?_
    try simp only [Act.put, List.setIfInBounds_toArray, List.set_cons_zero, List.set_cons_succ]
    refine wpAnyH_take (i := 7) (oi := { dst := some 54, op := Op.binOp BinOp.eql 22 (Operand.tmp 53) (Operand.const (Value.int IntKind.i16 0)) 22, type := 4, pos := "ref.go:87", after := #[{ on := 6, ground := Ground.data }, { on := 4, ground := Ground.guard }, { on := 9, ground := Ground.gcOnly Departure.lateStores }], guard := some (4, true) }) (v := undef) rfl (by kernel_rfl) (by kernel_rfl) (by kernel_rfl) (fun _ _ _ h => h) (Or.inr ⟨by rfl, rfl⟩) (by assumption) ?_
    try simp only [Act.put, List.setIfInBounds_toArray, List.set_cons_zero, List.set_cons_succ]
    refine wpAnyH_take (i := 8) (oi := { dst := some 55, op := Op.pick (Operand.tmp 51) (Operand.tmp 54) (Operand.const (Value.bool false)), type := 4, pos := "ref.go:87", after := #[{ on := 4, ground := Ground.data }, { on := 7, ground := Ground.data }, { on := 9, ground := Ground.gcOnly Departure.lateStores }], guard := none }) (v := ?_) rfl (by kernel_rfl) (by kernel_rfl) (by kernel_rfl) (fun _ _ _ h => h) (Or.inl ⟨by rfl, ?_⟩) (by assumption) ?_
    rotate_left 1
    · intro w hSw; (try dsimp only at hSw); go_simp; try (with_reducible rfl)
    try simp only [Act.put, List.setIfInBounds_toArray, List.set_cons_zero, List.set_cons_succ]
    obtain ⟨f0, f1, f2, f3, f4, f5⟩ := Q.out.2.2.free
    obtain ⟨z0, z1, z2, z3, z4, z5⟩ := Q.out.2.2.cells
    refine wpAnyH_ready (rs := [9]) (by kernel_rfl) (by simp) ?_
    refine AllReadyH.cons (o := { dst := none, op := Op.store 26 (Operand.tmp 2) (Operand.tmp 47), type := 0, pos := "ref.go:87", after := #[{ on := 0, ground := Ground.data }, { on := 4, ground := Ground.chain }, { on := 0, ground := Ground.phase }, { on := 1, ground := Ground.textOnly Departure.lateStores }, { on := 2, ground := Ground.textOnly Departure.lateStores }, { on := 3, ground := Ground.textOnly Departure.lateStores }, { on := 4, ground := Ground.textOnly Departure.lateStores }, { on := 5, ground := Ground.textOnly Departure.lateStores }, { on := 6, ground := Ground.textOnly Departure.lateStores }, { on := 7, ground := Ground.textOnly Departure.lateStores }, { on := 8, ground := Ground.textOnly Departure.lateStores }], guard := none }) rfl (fun K hK => ?_) AllReadyH.nil
    go_simp
    replace PD := Lib.hid ((Q.out.set (⟨3, 0, true, false, false, 0⟩ : Wh)).after (Below.drew (Below.refl _ _)))
    clear f0 f1 f2 f3 f4 f5 z0 z1 z2 z3 z4 z5
    refine hK.out _ _ (H.out _ _ PD.out) (fun hHeld => ?_)
    clear hK K
    try simp only [Act.put, List.setIfInBounds_toArray, List.set_cons_zero, List.set_cons_succ]
    refine wpAnyH_take (i := 10) (oi := { dst := some 3, op := Op.assign (Operand.tmp 55), type := 4, pos := "ref.go:87", after := #[{ on := 8, ground := Ground.data }, { on := 9, ground := Ground.chain }, { on := 0, ground := Ground.phase }, { on := 1, ground := Ground.phase }, { on := 2, ground := Ground.phase }, { on := 3, ground := Ground.phase }, { on := 4, ground := Ground.phase }, { on := 5, ground := Ground.phase }, { on := 6, ground := Ground.phase }, { on := 7, ground := Ground.phase }, { on := 8, ground := Ground.phase }, { on := 9, ground := Ground.phase }], guard := none }) (v := ?_) rfl (by kernel_rfl) (by kernel_rfl) (by kernel_rfl) (fun _ _ _ h => h) (Or.inl ⟨by rfl, ?_⟩) (by assumption) ?_
    rotate_left 1
    · intro w hSw; (try dsimp only at hSw); go_simp; try (with_reducible rfl)
    try simp only [Act.put, List.setIfInBounds_toArray, List.set_cons_zero, List.set_cons_succ]
    refine wpAnyH_done (by kernel_rfl) ?_ _
    have BB := Lib.hid PD.out.1
    obtain ⟨z0, z1, z2, z3, z4, z5⟩ := PD.out.2.2.cells
    clear H PD
    go_wp2_with fail
    exact bodyPost_ret (v := .tuple #[whV (⟨3, 0, true, false, false, 0⟩ : Wh), .bool false]) (by simp [results, Try.results59, go_sem, z0, z1, z2, z3, z4, z5]) rfl ⟨rfl, BB.out⟩

set_option maxRecDepth 100000 in
set_option maxHeartbeats 8000000 in
theorem r7_number_off (dst src off imm : Int) (hs : (src == 0) = true) (hd : (dst != 10) = true) (h1 : (off == 0) = false) (w : World) (b : Bool) :
    Calls Try.prog 59 #[iV (⟨24, dst, src, off, imm⟩ : Ins)] w (Gives (.tuple #[whV (⟨3, 0, true, false, false, 0⟩ : Wh), .bool false]) w) := by
  have P := Lib.hid (IDuo.new (⟨24, dst, src, off, imm⟩ : Ins) Wh.zero w)
  go_enter Try.func59, Try.ntmps59
  go_upto_region 1 with fail
  go_cut [6] (fun s wx => s = .int .u8 24 ∧ Hid (IDuo (⟨24, dst, src, off, imm⟩ : Ins) Wh.zero w wx))
  case first =>
    go_wp2_with fail
    go_meet
    exact ⟨rfl, P⟩
  case rest =>
    obtain ⟨rfl, Q⟩ := hcut
    clear P
    obtain ⟨p0, p1, p2, p3, p4⟩ := Q.out.2.1.cells
    go_upto_region 9 with fail
    clear p0 p1 p2 p3 p4
    have PD := Lib.hid (Q.out.after (Below.drew (Below.refl _ _)))
    have H : Hid (∀ v wx, IDuo (⟨24, dst, src, off, imm⟩ : Ins) v w wx → wx.cell? ⟨w.heap.size, 0, none⟩ = some (.int .u8 24) ∧ wx.cell? ⟨w.heap.size, 1, none⟩ = some (.int .u8 dst) ∧ wx.cell? ⟨w.heap.size, 2, none⟩ = some (.int .u8 src) ∧ wx.cell? ⟨w.heap.size, 3, none⟩ = some (.int .i16 off) ∧ wx.cell? ⟨w.heap.size, 4, none⟩ = some (.int .i32 imm)) := Lib.hid fun v wx hx => hx.2.1.cells
    refine wp_region_held_drew (S := (fun w' => w'.cell? ⟨w.heap.size, 0, none⟩ = some (.int .u8 24) ∧ w'.cell? ⟨w.heap.size, 1, none⟩ = some (.int .u8 dst) ∧ w'.cell? ⟨w.heap.size, 2, none⟩ = some (.int .u8 src) ∧ w'.cell? ⟨w.heap.size, 3, none⟩ = some (.int .i16 off) ∧ w'.cell? ⟨w.heap.size, 4, none⟩ = some (.int .i32 imm))) (by kernel_rfl) (H.out _ _ PD.out) (fun hHeld => ?_)
    refine wpAnyH_take (i := 0) (oi := { dst := some 47, op := Op.build 26 #[(0, Operand.const (Value.int IntKind.u8 3)), (2, Operand.const (Value.bool true))], type := 26, pos := "ref.go:87", after := #[], guard := none }) (v := ?_) rfl (by kernel_rfl) (by kernel_rfl) (by kernel_rfl) (fun _ _ _ h => h) (Or.inl ⟨by rfl, ?_⟩) (by assumption) ?_
    rotate_left 1
    · intro w hSw; (try dsimp only at hSw); go_simp; try (with_reducible rfl)
    try simp only [Act.put, List.setIfInBounds_toArray, List.set_cons_zero, List.set_cons_succ]
    refine wpAnyH_take (i := 1) (oi := { dst := some 48, op := Op.fieldAddr 24 (Operand.tmp 1) 1, type := 0, pos := "ref.go:87", after := #[], guard := none }) (v := ?_) rfl (by kernel_rfl) (by kernel_rfl) (by kernel_rfl) (fun _ _ _ h => h) (Or.inl ⟨by rfl, ?_⟩) (by assumption) ?_
    rotate_left 1
    · intro w hSw; (try dsimp only at hSw); go_simp; try (with_reducible rfl)
    try simp only [Act.put, List.setIfInBounds_toArray, List.set_cons_zero, List.set_cons_succ]
    refine wpAnyH_take (i := 2) (oi := { dst := some 49, op := Op.load 5 (Operand.tmp 48), type := 5, pos := "ref.go:87", after := #[{ on := 1, ground := Ground.data }], guard := none }) (v := ?_) rfl (by kernel_rfl) (by kernel_rfl) (by kernel_rfl) (fun _ _ _ h => h) (Or.inl ⟨by rfl, ?_⟩) (by assumption) ?_
    rotate_left 1
    · intro w hSw; (try dsimp only at hSw); go_simp; try (with_reducible rfl)
    try simp only [Act.put, List.setIfInBounds_toArray, List.set_cons_zero, List.set_cons_succ]
    refine wpAnyH_take (i := 3) (oi := { dst := some 50, op := Op.binOp BinOp.neq 5 (Operand.tmp 49) (Operand.const (Value.int IntKind.u8 10)) 5, type := 4, pos := "ref.go:87", after := #[{ on := 2, ground := Ground.data }], guard := none }) (v := ?_) rfl (by kernel_rfl) (by kernel_rfl) (by kernel_rfl) (fun _ _ _ h => h) (Or.inl ⟨by rfl, ?_⟩) (by assumption) ?_
    rotate_left 1
    · intro w hSw; (try dsimp only at hSw); go_simp; try (with_reducible rfl)
    try simp only [Act.put, List.setIfInBounds_toArray, List.set_cons_zero, List.set_cons_succ]
    refine wpAnyH_take (i := 4) (oi := { dst := some 51, op := Op.move (Operand.tmp 50), type := 4, pos := "ref.go:87", after := #[{ on := 3, ground := Ground.data }], guard := none }) (v := ?_) rfl (by kernel_rfl) (by kernel_rfl) (by kernel_rfl) (fun _ _ _ h => h) (Or.inl ⟨by rfl, ?_⟩) (by assumption) ?_
    rotate_left 1
    · intro w hSw; (try dsimp only at hSw); go_simp; try (with_reducible rfl)
    try simp only [Act.put, List.setIfInBounds_toArray, List.set_cons_zero, List.set_cons_succ]
    refine wpAnyH_take (i := 5) (oi := { dst := some 52, op := Op.fieldAddr 24 (Operand.tmp 1) 3, type := 0, pos := "ref.go:87", after := #[{ on := 4, ground := Ground.guard }, { on := 9, ground := Ground.gcOnly Departure.lateStores }], guard := some (4, true) }) (v := ?_) rfl (by kernel_rfl) (by kernel_rfl) (by kernel_rfl) (fun _ _ _ h => h) (Or.inl ⟨by rfl, ?_⟩) (by assumption) ?_
    rotate_left 1
    · intro w hSw; (try dsimp only at hSw); go_simp; try (with_reducible rfl)
    try simp only [Act.put, List.setIfInBounds_toArray, List.set_cons_zero, List.set_cons_succ]
    refine wpAnyH_take (i := 6) (oi := { dst := some 53, op := Op.load 22 (Operand.tmp 52), type := 22, pos := "ref.go:87", after := #[{ on := 5, ground := Ground.data }, { on := 4, ground := Ground.guard }, { on := 9, ground := Ground.gcOnly Departure.lateStores }], guard := some (4, true) }) (v := ?_) rfl (by kernel_rfl) (by kernel_rfl) (by kernel_rfl) (fun _ _ _ h => h) (Or.inl ⟨by rfl, ?_⟩) (by assumption) ?_
    rotate_left 1
    · intro w hSw; (try dsimp only at hSw); go_simp; try (with_reducible rfl)
    try simp only [Act.put, List.setIfInBounds_toArray, List.set_cons_zero, List.set_cons_succ]
    refine wpAnyH_take (i := 7) (oi := { dst := some 54, op := Op.binOp BinOp.eql 22 (Operand.tmp 53) (Operand.const (Value.int IntKind.i16 0)) 22, type := 4, pos := "ref.go:87", after := #[{ on := 6, ground := Ground.data }, { on := 4, ground := Ground.guard }, { on := 9, ground := Ground.gcOnly Departure.lateStores }], guard := some (4, true) }) (v := ?_) rfl (by kernel_rfl) (by kernel_rfl) (by kernel_rfl) (fun _ _ _ h => h) (Or.inl ⟨by rfl, ?_⟩) (by assumption) ?_
    rotate_left 1
    · intro w hSw; (try dsimp only at hSw); go_simp; try (with_reducible rfl)
    try simp only [Act.put, List.setIfInBounds_toArray, List.set_cons_zero, List.set_cons_succ]
    refine wpAnyH_take (i := 8) (oi := { dst := some 55, op := Op.pick (Operand.tmp 51) (Operand.tmp 54) (Operand.const (Value.bool false)), type := 4, pos := "ref.go:87", after := #[{ on := 4, ground := Ground.data }, { on := 7, ground := Ground.data }, { on := 9, ground := Ground.gcOnly Departure.lateStores }], guard := none }) (v := ?_) rfl (by kernel_rfl) (by kernel_rfl) (by kernel_rfl) (fun _ _ _ h => h) (Or.inl ⟨by rfl, ?_⟩) (by assumption) ?_
    rotate_left 1
    · intro w hSw; (try dsimp only at hSw); go_simp; try (with_reducible rfl)
    try simp only [Act.put, List.setIfInBounds_toArray, List.set_cons_zero, List.set_cons_succ]
    obtain ⟨f0, f1, f2, f3, f4, f5⟩ := Q.out.2.2.free
    obtain ⟨z0, z1, z2, z3, z4, z5⟩ := Q.out.2.2.cells
    refine wpAnyH_ready (rs := [9]) (by kernel_rfl) (by simp) ?_
    refine AllReadyH.cons (o := { dst := none, op := Op.store 26 (Operand.tmp 2) (Operand.tmp 47), type := 0, pos := "ref.go:87", after := #[{ on := 0, ground := Ground.data }, { on := 4, ground := Ground.chain }, { on := 0, ground := Ground.phase }, { on := 1, ground := Ground.textOnly Departure.lateStores }, { on := 2, ground := Ground.textOnly Departure.lateStores }, { on := 3, ground := Ground.textOnly Departure.lateStores }, { on := 4, ground := Ground.textOnly Departure.lateStores }, { on := 5, ground := Ground.textOnly Departure.lateStores }, { on := 6, ground := Ground.textOnly Departure.lateStores }, { on := 7, ground := Ground.textOnly Departure.lateStores }, { on := 8, ground := Ground.textOnly Departure.lateStores }], guard := none }) rfl (fun K hK => ?_) AllReadyH.nil
    go_simp
    replace PD := Lib.hid ((Q.out.set (⟨3, 0, true, false, false, 0⟩ : Wh)).after (Below.drew (Below.refl _ _)))
    clear f0 f1 f2 f3 f4 f5 z0 z1 z2 z3 z4 z5
    refine hK.out _ _ (H.out _ _ PD.out) (fun hHeld => ?_)
    clear hK K
    try simp only [Act.put, List.setIfInBounds_toArray, List.set_cons_zero, List.set_cons_succ]
    refine wpAnyH_take (i := 10) (oi := { dst := some 3, op := Op.assign (Operand.tmp 55), type := 4, pos := "ref.go:87", after := #[{ on := 8, ground := Ground.data }, { on := 9, ground := Ground.chain }, { on := 0, ground := Ground.phase }, { on := 1, ground := Ground.phase }, { on := 2, ground := Ground.phase }, { on := 3, ground := Ground.phase }, { on := 4, ground := Ground.phase }, { on := 5, ground := Ground.phase }, { on := 6, ground := Ground.phase }, { on := 7, ground := Ground.phase }, { on := 8, ground := Ground.phase }, { on := 9, ground := Ground.phase }], guard := none }) (v := ?_) rfl (by kernel_rfl) (by kernel_rfl) (by kernel_rfl) (fun _ _ _ h => h) (Or.inl ⟨by rfl, ?_⟩) (by assumption) ?_
    rotate_left 1
    · intro w hSw; (try dsimp only at hSw); go_simp; try (with_reducible rfl)
    try simp only [Act.put, List.setIfInBounds_toArray, List.set_cons_zero, List.set_cons_succ]
    refine wpAnyH_done (by kernel_rfl) ?_ _
    have BB := Lib.hid PD.out.1
    obtain ⟨z0, z1, z2, z3, z4, z5⟩ := PD.out.2.2.cells
    clear H PD
    go_wp2_with fail
    exact bodyPost_ret (v := .tuple #[whV (⟨3, 0, true, false, false, 0⟩ : Wh), .bool false]) (by simp [results, Try.results59, go_sem, z0, z1, z2, z3, z4, z5]) rfl ⟨rfl, BB.out⟩

set_option maxRecDepth 100000 in
set_option maxHeartbeats 8000000 in
theorem r7_number_yes (dst src off imm : Int) (hs : (src == 0) = true) (hd : (dst != 10) = true) (h1 : (off == 0) = true) (w : World) (b : Bool) :
    Calls Try.prog 59 #[iV (⟨24, dst, src, off, imm⟩ : Ins)] w (Gives (.tuple #[whV (⟨3, 0, true, false, false, 0⟩ : Wh), .bool true]) w) := by
  have P := Lib.hid (IDuo.new (⟨24, dst, src, off, imm⟩ : Ins) Wh.zero w)
  go_enter Try.func59, Try.ntmps59
  go_upto_region 1 with fail
  go_cut [6] (fun s wx => s = .int .u8 24 ∧ Hid (IDuo (⟨24, dst, src, off, imm⟩ : Ins) Wh.zero w wx))
  case first =>
    go_wp2_with fail
    go_meet
    exact ⟨rfl, P⟩
  case rest =>
    obtain ⟨rfl, Q⟩ := hcut
    clear P
    obtain ⟨p0, p1, p2, p3, p4⟩ := Q.out.2.1.cells
    go_upto_region 9 with fail
    clear p0 p1 p2 p3 p4
    have PD := Lib.hid (Q.out.after (Below.drew (Below.refl _ _)))
    have H : Hid (∀ v wx, IDuo (⟨24, dst, src, off, imm⟩ : Ins) v w wx → wx.cell? ⟨w.heap.size, 0, none⟩ = some (.int .u8 24) ∧ wx.cell? ⟨w.heap.size, 1, none⟩ = some (.int .u8 dst) ∧ wx.cell? ⟨w.heap.size, 2, none⟩ = some (.int .u8 src) ∧ wx.cell? ⟨w.heap.size, 3, none⟩ = some (.int .i16 off) ∧ wx.cell? ⟨w.heap.size, 4, none⟩ = some (.int .i32 imm)) := Lib.hid fun v wx hx => hx.2.1.cells
    refine wp_region_held_drew (S := (fun w' => w'.cell? ⟨w.heap.size, 0, none⟩ = some (.int .u8 24) ∧ w'.cell? ⟨w.heap.size, 1, none⟩ = some (.int .u8 dst) ∧ w'.cell? ⟨w.heap.size, 2, none⟩ = some (.int .u8 src) ∧ w'.cell? ⟨w.heap.size, 3, none⟩ = some (.int .i16 off) ∧ w'.cell? ⟨w.heap.size, 4, none⟩ = some (.int .i32 imm))) (by kernel_rfl) (H.out _ _ PD.out) (fun hHeld => ?_)
    refine wpAnyH_take (i := 0) (oi := { dst := some 47, op := Op.build 26 #[(0, Operand.const (Value.int IntKind.u8 3)), (2, Operand.const (Value.bool true))], type := 26, pos := "ref.go:87", after := #[], guard := none }) (v := ?_) rfl (by kernel_rfl) (by kernel_rfl) (by kernel_rfl) (fun _ _ _ h => h) (Or.inl ⟨by rfl, ?_⟩) (by assumption) ?_
    rotate_left 1
    · intro w hSw; (try dsimp only at hSw); go_simp; try (with_reducible rfl)
    try simp only [Act.put, List.setIfInBounds_toArray, List.set_cons_zero, List.set_cons_succ]
    refine wpAnyH_take (i := 1) (oi := { dst := some 48, op := Op.fieldAddr 24 (Operand.tmp 1) 1, type := 0, pos := "ref.go:87", after := #[], guard := none }) (v := ?_) rfl (by kernel_rfl) (by kernel_rfl) (by kernel_rfl) (fun _ _ _ h => h) (Or.inl ⟨by rfl, ?_⟩) (by assumption) ?_
    rotate_left 1
    · intro w hSw; (try dsimp only at hSw); go_simp; try (with_reducible rfl)
    try simp only [Act.put, List.setIfInBounds_toArray, List.set_cons_zero, List.set_cons_succ]
    refine wpAnyH_take (i := 2) (oi := { dst := some 49, op := Op.load 5 (Operand.tmp 48), type := 5, pos := "ref.go:87", after := #[{ on := 1, ground := Ground.data }], guard := none }) (v := ?_) rfl (by kernel_rfl) (by kernel_rfl) (by kernel_rfl) (fun _ _ _ h => h) (Or.inl ⟨by rfl, ?_⟩) (by assumption) ?_
    rotate_left 1
    · intro w hSw; (try dsimp only at hSw); go_simp; try (with_reducible rfl)
    try simp only [Act.put, List.setIfInBounds_toArray, List.set_cons_zero, List.set_cons_succ]
    refine wpAnyH_take (i := 3) (oi := { dst := some 50, op := Op.binOp BinOp.neq 5 (Operand.tmp 49) (Operand.const (Value.int IntKind.u8 10)) 5, type := 4, pos := "ref.go:87", after := #[{ on := 2, ground := Ground.data }], guard := none }) (v := ?_) rfl (by kernel_rfl) (by kernel_rfl) (by kernel_rfl) (fun _ _ _ h => h) (Or.inl ⟨by rfl, ?_⟩) (by assumption) ?_
    rotate_left 1
    · intro w hSw; (try dsimp only at hSw); go_simp; try (with_reducible rfl)
    try simp only [Act.put, List.setIfInBounds_toArray, List.set_cons_zero, List.set_cons_succ]
    refine wpAnyH_take (i := 4) (oi := { dst := some 51, op := Op.move (Operand.tmp 50), type := 4, pos := "ref.go:87", after := #[{ on := 3, ground := Ground.data }], guard := none }) (v := ?_) rfl (by kernel_rfl) (by kernel_rfl) (by kernel_rfl) (fun _ _ _ h => h) (Or.inl ⟨by rfl, ?_⟩) (by assumption) ?_
    rotate_left 1
    · intro w hSw; (try dsimp only at hSw); go_simp; try (with_reducible rfl)
    try simp only [Act.put, List.setIfInBounds_toArray, List.set_cons_zero, List.set_cons_succ]
    refine wpAnyH_take (i := 5) (oi := { dst := some 52, op := Op.fieldAddr 24 (Operand.tmp 1) 3, type := 0, pos := "ref.go:87", after := #[{ on := 4, ground := Ground.guard }, { on := 9, ground := Ground.gcOnly Departure.lateStores }], guard := some (4, true) }) (v := ?_) rfl (by kernel_rfl) (by kernel_rfl) (by kernel_rfl) (fun _ _ _ h => h) (Or.inl ⟨by rfl, ?_⟩) (by assumption) ?_
    rotate_left 1
    · intro w hSw; (try dsimp only at hSw); go_simp; try (with_reducible rfl)
    try simp only [Act.put, List.setIfInBounds_toArray, List.set_cons_zero, List.set_cons_succ]
    refine wpAnyH_take (i := 6) (oi := { dst := some 53, op := Op.load 22 (Operand.tmp 52), type := 22, pos := "ref.go:87", after := #[{ on := 5, ground := Ground.data }, { on := 4, ground := Ground.guard }, { on := 9, ground := Ground.gcOnly Departure.lateStores }], guard := some (4, true) }) (v := ?_) rfl (by kernel_rfl) (by kernel_rfl) (by kernel_rfl) (fun _ _ _ h => h) (Or.inl ⟨by rfl, ?_⟩) (by assumption) ?_
    rotate_left 1
    · intro w hSw; (try dsimp only at hSw); go_simp; try (with_reducible rfl)
    try simp only [Act.put, List.setIfInBounds_toArray, List.set_cons_zero, List.set_cons_succ]
    refine wpAnyH_take (i := 7) (oi := { dst := some 54, op := Op.binOp BinOp.eql 22 (Operand.tmp 53) (Operand.const (Value.int IntKind.i16 0)) 22, type := 4, pos := "ref.go:87", after := #[{ on := 6, ground := Ground.data }, { on := 4, ground := Ground.guard }, { on := 9, ground := Ground.gcOnly Departure.lateStores }], guard := some (4, true) }) (v := ?_) rfl (by kernel_rfl) (by kernel_rfl) (by kernel_rfl) (fun _ _ _ h => h) (Or.inl ⟨by rfl, ?_⟩) (by assumption) ?_
    rotate_left 1
    · intro w hSw; (try dsimp only at hSw); go_simp; try (with_reducible rfl)
    try simp only [Act.put, List.setIfInBounds_toArray, List.set_cons_zero, List.set_cons_succ]
    refine wpAnyH_take (i := 8) (oi := { dst := some 55, op := Op.pick (Operand.tmp 51) (Operand.tmp 54) (Operand.const (Value.bool false)), type := 4, pos := "ref.go:87", after := #[{ on := 4, ground := Ground.data }, { on := 7, ground := Ground.data }, { on := 9, ground := Ground.gcOnly Departure.lateStores }], guard := none }) (v := ?_) rfl (by kernel_rfl) (by kernel_rfl) (by kernel_rfl) (fun _ _ _ h => h) (Or.inl ⟨by rfl, ?_⟩) (by assumption) ?_
    rotate_left 1
    · intro w hSw; (try dsimp only at hSw); go_simp; try (with_reducible rfl)
    try simp only [Act.put, List.setIfInBounds_toArray, List.set_cons_zero, List.set_cons_succ]
    obtain ⟨f0, f1, f2, f3, f4, f5⟩ := Q.out.2.2.free
    obtain ⟨z0, z1, z2, z3, z4, z5⟩ := Q.out.2.2.cells
    refine wpAnyH_ready (rs := [9]) (by kernel_rfl) (by simp) ?_
    refine AllReadyH.cons (o := { dst := none, op := Op.store 26 (Operand.tmp 2) (Operand.tmp 47), type := 0, pos := "ref.go:87", after := #[{ on := 0, ground := Ground.data }, { on := 4, ground := Ground.chain }, { on := 0, ground := Ground.phase }, { on := 1, ground := Ground.textOnly Departure.lateStores }, { on := 2, ground := Ground.textOnly Departure.lateStores }, { on := 3, ground := Ground.textOnly Departure.lateStores }, { on := 4, ground := Ground.textOnly Departure.lateStores }, { on := 5, ground := Ground.textOnly Departure.lateStores }, { on := 6, ground := Ground.textOnly Departure.lateStores }, { on := 7, ground := Ground.textOnly Departure.lateStores }, { on := 8, ground := Ground.textOnly Departure.lateStores }], guard := none }) rfl (fun K hK => ?_) AllReadyH.nil
    go_simp
    replace PD := Lib.hid ((Q.out.set (⟨3, 0, true, false, false, 0⟩ : Wh)).after (Below.drew (Below.refl _ _)))
    clear f0 f1 f2 f3 f4 f5 z0 z1 z2 z3 z4 z5
    refine hK.out _ _ (H.out _ _ PD.out) (fun hHeld => ?_)
    clear hK K
    try simp only [Act.put, List.setIfInBounds_toArray, List.set_cons_zero, List.set_cons_succ]
    refine wpAnyH_take (i := 10) (oi := { dst := some 3, op := Op.assign (Operand.tmp 55), type := 4, pos := "ref.go:87", after := #[{ on := 8, ground := Ground.data }, { on := 9, ground := Ground.chain }, { on := 0, ground := Ground.phase }, { on := 1, ground := Ground.phase }, { on := 2, ground := Ground.phase }, { on := 3, ground := Ground.phase }, { on := 4, ground := Ground.phase }, { on := 5, ground := Ground.phase }, { on := 6, ground := Ground.phase }, { on := 7, ground := Ground.phase }, { on := 8, ground := Ground.phase }, { on := 9, ground := Ground.phase }], guard := none }) (v := ?_) rfl (by kernel_rfl) (by kernel_rfl) (by kernel_rfl) (fun _ _ _ h => h) (Or.inl ⟨by rfl, ?_⟩) (by assumption) ?_
    rotate_left 1
    · intro w hSw; (try dsimp only at hSw); go_simp; try (with_reducible rfl)
    try simp only [Act.put, List.setIfInBounds_toArray, List.set_cons_zero, List.set_cons_succ]
    refine wpAnyH_done (by kernel_rfl) ?_ _
    have BB := Lib.hid PD.out.1
    obtain ⟨z0, z1, z2, z3, z4, z5⟩ := PD.out.2.2.cells
    clear H PD
    go_wp2_with fail
    exact bodyPost_ret (v := .tuple #[whV (⟨3, 0, true, false, false, 0⟩ : Wh), .bool true]) (by simp [results, Try.results59, go_sem, z0, z1, z2, z3, z4, z5]) rfl ⟨rfl, BB.out⟩

set_option maxRecDepth 100000 in
set_option maxHeartbeats 8000000 in
theorem r7_table_dst (dst src off imm : Int) (hs : (src == 0) = false) (hd : (dst != 10) = false) (w : World) (b : Bool) :
    Calls Try.prog 59 #[iV (⟨24, dst, src, off, imm⟩ : Ins)] w (Gives (.tuple #[whV (⟨4, 0, true, false, false, 0⟩ : Wh), .bool false]) w) := by
  have P := Lib.hid (IDuo.new (⟨24, dst, src, off, imm⟩ : Ins) Wh.zero w)
  go_enter Try.func59, Try.ntmps59
  go_upto_region 1 with fail
  go_cut [6] (fun s wx => s = .int .u8 24 ∧ Hid (IDuo (⟨24, dst, src, off, imm⟩ : Ins) Wh.zero w wx))
  case first =>
    go_wp2_with fail
    go_meet
    exact ⟨rfl, P⟩
  case rest =>
    obtain ⟨rfl, Q⟩ := hcut
    clear P
    obtain ⟨p0, p1, p2, p3, p4⟩ := Q.out.2.1.cells
    go_upto_region 10 with fail
    clear p0 p1 p2 p3 p4
    have PD := Lib.hid (Q.out.after (Below.drew (Below.refl _ _)))
    have H : Hid (∀ v wx, IDuo (⟨24, dst, src, off, imm⟩ : Ins) v w wx → wx.cell? ⟨w.heap.size, 0, none⟩ = some (.int .u8 24) ∧ wx.cell? ⟨w.heap.size, 1, none⟩ = some (.int .u8 dst) ∧ wx.cell? ⟨w.heap.size, 2, none⟩ = some (.int .u8 src) ∧ wx.cell? ⟨w.heap.size, 3, none⟩ = some (.int .i16 off) ∧ wx.cell? ⟨w.heap.size, 4, none⟩ = some (.int .i32 imm)) := Lib.hid fun v wx hx => hx.2.1.cells
    refine wp_region_held_drew (S := (fun w' => w'.cell? ⟨w.heap.size, 0, none⟩ = some (.int .u8 24) ∧ w'.cell? ⟨w.heap.size, 1, none⟩ = some (.int .u8 dst) ∧ w'.cell? ⟨w.heap.size, 2, none⟩ = some (.int .u8 src) ∧ w'.cell? ⟨w.heap.size, 3, none⟩ = some (.int .i16 off) ∧ w'.cell? ⟨w.heap.size, 4, none⟩ = some (.int .i32 imm))) (by kernel_rfl) (H.out _ _ PD.out) (fun hHeld => ?_)
    refine wpAnyH_take (i := 0) (oi := { dst := some 56, op := Op.build 26 #[(0, Operand.const (Value.int IntKind.u8 4)), (2, Operand.const (Value.bool true))], type := 26, pos := "ref.go:89", after := #[], guard := none }) (v := ?_) rfl (by kernel_rfl) (by kernel_rfl) (by kernel_rfl) (fun _ _ _ h => h) (Or.inl ⟨by rfl, ?_⟩) (by assumption) ?_
    rotate_left 1
    · intro w hSw; (try dsimp only at hSw); go_simp; try (with_reducible rfl)
    try simp only [Act.put, List.setIfInBounds_toArray, List.set_cons_zero, List.set_cons_succ]
    refine wpAnyH_take (i := 1) (oi := { dst := some 57, op := Op.fieldAddr 24 (Operand.tmp 1) 1, type := 0, pos := "ref.go:89", after := #[], guard := none }) (v := ?_) rfl (by kernel_rfl) (by kernel_rfl) (by kernel_rfl) (fun _ _ _ h => h) (Or.inl ⟨by rfl, ?_⟩) (by assumption) ?_
    rotate_left 1
    · intro w hSw; (try dsimp only at hSw); go_simp; try (with_reducible rfl)
    try simp only [Act.put, List.setIfInBounds_toArray, List.set_cons_zero, List.set_cons_succ]
    refine wpAnyH_take (i := 2) (oi := { dst := some 58, op := Op.load 5 (Operand.tmp 57), type := 5, pos := "ref.go:89", after := #[{ on := 1, ground := Ground.data }], guard := none }) (v := ?_) rfl (by kernel_rfl) (by kernel_rfl) (by kernel_rfl) (fun _ _ _ h => h) (Or.inl ⟨by rfl, ?_⟩) (by assumption) ?_
    rotate_left 1
    · intro w hSw; (try dsimp only at hSw); go_simp; try (with_reducible rfl)
    try simp only [Act.put, List.setIfInBounds_toArray, List.set_cons_zero, List.set_cons_succ]
    refine wpAnyH_take (i := 3) (oi := { dst := some 59, op := Op.binOp BinOp.neq 5 (Operand.tmp 58) (Operand.const (Value.int IntKind.u8 10)) 5, type := 4, pos := "ref.go:89", after := #[{ on := 2, ground := Ground.data }], guard := none }) (v := ?_) rfl (by kernel_rfl) (by kernel_rfl) (by kernel_rfl) (fun _ _ _ h => h) (Or.inl ⟨by rfl, ?_⟩) (by assumption) ?_
    rotate_left 1
    · intro w hSw; (try dsimp only at hSw); go_simp; try (with_reducible rfl)
    try simp only [Act.put, List.setIfInBounds_toArray, List.set_cons_zero, List.set_cons_succ]
    refine wpAnyH_take (i := 4) (oi := { dst := some 60, op := Op.move (Operand.tmp 59), type := 4, pos := "ref.go:89", after := #[{ on := 3, ground := Ground.data }], guard := none }) (v := ?_) rfl (by kernel_rfl) (by kernel_rfl) (by kernel_rfl) (fun _ _ _ h => h) (Or.inl ⟨by rfl, ?_⟩) (by assumption) ?_
    rotate_left 1
    · intro w hSw; (try dsimp only at hSw); go_simp; try (with_reducible rfl)
    try simp only [Act.put, List.setIfInBounds_toArray, List.set_cons_zero, List.set_cons_succ]
    refine wpAnyH_take (i := 5) (oi := { dst := some 61, op := Op.fieldAddr 24 (Operand.tmp 1) 3, type := 0, pos := "ref.go:89", after := #[{ on := 4, ground := Ground.guard }], guard := some (4, true) }) (v := undef) rfl (by kernel_rfl) (by kernel_rfl) (by kernel_rfl) (fun _ _ _ h => h) (Or.inr ⟨by rfl, rfl⟩) (by assumption) ?_
    try simp only [Act.put, List.setIfInBounds_toArray, List.set_cons_zero, List.set_cons_succ]
    refine wpAnyH_take (i := 6) (oi := { dst := some 62, op := Op.load 22 (Operand.tmp 61), type := 22, pos := "ref.go:89", after := #[{ on := 5, ground := Ground.data }, { on := 4, ground := Ground.guard }], guard := some (4, true) }) (v := undef) rfl (by kernel_rfl) (by kernel_rfl) (by kernel_rfl) (fun _ _ _ h => h) (Or.inr ⟨by rfl, rfl⟩) (by assumption) ?_
    try simp only [Act.put, List.setIfInBounds_toArray, List.set_cons_zero, List.set_cons_succ]
    refine wpAnyH_take (i := 7) (oi := { dst := some 63, op := Op.binOp BinOp.eql 22 (Operand.tmp 62) (Operand.const (Value.int IntKind.i16 0)) 22, type := 4, pos := "ref.go:89", after := #[{ on := 6, ground := Ground.data }, { on := 4, ground := Ground.guard }], guard := some (4, true) }) (v := undef) rfl (by kernel_rfl) (by kernel_rfl) (by kernel_rfl) (fun _ _ _ h => h) (Or.inr ⟨by rfl, rfl⟩) (by assumption) ?_
    try simp only [Act.put, List.setIfInBounds_toArray, List.set_cons_zero, List.set_cons_succ]
    refine wpAnyH_take (i := 8) (oi := { dst := some 64, op := Op.pick (Operand.tmp 60) (Operand.tmp 63) (Operand.const (Value.bool false)), type := 4, pos := "ref.go:89", after := #[{ on := 4, ground := Ground.data }, { on := 7, ground := Ground.data }], guard := none }) (v := ?_) rfl (by kernel_rfl) (by kernel_rfl) (by kernel_rfl) (fun _ _ _ h => h) (Or.inl ⟨by rfl, ?_⟩) (by assumption) ?_
    rotate_left 1
    · intro w hSw; (try dsimp only at hSw); go_simp; try (with_reducible rfl)
    try simp only [Act.put, List.setIfInBounds_toArray, List.set_cons_zero, List.set_cons_succ]
    refine wpAnyH_take (i := 9) (oi := { dst := some 65, op := Op.move (Operand.tmp 64), type := 4, pos := "ref.go:89", after := #[{ on := 8, ground := Ground.data }, { on := 4, ground := Ground.chain }], guard := none }) (v := ?_) rfl (by kernel_rfl) (by kernel_rfl) (by kernel_rfl) (fun _ _ _ h => h) (Or.inl ⟨by rfl, ?_⟩) (by assumption) ?_
    rotate_left 1
    · intro w hSw; (try dsimp only at hSw); go_simp; try (with_reducible rfl)
    try simp only [Act.put, List.setIfInBounds_toArray, List.set_cons_zero, List.set_cons_succ]
    refine wpAnyH_take (i := 10) (oi := { dst := some 66, op := Op.fieldAddr 24 (Operand.tmp 1) 2, type := 0, pos := "ref.go:89", after := #[{ on := 9, ground := Ground.guard }], guard := some (9, true) }) (v := undef) rfl (by kernel_rfl) (by kernel_rfl) (by kernel_rfl) (fun _ _ _ h => h) (Or.inr ⟨by rfl, rfl⟩) (by assumption) ?_
    try simp only [Act.put, List.setIfInBounds_toArray, List.set_cons_zero, List.set_cons_succ]
    refine wpAnyH_take (i := 11) (oi := { dst := some 67, op := Op.load 5 (Operand.tmp 66), type := 5, pos := "ref.go:89", after := #[{ on := 10, ground := Ground.data }, { on := 9, ground := Ground.guard }], guard := some (9, true) }) (v := undef) rfl (by kernel_rfl) (by kernel_rfl) (by kernel_rfl) (fun _ _ _ h => h) (Or.inr ⟨by rfl, rfl⟩) (by assumption) ?_
    try simp only [Act.put, List.setIfInBounds_toArray, List.set_cons_zero, List.set_cons_succ]
    refine wpAnyH_take (i := 12) (oi := { dst := some 68, op := Op.binOp BinOp.eql 5 (Operand.tmp 67) (Operand.const (Value.int IntKind.u8 1)) 5, type := 4, pos := "ref.go:89", after := #[{ on := 11, ground := Ground.data }, { on := 9, ground := Ground.guard }], guard := some (9, true) }) (v := undef) rfl (by kernel_rfl) (by kernel_rfl) (by kernel_rfl) (fun _ _ _ h => h) (Or.inr ⟨by rfl, rfl⟩) (by assumption) ?_
    try simp only [Act.put, List.setIfInBounds_toArray, List.set_cons_zero, List.set_cons_succ]
    refine wpAnyH_take (i := 13) (oi := { dst := some 69, op := Op.pick (Operand.tmp 65) (Operand.tmp 68) (Operand.const (Value.bool false)), type := 4, pos := "ref.go:89", after := #[{ on := 9, ground := Ground.data }, { on := 12, ground := Ground.data }], guard := none }) (v := ?_) rfl (by kernel_rfl) (by kernel_rfl) (by kernel_rfl) (fun _ _ _ h => h) (Or.inl ⟨by rfl, ?_⟩) (by assumption) ?_
    rotate_left 1
    · intro w hSw; (try dsimp only at hSw); go_simp; try (with_reducible rfl)
    try simp only [Act.put, List.setIfInBounds_toArray, List.set_cons_zero, List.set_cons_succ]
    refine wpAnyH_take (i := 14) (oi := { dst := some 70, op := Op.move (Operand.tmp 69), type := 4, pos := "ref.go:89", after := #[{ on := 13, ground := Ground.data }, { on := 9, ground := Ground.chain }], guard := none }) (v := ?_) rfl (by kernel_rfl) (by kernel_rfl) (by kernel_rfl) (fun _ _ _ h => h) (Or.inl ⟨by rfl, ?_⟩) (by assumption) ?_
    rotate_left 1
    · intro w hSw; (try dsimp only at hSw); go_simp; try (with_reducible rfl)
    try simp only [Act.put, List.setIfInBounds_toArray, List.set_cons_zero, List.set_cons_succ]
    refine wpAnyH_take (i := 15) (oi := { dst := some 71, op := Op.fieldAddr 24 (Operand.tmp 1) 4, type := 0, pos := "ref.go:89", after := #[{ on := 14, ground := Ground.guard }, { on := 19, ground := Ground.gcOnly Departure.lateStores }], guard := some (14, true) }) (v := undef) rfl (by kernel_rfl) (by kernel_rfl) (by kernel_rfl) (fun _ _ _ h => h) (Or.inr ⟨by rfl, rfl⟩) (by assumption) ?_
    try simp only [Act.put, List.setIfInBounds_toArray, List.set_cons_zero, List.set_cons_succ]
    refine wpAnyH_take (i := 16) (oi := { dst := some 72, op := Op.load 21 (Operand.tmp 71), type := 21, pos := "ref.go:89", after := #[{ on := 15, ground := Ground.data }, { on := 14, ground := Ground.guard }, { on := 19, ground := Ground.gcOnly Departure.lateStores }], guard := some (14, true) }) (v := undef) rfl (by kernel_rfl) (by kernel_rfl) (by kernel_rfl) (fun _ _ _ h => h) (Or.inr ⟨by rfl, rfl⟩) (by assumption) ?_
    try simp only [Act.put, List.setIfInBounds_toArray, List.set_cons_zero, List.set_cons_succ]
    refine wpAnyH_take (i := 17) (oi := { dst := some 73, op := Op.binOp BinOp.geq 21 (Operand.tmp 72) (Operand.const (Value.int IntKind.i32 0)) 21, type := 4, pos := "ref.go:89", after := #[{ on := 16, ground := Ground.data }, { on := 14, ground := Ground.guard }, { on := 19, ground := Ground.gcOnly Departure.lateStores }], guard := some (14, true) }) (v := undef) rfl (by kernel_rfl) (by kernel_rfl) (by kernel_rfl) (fun _ _ _ h => h) (Or.inr ⟨by rfl, rfl⟩) (by assumption) ?_
    try simp only [Act.put, List.setIfInBounds_toArray, List.set_cons_zero, List.set_cons_succ]
    refine wpAnyH_take (i := 18) (oi := { dst := some 74, op := Op.pick (Operand.tmp 70) (Operand.tmp 73) (Operand.const (Value.bool false)), type := 4, pos := "ref.go:89", after := #[{ on := 14, ground := Ground.data }, { on := 17, ground := Ground.data }, { on := 19, ground := Ground.gcOnly Departure.lateStores }], guard := none }) (v := ?_) rfl (by kernel_rfl) (by kernel_rfl) (by kernel_rfl) (fun _ _ _ h => h) (Or.inl ⟨by rfl, ?_⟩) (by assumption) ?_
    rotate_left 1
    · intro w hSw; (try dsimp only at hSw); go_simp; try (with_reducible rfl)
    try simp only [Act.put, List.setIfInBounds_toArray, List.set_cons_zero, List.set_cons_succ]
    obtain ⟨f0, f1, f2, f3, f4, f5⟩ := Q.out.2.2.free
    obtain ⟨z0, z1, z2, z3, z4, z5⟩ := Q.out.2.2.cells
    refine wpAnyH_ready (rs := [19]) (by kernel_rfl) (by simp) ?_
    refine AllReadyH.cons (o := { dst := none, op := Op.store 26 (Operand.tmp 2) (Operand.tmp 56), type := 0, pos := "ref.go:89", after := #[{ on := 0, ground := Ground.data }, { on := 14, ground := Ground.chain }, { on := 0, ground := Ground.phase }, { on := 1, ground := Ground.textOnly Departure.lateStores }, { on := 2, ground := Ground.textOnly Departure.lateStores }, { on := 3, ground := Ground.textOnly Departure.lateStores }, { on := 4, ground := Ground.textOnly Departure.lateStores }, { on := 5, ground := Ground.textOnly Departure.lateStores }, { on := 6, ground := Ground.textOnly Departure.lateStores }, { on := 7, ground := Ground.textOnly Departure.lateStores }, { on := 8, ground := Ground.textOnly Departure.lateStores }, { on := 9, ground := Ground.textOnly Departure.lateStores }, { on := 10, ground := Ground.textOnly Departure.lateStores }, { on := 11, ground := Ground.textOnly Departure.lateStores }, { on := 12, ground := Ground.textOnly Departure.lateStores }, { on := 13, ground := Ground.textOnly Departure.lateStores }, { on := 14, ground := Ground.textOnly Departure.lateStores }, { on := 15, ground := Ground.textOnly Departure.lateStores }, { on := 16, ground := Ground.textOnly Departure.lateStores }, { on := 17, ground := Ground.textOnly Departure.lateStores }, { on := 18, ground := Ground.textOnly Departure.lateStores }], guard := none }) rfl (fun K hK => ?_) AllReadyH.nil
    go_simp
    replace PD := Lib.hid ((Q.out.set (⟨4, 0, true, false, false, 0⟩ : Wh)).after (Below.drew (Below.refl _ _)))
    clear f0 f1 f2 f3 f4 f5 z0 z1 z2 z3 z4 z5
    refine hK.out _ _ (H.out _ _ PD.out) (fun hHeld => ?_)
    clear hK K
    try simp only [Act.put, List.setIfInBounds_toArray, List.set_cons_zero, List.set_cons_succ]
    refine wpAnyH_take (i := 20) (oi := { dst := some 3, op := Op.assign (Operand.tmp 74), type := 4, pos := "ref.go:89", after := #[{ on := 18, ground := Ground.data }, { on := 19, ground := Ground.chain }, { on := 0, ground := Ground.phase }, { on := 1, ground := Ground.phase }, { on := 2, ground := Ground.phase }, { on := 3, ground := Ground.phase }, { on := 4, ground := Ground.phase }, { on := 5, ground := Ground.phase }, { on := 6, ground := Ground.phase }, { on := 7, ground := Ground.phase }, { on := 8, ground := Ground.phase }, { on := 9, ground := Ground.phase }, { on := 10, ground := Ground.phase }, { on := 11, ground := Ground.phase }, { on := 12, ground := Ground.phase }, { on := 13, ground := Ground.phase }, { on := 14, ground := Ground.phase }, { on := 15, ground := Ground.phase }, { on := 16, ground := Ground.phase }, { on := 17, ground := Ground.phase }, { on := 18, ground := Ground.phase }, { on := 19, ground := Ground.phase }], guard := none }) (v := ?_) rfl (by kernel_rfl) (by kernel_rfl) (by kernel_rfl) (fun _ _ _ h => h) (Or.inl ⟨by rfl, ?_⟩) (by assumption) ?_
    rotate_left 1
    · intro w hSw; (try dsimp only at hSw); go_simp; try (with_reducible rfl)
    try simp only [Act.put, List.setIfInBounds_toArray, List.set_cons_zero, List.set_cons_succ]
    refine wpAnyH_done (by kernel_rfl) ?_ _
    have BB := Lib.hid PD.out.1
    obtain ⟨z0, z1, z2, z3, z4, z5⟩ := PD.out.2.2.cells
    clear H PD
    go_wp2_with fail
    exact bodyPost_ret (v := .tuple #[whV (⟨4, 0, true, false, false, 0⟩ : Wh), .bool false]) (by simp [results, Try.results59, go_sem, z0, z1, z2, z3, z4, z5]) rfl ⟨rfl, BB.out⟩

set_option maxRecDepth 100000 in
set_option maxHeartbeats 8000000 in
theorem r7_table_off (dst src off imm : Int) (hs : (src == 0) = false) (hd : (dst != 10) = true) (h1 : (off == 0) = false) (w : World) (b : Bool) :
    Calls Try.prog 59 #[iV (⟨24, dst, src, off, imm⟩ : Ins)] w (Gives (.tuple #[whV (⟨4, 0, true, false, false, 0⟩ : Wh), .bool false]) w) := by
  have P := Lib.hid (IDuo.new (⟨24, dst, src, off, imm⟩ : Ins) Wh.zero w)
  go_enter Try.func59, Try.ntmps59
  go_upto_region 1 with fail
  go_cut [6] (fun s wx => s = .int .u8 24 ∧ Hid (IDuo (⟨24, dst, src, off, imm⟩ : Ins) Wh.zero w wx))
  case first =>
    go_wp2_with fail
    go_meet
    exact ⟨rfl, P⟩
  case rest =>
    obtain ⟨rfl, Q⟩ := hcut
    clear P
    obtain ⟨p0, p1, p2, p3, p4⟩ := Q.out.2.1.cells
    go_upto_region 10 with fail
    clear p0 p1 p2 p3 p4
    have PD := Lib.hid (Q.out.after (Below.drew (Below.refl _ _)))
    have H : Hid (∀ v wx, IDuo (⟨24, dst, src, off, imm⟩ : Ins) v w wx → wx.cell? ⟨w.heap.size, 0, none⟩ = some (.int .u8 24) ∧ wx.cell? ⟨w.heap.size, 1, none⟩ = some (.int .u8 dst) ∧ wx.cell? ⟨w.heap.size, 2, none⟩ = some (.int .u8 src) ∧ wx.cell? ⟨w.heap.size, 3, none⟩ = some (.int .i16 off) ∧ wx.cell? ⟨w.heap.size, 4, none⟩ = some (.int .i32 imm)) := Lib.hid fun v wx hx => hx.2.1.cells
    refine wp_region_held_drew (S := (fun w' => w'.cell? ⟨w.heap.size, 0, none⟩ = some (.int .u8 24) ∧ w'.cell? ⟨w.heap.size, 1, none⟩ = some (.int .u8 dst) ∧ w'.cell? ⟨w.heap.size, 2, none⟩ = some (.int .u8 src) ∧ w'.cell? ⟨w.heap.size, 3, none⟩ = some (.int .i16 off) ∧ w'.cell? ⟨w.heap.size, 4, none⟩ = some (.int .i32 imm))) (by kernel_rfl) (H.out _ _ PD.out) (fun hHeld => ?_)
    refine wpAnyH_take (i := 0) (oi := { dst := some 56, op := Op.build 26 #[(0, Operand.const (Value.int IntKind.u8 4)), (2, Operand.const (Value.bool true))], type := 26, pos := "ref.go:89", after := #[], guard := none }) (v := ?_) rfl (by kernel_rfl) (by kernel_rfl) (by kernel_rfl) (fun _ _ _ h => h) (Or.inl ⟨by rfl, ?_⟩) (by assumption) ?_
    rotate_left 1
    · intro w hSw; (try dsimp only at hSw); go_simp; try (with_reducible rfl)
    try simp only [Act.put, List.setIfInBounds_toArray, List.set_cons_zero, List.set_cons_succ]
    refine wpAnyH_take (i := 1) (oi := { dst := some 57, op := Op.fieldAddr 24 (Operand.tmp 1) 1, type := 0, pos := "ref.go:89", after := #[], guard := none }) (v := ?_) rfl (by kernel_rfl) (by kernel_rfl) (by kernel_rfl) (fun _ _ _ h => h) (Or.inl ⟨by rfl, ?_⟩) (by assumption) ?_
    rotate_left 1
    · intro w hSw; (try dsimp only at hSw); go_simp; try (with_reducible rfl)
    try simp only [Act.put, List.setIfInBounds_toArray, List.set_cons_zero, List.set_cons_succ]
    refine wpAnyH_take (i := 2) (oi := { dst := some 58, op := Op.load 5 (Operand.tmp 57), type := 5, pos := "ref.go:89", after := #[{ on := 1, ground := Ground.data }], guard := none }) (v := ?_) rfl (by kernel_rfl) (by kernel_rfl) (by kernel_rfl) (fun _ _ _ h => h) (Or.inl ⟨by rfl, ?_⟩) (by assumption) ?_
    rotate_left 1
    · intro w hSw; (try dsimp only at hSw); go_simp; try (with_reducible rfl)
    try simp only [Act.put, List.setIfInBounds_toArray, List.set_cons_zero, List.set_cons_succ]
    refine wpAnyH_take (i := 3) (oi := { dst := some 59, op := Op.binOp BinOp.neq 5 (Operand.tmp 58) (Operand.const (Value.int IntKind.u8 10)) 5, type := 4, pos := "ref.go:89", after := #[{ on := 2, ground := Ground.data }], guard := none }) (v := ?_) rfl (by kernel_rfl) (by kernel_rfl) (by kernel_rfl) (fun _ _ _ h => h) (Or.inl ⟨by rfl, ?_⟩) (by assumption) ?_
    rotate_left 1
    · intro w hSw; (try dsimp only at hSw); go_simp; try (with_reducible rfl)
    try simp only [Act.put, List.setIfInBounds_toArray, List.set_cons_zero, List.set_cons_succ]
    refine wpAnyH_take (i := 4) (oi := { dst := some 60, op := Op.move (Operand.tmp 59), type := 4, pos := "ref.go:89", after := #[{ on := 3, ground := Ground.data }], guard := none }) (v := ?_) rfl (by kernel_rfl) (by kernel_rfl) (by kernel_rfl) (fun _ _ _ h => h) (Or.inl ⟨by rfl, ?_⟩) (by assumption) ?_
    rotate_left 1
    · intro w hSw; (try dsimp only at hSw); go_simp; try (with_reducible rfl)
    try simp only [Act.put, List.setIfInBounds_toArray, List.set_cons_zero, List.set_cons_succ]
    refine wpAnyH_take (i := 5) (oi := { dst := some 61, op := Op.fieldAddr 24 (Operand.tmp 1) 3, type := 0, pos := "ref.go:89", after := #[{ on := 4, ground := Ground.guard }], guard := some (4, true) }) (v := ?_) rfl (by kernel_rfl) (by kernel_rfl) (by kernel_rfl) (fun _ _ _ h => h) (Or.inl ⟨by rfl, ?_⟩) (by assumption) ?_
    rotate_left 1
    · intro w hSw; (try dsimp only at hSw); go_simp; try (with_reducible rfl)
    try simp only [Act.put, List.setIfInBounds_toArray, List.set_cons_zero, List.set_cons_succ]
    refine wpAnyH_take (i := 6) (oi := { dst := some 62, op := Op.load 22 (Operand.tmp 61), type := 22, pos := "ref.go:89", after := #[{ on := 5, ground := Ground.data }, { on := 4, ground := Ground.guard }], guard := some (4, true) }) (v := ?_) rfl (by kernel_rfl) (by kernel_rfl) (by kernel_rfl) (fun _ _ _ h => h) (Or.inl ⟨by rfl, ?_⟩) (by assumption) ?_
    rotate_left 1
    · intro w hSw; (try dsimp only at hSw); go_simp; try (with_reducible rfl)
    try simp only [Act.put, List.setIfInBounds_toArray, List.set_cons_zero, List.set_cons_succ]
    refine wpAnyH_take (i := 7) (oi := { dst := some 63, op := Op.binOp BinOp.eql 22 (Operand.tmp 62) (Operand.const (Value.int IntKind.i16 0)) 22, type := 4, pos := "ref.go:89", after := #[{ on := 6, ground := Ground.data }, { on := 4, ground := Ground.guard }], guard := some (4, true) }) (v := ?_) rfl (by kernel_rfl) (by kernel_rfl) (by kernel_rfl) (fun _ _ _ h => h) (Or.inl ⟨by rfl, ?_⟩) (by assumption) ?_
    rotate_left 1
    · intro w hSw; (try dsimp only at hSw); go_simp; try (with_reducible rfl)
    try simp only [Act.put, List.setIfInBounds_toArray, List.set_cons_zero, List.set_cons_succ]
    refine wpAnyH_take (i := 8) (oi := { dst := some 64, op := Op.pick (Operand.tmp 60) (Operand.tmp 63) (Operand.const (Value.bool false)), type := 4, pos := "ref.go:89", after := #[{ on := 4, ground := Ground.data }, { on := 7, ground := Ground.data }], guard := none }) (v := ?_) rfl (by kernel_rfl) (by kernel_rfl) (by kernel_rfl) (fun _ _ _ h => h) (Or.inl ⟨by rfl, ?_⟩) (by assumption) ?_
    rotate_left 1
    · intro w hSw; (try dsimp only at hSw); go_simp; try (with_reducible rfl)
    try simp only [Act.put, List.setIfInBounds_toArray, List.set_cons_zero, List.set_cons_succ]
    refine wpAnyH_take (i := 9) (oi := { dst := some 65, op := Op.move (Operand.tmp 64), type := 4, pos := "ref.go:89", after := #[{ on := 8, ground := Ground.data }, { on := 4, ground := Ground.chain }], guard := none }) (v := ?_) rfl (by kernel_rfl) (by kernel_rfl) (by kernel_rfl) (fun _ _ _ h => h) (Or.inl ⟨by rfl, ?_⟩) (by assumption) ?_
    rotate_left 1
    · intro w hSw; (try dsimp only at hSw); go_simp; try (with_reducible rfl)
    try simp only [Act.put, List.setIfInBounds_toArray, List.set_cons_zero, List.set_cons_succ]
    refine wpAnyH_take (i := 10) (oi := { dst := some 66, op := Op.fieldAddr 24 (Operand.tmp 1) 2, type := 0, pos := "ref.go:89", after := #[{ on := 9, ground := Ground.guard }], guard := some (9, true) }) (v := undef) rfl (by kernel_rfl) (by kernel_rfl) (by kernel_rfl) (fun _ _ _ h => h) (Or.inr ⟨by rfl, rfl⟩) (by assumption) ?_
    try simp only [Act.put, List.setIfInBounds_toArray, List.set_cons_zero, List.set_cons_succ]
    refine wpAnyH_take (i := 11) (oi := { dst := some 67, op := Op.load 5 (Operand.tmp 66), type := 5, pos := "ref.go:89", after := #[{ on := 10, ground := Ground.data }, { on := 9, ground := Ground.guard }], guard := some (9, true) }) (v := undef) rfl (by kernel_rfl) (by kernel_rfl) (by kernel_rfl) (fun _ _ _ h => h) (Or.inr ⟨by rfl, rfl⟩) (by assumption) ?_
    try simp only [Act.put, List.setIfInBounds_toArray, List.set_cons_zero, List.set_cons_succ]
    refine wpAnyH_take (i := 12) (oi := { dst := some 68, op := Op.binOp BinOp.eql 5 (Operand.tmp 67) (Operand.const (Value.int IntKind.u8 1)) 5, type := 4, pos := "ref.go:89", after := #[{ on := 11, ground := Ground.data }, { on := 9, ground := Ground.guard }], guard := some (9, true) }) (v := undef) rfl (by kernel_rfl) (by kernel_rfl) (by kernel_rfl) (fun _ _ _ h => h) (Or.inr ⟨by rfl, rfl⟩) (by assumption) ?_
    try simp only [Act.put, List.setIfInBounds_toArray, List.set_cons_zero, List.set_cons_succ]
    refine wpAnyH_take (i := 13) (oi := { dst := some 69, op := Op.pick (Operand.tmp 65) (Operand.tmp 68) (Operand.const (Value.bool false)), type := 4, pos := "ref.go:89", after := #[{ on := 9, ground := Ground.data }, { on := 12, ground := Ground.data }], guard := none }) (v := ?_) rfl (by kernel_rfl) (by kernel_rfl) (by kernel_rfl) (fun _ _ _ h => h) (Or.inl ⟨by rfl, ?_⟩) (by assumption) ?_
    rotate_left 1
    · intro w hSw; (try dsimp only at hSw); go_simp; try (with_reducible rfl)
    try simp only [Act.put, List.setIfInBounds_toArray, List.set_cons_zero, List.set_cons_succ]
    refine wpAnyH_take (i := 14) (oi := { dst := some 70, op := Op.move (Operand.tmp 69), type := 4, pos := "ref.go:89", after := #[{ on := 13, ground := Ground.data }, { on := 9, ground := Ground.chain }], guard := none }) (v := ?_) rfl (by kernel_rfl) (by kernel_rfl) (by kernel_rfl) (fun _ _ _ h => h) (Or.inl ⟨by rfl, ?_⟩) (by assumption) ?_
    rotate_left 1
    · intro w hSw; (try dsimp only at hSw); go_simp; try (with_reducible rfl)
    try simp only [Act.put, List.setIfInBounds_toArray, List.set_cons_zero, List.set_cons_succ]
    refine wpAnyH_take (i := 15) (oi := { dst := some 71, op := Op.fieldAddr 24 (Operand.tmp 1) 4, type := 0, pos := "ref.go:89", after := #[{ on := 14, ground := Ground.guard }, { on := 19, ground := Ground.gcOnly Departure.lateStores }], guard := some (14, true) }) (v := undef) rfl (by kernel_rfl) (by kernel_rfl) (by kernel_rfl) (fun _ _ _ h => h) (Or.inr ⟨by rfl, rfl⟩) (by assumption) ?_
    try simp only [Act.put, List.setIfInBounds_toArray, List.set_cons_zero, List.set_cons_succ]
    refine wpAnyH_take (i := 16) (oi := { dst := some 72, op := Op.load 21 (Operand.tmp 71), type := 21, pos := "ref.go:89", after := #[{ on := 15, ground := Ground.data }, { on := 14, ground := Ground.guard }, { on := 19, ground := Ground.gcOnly Departure.lateStores }], guard := some (14, true) }) (v := undef) rfl (by kernel_rfl) (by kernel_rfl) (by kernel_rfl) (fun _ _ _ h => h) (Or.inr ⟨by rfl, rfl⟩) (by assumption) ?_
    try simp only [Act.put, List.setIfInBounds_toArray, List.set_cons_zero, List.set_cons_succ]
    refine wpAnyH_take (i := 17) (oi := { dst := some 73, op := Op.binOp BinOp.geq 21 (Operand.tmp 72) (Operand.const (Value.int IntKind.i32 0)) 21, type := 4, pos := "ref.go:89", after := #[{ on := 16, ground := Ground.data }, { on := 14, ground := Ground.guard }, { on := 19, ground := Ground.gcOnly Departure.lateStores }], guard := some (14, true) }) (v := undef) rfl (by kernel_rfl) (by kernel_rfl) (by kernel_rfl) (fun _ _ _ h => h) (Or.inr ⟨by rfl, rfl⟩) (by assumption) ?_
    try simp only [Act.put, List.setIfInBounds_toArray, List.set_cons_zero, List.set_cons_succ]
    refine wpAnyH_take (i := 18) (oi := { dst := some 74, op := Op.pick (Operand.tmp 70) (Operand.tmp 73) (Operand.const (Value.bool false)), type := 4, pos := "ref.go:89", after := #[{ on := 14, ground := Ground.data }, { on := 17, ground := Ground.data }, { on := 19, ground := Ground.gcOnly Departure.lateStores }], guard := none }) (v := ?_) rfl (by kernel_rfl) (by kernel_rfl) (by kernel_rfl) (fun _ _ _ h => h) (Or.inl ⟨by rfl, ?_⟩) (by assumption) ?_
    rotate_left 1
    · intro w hSw; (try dsimp only at hSw); go_simp; try (with_reducible rfl)
    try simp only [Act.put, List.setIfInBounds_toArray, List.set_cons_zero, List.set_cons_succ]
    obtain ⟨f0, f1, f2, f3, f4, f5⟩ := Q.out.2.2.free
    obtain ⟨z0, z1, z2, z3, z4, z5⟩ := Q.out.2.2.cells
    refine wpAnyH_ready (rs := [19]) (by kernel_rfl) (by simp) ?_
    refine AllReadyH.cons (o := { dst := none, op := Op.store 26 (Operand.tmp 2) (Operand.tmp 56), type := 0, pos := "ref.go:89", after := #[{ on := 0, ground := Ground.data }, { on := 14, ground := Ground.chain }, { on := 0, ground := Ground.phase }, { on := 1, ground := Ground.textOnly Departure.lateStores }, { on := 2, ground := Ground.textOnly Departure.lateStores }, { on := 3, ground := Ground.textOnly Departure.lateStores }, { on := 4, ground := Ground.textOnly Departure.lateStores }, { on := 5, ground := Ground.textOnly Departure.lateStores }, { on := 6, ground := Ground.textOnly Departure.lateStores }, { on := 7, ground := Ground.textOnly Departure.lateStores }, { on := 8, ground := Ground.textOnly Departure.lateStores }, { on := 9, ground := Ground.textOnly Departure.lateStores }, { on := 10, ground := Ground.textOnly Departure.lateStores }, { on := 11, ground := Ground.textOnly Departure.lateStores }, { on := 12, ground := Ground.textOnly Departure.lateStores }, { on := 13, ground := Ground.textOnly Departure.lateStores }, { on := 14, ground := Ground.textOnly Departure.lateStores }, { on := 15, ground := Ground.textOnly Departure.lateStores }, { on := 16, ground := Ground.textOnly Departure.lateStores }, { on := 17, ground := Ground.textOnly Departure.lateStores }, { on := 18, ground := Ground.textOnly Departure.lateStores }], guard := none }) rfl (fun K hK => ?_) AllReadyH.nil
    go_simp
    replace PD := Lib.hid ((Q.out.set (⟨4, 0, true, false, false, 0⟩ : Wh)).after (Below.drew (Below.refl _ _)))
    clear f0 f1 f2 f3 f4 f5 z0 z1 z2 z3 z4 z5
    refine hK.out _ _ (H.out _ _ PD.out) (fun hHeld => ?_)
    clear hK K
    try simp only [Act.put, List.setIfInBounds_toArray, List.set_cons_zero, List.set_cons_succ]
    refine wpAnyH_take (i := 20) (oi := { dst := some 3, op := Op.assign (Operand.tmp 74), type := 4, pos := "ref.go:89", after := #[{ on := 18, ground := Ground.data }, { on := 19, ground := Ground.chain }, { on := 0, ground := Ground.phase }, { on := 1, ground := Ground.phase }, { on := 2, ground := Ground.phase }, { on := 3, ground := Ground.phase }, { on := 4, ground := Ground.phase }, { on := 5, ground := Ground.phase }, { on := 6, ground := Ground.phase }, { on := 7, ground := Ground.phase }, { on := 8, ground := Ground.phase }, { on := 9, ground := Ground.phase }, { on := 10, ground := Ground.phase }, { on := 11, ground := Ground.phase }, { on := 12, ground := Ground.phase }, { on := 13, ground := Ground.phase }, { on := 14, ground := Ground.phase }, { on := 15, ground := Ground.phase }, { on := 16, ground := Ground.phase }, { on := 17, ground := Ground.phase }, { on := 18, ground := Ground.phase }, { on := 19, ground := Ground.phase }], guard := none }) (v := ?_) rfl (by kernel_rfl) (by kernel_rfl) (by kernel_rfl) (fun _ _ _ h => h) (Or.inl ⟨by rfl, ?_⟩) (by assumption) ?_
    rotate_left 1
    · intro w hSw; (try dsimp only at hSw); go_simp; try (with_reducible rfl)
    try simp only [Act.put, List.setIfInBounds_toArray, List.set_cons_zero, List.set_cons_succ]
    refine wpAnyH_done (by kernel_rfl) ?_ _
    have BB := Lib.hid PD.out.1
    obtain ⟨z0, z1, z2, z3, z4, z5⟩ := PD.out.2.2.cells
    clear H PD
    go_wp2_with fail
    exact bodyPost_ret (v := .tuple #[whV (⟨4, 0, true, false, false, 0⟩ : Wh), .bool false]) (by simp [results, Try.results59, go_sem, z0, z1, z2, z3, z4, z5]) rfl ⟨rfl, BB.out⟩

set_option maxRecDepth 100000 in
set_option maxHeartbeats 8000000 in
theorem r7_table_src (dst src off imm : Int) (hs : (src == 0) = false) (hd : (dst != 10) = true) (h1 : (off == 0) = true) (h2 : (src == 1) = false) (w : World) (b : Bool) :
    Calls Try.prog 59 #[iV (⟨24, dst, src, off, imm⟩ : Ins)] w (Gives (.tuple #[whV (⟨4, 0, true, false, false, 0⟩ : Wh), .bool false]) w) := by
  have P := Lib.hid (IDuo.new (⟨24, dst, src, off, imm⟩ : Ins) Wh.zero w)
  go_enter Try.func59, Try.ntmps59
  go_upto_region 1 with fail
  go_cut [6] (fun s wx => s = .int .u8 24 ∧ Hid (IDuo (⟨24, dst, src, off, imm⟩ : Ins) Wh.zero w wx))
  case first =>
    go_wp2_with fail
    go_meet
    exact ⟨rfl, P⟩
  case rest =>
    obtain ⟨rfl, Q⟩ := hcut
    clear P
    obtain ⟨p0, p1, p2, p3, p4⟩ := Q.out.2.1.cells
    go_upto_region 10 with fail
    clear p0 p1 p2 p3 p4
    have PD := Lib.hid (Q.out.after (Below.drew (Below.refl _ _)))
    have H : Hid (∀ v wx, IDuo (⟨24, dst, src, off, imm⟩ : Ins) v w wx → wx.cell? ⟨w.heap.size, 0, none⟩ = some (.int .u8 24) ∧ wx.cell? ⟨w.heap.size, 1, none⟩ = some (.int .u8 dst) ∧ wx.cell? ⟨w.heap.size, 2, none⟩ = some (.int .u8 src) ∧ wx.cell? ⟨w.heap.size, 3, none⟩ = some (.int .i16 off) ∧ wx.cell? ⟨w.heap.size, 4, none⟩ = some (.int .i32 imm)) := Lib.hid fun v wx hx => hx.2.1.cells
    refine wp_region_held_drew (S := (fun w' => w'.cell? ⟨w.heap.size, 0, none⟩ = some (.int .u8 24) ∧ w'.cell? ⟨w.heap.size, 1, none⟩ = some (.int .u8 dst) ∧ w'.cell? ⟨w.heap.size, 2, none⟩ = some (.int .u8 src) ∧ w'.cell? ⟨w.heap.size, 3, none⟩ = some (.int .i16 off) ∧ w'.cell? ⟨w.heap.size, 4, none⟩ = some (.int .i32 imm))) (by kernel_rfl) (H.out _ _ PD.out) (fun hHeld => ?_)
    refine wpAnyH_take (i := 0) (oi := { dst := some 56, op := Op.build 26 #[(0, Operand.const (Value.int IntKind.u8 4)), (2, Operand.const (Value.bool true))], type := 26, pos := "ref.go:89", after := #[], guard := none }) (v := ?_) rfl (by kernel_rfl) (by kernel_rfl) (by kernel_rfl) (fun _ _ _ h => h) (Or.inl ⟨by rfl, ?_⟩) (by assumption) ?_
    rotate_left 1
    · intro w hSw; (try dsimp only at hSw); go_simp; try (with_reducible rfl)
    try simp only [Act.put, List.setIfInBounds_toArray, List.set_cons_zero, List.set_cons_succ]
    refine wpAnyH_take (i := 1) (oi := { dst := some 57, op := Op.fieldAddr 24 (Operand.tmp 1) 1, type := 0, pos := "ref.go:89", after := #[], guard := none }) (v := ?_) rfl (by kernel_rfl) (by kernel_rfl) (by kernel_rfl) (fun _ _ _ h => h) (Or.inl ⟨by rfl, ?_⟩) (by assumption) ?_
    rotate_left 1
    · intro w hSw; (try dsimp only at hSw); go_simp; try (with_reducible rfl)
    try simp only [Act.put, List.setIfInBounds_toArray, List.set_cons_zero, List.set_cons_succ]
    refine wpAnyH_take (i := 2) (oi := { dst := some 58, op := Op.load 5 (Operand.tmp 57), type := 5, pos := "ref.go:89", after := #[{ on := 1, ground := Ground.data }], guard := none }) (v := ?_) rfl (by kernel_rfl) (by kernel_rfl) (by kernel_rfl) (fun _ _ _ h => h) (Or.inl ⟨by rfl, ?_⟩) (by assumption) ?_
    rotate_left 1
    · intro w hSw; (try dsimp only at hSw); go_simp; try (with_reducible rfl)
    try simp only [Act.put, List.setIfInBounds_toArray, List.set_cons_zero, List.set_cons_succ]
    refine wpAnyH_take (i := 3) (oi := { dst := some 59, op := Op.binOp BinOp.neq 5 (Operand.tmp 58) (Operand.const (Value.int IntKind.u8 10)) 5, type := 4, pos := "ref.go:89", after := #[{ on := 2, ground := Ground.data }], guard := none }) (v := ?_) rfl (by kernel_rfl) (by kernel_rfl) (by kernel_rfl) (fun _ _ _ h => h) (Or.inl ⟨by rfl, ?_⟩) (by assumption) ?_
    rotate_left 1
    · intro w hSw; (try dsimp only at hSw); go_simp; try (with_reducible rfl)
    try simp only [Act.put, List.setIfInBounds_toArray, List.set_cons_zero, List.set_cons_succ]
    refine wpAnyH_take (i := 4) (oi := { dst := some 60, op := Op.move (Operand.tmp 59), type := 4, pos := "ref.go:89", after := #[{ on := 3, ground := Ground.data }], guard := none }) (v := ?_) rfl (by kernel_rfl) (by kernel_rfl) (by kernel_rfl) (fun _ _ _ h => h) (Or.inl ⟨by rfl, ?_⟩) (by assumption) ?_
    rotate_left 1
    · intro w hSw; (try dsimp only at hSw); go_simp; try (with_reducible rfl)
    try simp only [Act.put, List.setIfInBounds_toArray, List.set_cons_zero, List.set_cons_succ]
    refine wpAnyH_take (i := 5) (oi := { dst := some 61, op := Op.fieldAddr 24 (Operand.tmp 1) 3, type := 0, pos := "ref.go:89", after := #[{ on := 4, ground := Ground.guard }], guard := some (4, true) }) (v := ?_) rfl (by kernel_rfl) (by kernel_rfl) (by kernel_rfl) (fun _ _ _ h => h) (Or.inl ⟨by rfl, ?_⟩) (by assumption) ?_
    rotate_left 1
    · intro w hSw; (try dsimp only at hSw); go_simp; try (with_reducible rfl)
    try simp only [Act.put, List.setIfInBounds_toArray, List.set_cons_zero, List.set_cons_succ]
    refine wpAnyH_take (i := 6) (oi := { dst := some 62, op := Op.load 22 (Operand.tmp 61), type := 22, pos := "ref.go:89", after := #[{ on := 5, ground := Ground.data }, { on := 4, ground := Ground.guard }], guard := some (4, true) }) (v := ?_) rfl (by kernel_rfl) (by kernel_rfl) (by kernel_rfl) (fun _ _ _ h => h) (Or.inl ⟨by rfl, ?_⟩) (by assumption) ?_
    rotate_left 1
    · intro w hSw; (try dsimp only at hSw); go_simp; try (with_reducible rfl)
    try simp only [Act.put, List.setIfInBounds_toArray, List.set_cons_zero, List.set_cons_succ]
    refine wpAnyH_take (i := 7) (oi := { dst := some 63, op := Op.binOp BinOp.eql 22 (Operand.tmp 62) (Operand.const (Value.int IntKind.i16 0)) 22, type := 4, pos := "ref.go:89", after := #[{ on := 6, ground := Ground.data }, { on := 4, ground := Ground.guard }], guard := some (4, true) }) (v := ?_) rfl (by kernel_rfl) (by kernel_rfl) (by kernel_rfl) (fun _ _ _ h => h) (Or.inl ⟨by rfl, ?_⟩) (by assumption) ?_
    rotate_left 1
    · intro w hSw; (try dsimp only at hSw); go_simp; try (with_reducible rfl)
    try simp only [Act.put, List.setIfInBounds_toArray, List.set_cons_zero, List.set_cons_succ]
    refine wpAnyH_take (i := 8) (oi := { dst := some 64, op := Op.pick (Operand.tmp 60) (Operand.tmp 63) (Operand.const (Value.bool false)), type := 4, pos := "ref.go:89", after := #[{ on := 4, ground := Ground.data }, { on := 7, ground := Ground.data }], guard := none }) (v := ?_) rfl (by kernel_rfl) (by kernel_rfl) (by kernel_rfl) (fun _ _ _ h => h) (Or.inl ⟨by rfl, ?_⟩) (by assumption) ?_
    rotate_left 1
    · intro w hSw; (try dsimp only at hSw); go_simp; try (with_reducible rfl)
    try simp only [Act.put, List.setIfInBounds_toArray, List.set_cons_zero, List.set_cons_succ]
    refine wpAnyH_take (i := 9) (oi := { dst := some 65, op := Op.move (Operand.tmp 64), type := 4, pos := "ref.go:89", after := #[{ on := 8, ground := Ground.data }, { on := 4, ground := Ground.chain }], guard := none }) (v := ?_) rfl (by kernel_rfl) (by kernel_rfl) (by kernel_rfl) (fun _ _ _ h => h) (Or.inl ⟨by rfl, ?_⟩) (by assumption) ?_
    rotate_left 1
    · intro w hSw; (try dsimp only at hSw); go_simp; try (with_reducible rfl)
    try simp only [Act.put, List.setIfInBounds_toArray, List.set_cons_zero, List.set_cons_succ]
    refine wpAnyH_take (i := 10) (oi := { dst := some 66, op := Op.fieldAddr 24 (Operand.tmp 1) 2, type := 0, pos := "ref.go:89", after := #[{ on := 9, ground := Ground.guard }], guard := some (9, true) }) (v := ?_) rfl (by kernel_rfl) (by kernel_rfl) (by kernel_rfl) (fun _ _ _ h => h) (Or.inl ⟨by rfl, ?_⟩) (by assumption) ?_
    rotate_left 1
    · intro w hSw; (try dsimp only at hSw); go_simp; try (with_reducible rfl)
    try simp only [Act.put, List.setIfInBounds_toArray, List.set_cons_zero, List.set_cons_succ]
    refine wpAnyH_take (i := 11) (oi := { dst := some 67, op := Op.load 5 (Operand.tmp 66), type := 5, pos := "ref.go:89", after := #[{ on := 10, ground := Ground.data }, { on := 9, ground := Ground.guard }], guard := some (9, true) }) (v := ?_) rfl (by kernel_rfl) (by kernel_rfl) (by kernel_rfl) (fun _ _ _ h => h) (Or.inl ⟨by rfl, ?_⟩) (by assumption) ?_
    rotate_left 1
    · intro w hSw; (try dsimp only at hSw); go_simp; try (with_reducible rfl)
    try simp only [Act.put, List.setIfInBounds_toArray, List.set_cons_zero, List.set_cons_succ]
    refine wpAnyH_take (i := 12) (oi := { dst := some 68, op := Op.binOp BinOp.eql 5 (Operand.tmp 67) (Operand.const (Value.int IntKind.u8 1)) 5, type := 4, pos := "ref.go:89", after := #[{ on := 11, ground := Ground.data }, { on := 9, ground := Ground.guard }], guard := some (9, true) }) (v := ?_) rfl (by kernel_rfl) (by kernel_rfl) (by kernel_rfl) (fun _ _ _ h => h) (Or.inl ⟨by rfl, ?_⟩) (by assumption) ?_
    rotate_left 1
    · intro w hSw; (try dsimp only at hSw); go_simp; try (with_reducible rfl)
    try simp only [Act.put, List.setIfInBounds_toArray, List.set_cons_zero, List.set_cons_succ]
    refine wpAnyH_take (i := 13) (oi := { dst := some 69, op := Op.pick (Operand.tmp 65) (Operand.tmp 68) (Operand.const (Value.bool false)), type := 4, pos := "ref.go:89", after := #[{ on := 9, ground := Ground.data }, { on := 12, ground := Ground.data }], guard := none }) (v := ?_) rfl (by kernel_rfl) (by kernel_rfl) (by kernel_rfl) (fun _ _ _ h => h) (Or.inl ⟨by rfl, ?_⟩) (by assumption) ?_
    rotate_left 1
    · intro w hSw; (try dsimp only at hSw); go_simp; try (with_reducible rfl)
    try simp only [Act.put, List.setIfInBounds_toArray, List.set_cons_zero, List.set_cons_succ]
    refine wpAnyH_take (i := 14) (oi := { dst := some 70, op := Op.move (Operand.tmp 69), type := 4, pos := "ref.go:89", after := #[{ on := 13, ground := Ground.data }, { on := 9, ground := Ground.chain }], guard := none }) (v := ?_) rfl (by kernel_rfl) (by kernel_rfl) (by kernel_rfl) (fun _ _ _ h => h) (Or.inl ⟨by rfl, ?_⟩) (by assumption) ?_
    rotate_left 1
    · intro w hSw; (try dsimp only at hSw); go_simp; try (with_reducible rfl)
    try simp only [Act.put, List.setIfInBounds_toArray, List.set_cons_zero, List.set_cons_succ]
    refine wpAnyH_take (i := 15) (oi := { dst := some 71, op := Op.fieldAddr 24 (Operand.tmp 1) 4, type := 0, pos := "ref.go:89", after := #[{ on := 14, ground := Ground.guard }, { on := 19, ground := Ground.gcOnly Departure.lateStores }], guard := some (14, true) }) (v := undef) rfl (by kernel_rfl) (by kernel_rfl) (by kernel_rfl) (fun _ _ _ h => h) (Or.inr ⟨by rfl, rfl⟩) (by assumption) ?_
    try simp only [Act.put, List.setIfInBounds_toArray, List.set_cons_zero, List.set_cons_succ]
    refine wpAnyH_take (i := 16) (oi := { dst := some 72, op := Op.load 21 (Operand.tmp 71), type := 21, pos := "ref.go:89", after := #[{ on := 15, ground := Ground.data }, { on := 14, ground := Ground.guard }, { on := 19, ground := Ground.gcOnly Departure.lateStores }], guard := some (14, true) }) (v := undef) rfl (by kernel_rfl) (by kernel_rfl) (by kernel_rfl) (fun _ _ _ h => h) (Or.inr ⟨by rfl, rfl⟩) (by assumption) ?_
    try simp only [Act.put, List.setIfInBounds_toArray, List.set_cons_zero, List.set_cons_succ]
    refine wpAnyH_take (i := 17) (oi := { dst := some 73, op := Op.binOp BinOp.geq 21 (Operand.tmp 72) (Operand.const (Value.int IntKind.i32 0)) 21, type := 4, pos := "ref.go:89", after := #[{ on := 16, ground := Ground.data }, { on := 14, ground := Ground.guard }, { on := 19, ground := Ground.gcOnly Departure.lateStores }], guard := some (14, true) }) (v := undef) rfl (by kernel_rfl) (by kernel_rfl) (by kernel_rfl) (fun _ _ _ h => h) (Or.inr ⟨by rfl, rfl⟩) (by assumption) ?_
    try simp only [Act.put, List.setIfInBounds_toArray, List.set_cons_zero, List.set_cons_succ]
    refine wpAnyH_take (i := 18) (oi := { dst := some 74, op := Op.pick (Operand.tmp 70) (Operand.tmp 73) (Operand.const (Value.bool false)), type := 4, pos := "ref.go:89", after := #[{ on := 14, ground := Ground.data }, { on := 17, ground := Ground.data }, { on := 19, ground := Ground.gcOnly Departure.lateStores }], guard := none }) (v := ?_) rfl (by kernel_rfl) (by kernel_rfl) (by kernel_rfl) (fun _ _ _ h => h) (Or.inl ⟨by rfl, ?_⟩) (by assumption) ?_
    rotate_left 1
    · intro w hSw; (try dsimp only at hSw); go_simp; try (with_reducible rfl)
    try simp only [Act.put, List.setIfInBounds_toArray, List.set_cons_zero, List.set_cons_succ]
    obtain ⟨f0, f1, f2, f3, f4, f5⟩ := Q.out.2.2.free
    obtain ⟨z0, z1, z2, z3, z4, z5⟩ := Q.out.2.2.cells
    refine wpAnyH_ready (rs := [19]) (by kernel_rfl) (by simp) ?_
    refine AllReadyH.cons (o := { dst := none, op := Op.store 26 (Operand.tmp 2) (Operand.tmp 56), type := 0, pos := "ref.go:89", after := #[{ on := 0, ground := Ground.data }, { on := 14, ground := Ground.chain }, { on := 0, ground := Ground.phase }, { on := 1, ground := Ground.textOnly Departure.lateStores }, { on := 2, ground := Ground.textOnly Departure.lateStores }, { on := 3, ground := Ground.textOnly Departure.lateStores }, { on := 4, ground := Ground.textOnly Departure.lateStores }, { on := 5, ground := Ground.textOnly Departure.lateStores }, { on := 6, ground := Ground.textOnly Departure.lateStores }, { on := 7, ground := Ground.textOnly Departure.lateStores }, { on := 8, ground := Ground.textOnly Departure.lateStores }, { on := 9, ground := Ground.textOnly Departure.lateStores }, { on := 10, ground := Ground.textOnly Departure.lateStores }, { on := 11, ground := Ground.textOnly Departure.lateStores }, { on := 12, ground := Ground.textOnly Departure.lateStores }, { on := 13, ground := Ground.textOnly Departure.lateStores }, { on := 14, ground := Ground.textOnly Departure.lateStores }, { on := 15, ground := Ground.textOnly Departure.lateStores }, { on := 16, ground := Ground.textOnly Departure.lateStores }, { on := 17, ground := Ground.textOnly Departure.lateStores }, { on := 18, ground := Ground.textOnly Departure.lateStores }], guard := none }) rfl (fun K hK => ?_) AllReadyH.nil
    go_simp
    replace PD := Lib.hid ((Q.out.set (⟨4, 0, true, false, false, 0⟩ : Wh)).after (Below.drew (Below.refl _ _)))
    clear f0 f1 f2 f3 f4 f5 z0 z1 z2 z3 z4 z5
    refine hK.out _ _ (H.out _ _ PD.out) (fun hHeld => ?_)
    clear hK K
    try simp only [Act.put, List.setIfInBounds_toArray, List.set_cons_zero, List.set_cons_succ]
    refine wpAnyH_take (i := 20) (oi := { dst := some 3, op := Op.assign (Operand.tmp 74), type := 4, pos := "ref.go:89", after := #[{ on := 18, ground := Ground.data }, { on := 19, ground := Ground.chain }, { on := 0, ground := Ground.phase }, { on := 1, ground := Ground.phase }, { on := 2, ground := Ground.phase }, { on := 3, ground := Ground.phase }, { on := 4, ground := Ground.phase }, { on := 5, ground := Ground.phase }, { on := 6, ground := Ground.phase }, { on := 7, ground := Ground.phase }, { on := 8, ground := Ground.phase }, { on := 9, ground := Ground.phase }, { on := 10, ground := Ground.phase }, { on := 11, ground := Ground.phase }, { on := 12, ground := Ground.phase }, { on := 13, ground := Ground.phase }, { on := 14, ground := Ground.phase }, { on := 15, ground := Ground.phase }, { on := 16, ground := Ground.phase }, { on := 17, ground := Ground.phase }, { on := 18, ground := Ground.phase }, { on := 19, ground := Ground.phase }], guard := none }) (v := ?_) rfl (by kernel_rfl) (by kernel_rfl) (by kernel_rfl) (fun _ _ _ h => h) (Or.inl ⟨by rfl, ?_⟩) (by assumption) ?_
    rotate_left 1
    · intro w hSw; (try dsimp only at hSw); go_simp; try (with_reducible rfl)
    try simp only [Act.put, List.setIfInBounds_toArray, List.set_cons_zero, List.set_cons_succ]
    refine wpAnyH_done (by kernel_rfl) ?_ _
    have BB := Lib.hid PD.out.1
    obtain ⟨z0, z1, z2, z3, z4, z5⟩ := PD.out.2.2.cells
    clear H PD
    go_wp2_with fail
    exact bodyPost_ret (v := .tuple #[whV (⟨4, 0, true, false, false, 0⟩ : Wh), .bool false]) (by simp [results, Try.results59, go_sem, z0, z1, z2, z3, z4, z5]) rfl ⟨rfl, BB.out⟩

set_option maxRecDepth 100000 in
set_option maxHeartbeats 8000000 in
theorem r7_table_imm (dst src off imm : Int) (hs : (src == 0) = false) (hd : (dst != 10) = true) (h1 : (off == 0) = true) (h2 : (src == 1) = true) (h3 : decide (0 ≤ imm) = false) (w : World) (b : Bool) :
    Calls Try.prog 59 #[iV (⟨24, dst, src, off, imm⟩ : Ins)] w (Gives (.tuple #[whV (⟨4, 0, true, false, false, 0⟩ : Wh), .bool false]) w) := by
  have P := Lib.hid (IDuo.new (⟨24, dst, src, off, imm⟩ : Ins) Wh.zero w)
  go_enter Try.func59, Try.ntmps59
  go_upto_region 1 with fail
  go_cut [6] (fun s wx => s = .int .u8 24 ∧ Hid (IDuo (⟨24, dst, src, off, imm⟩ : Ins) Wh.zero w wx))
  case first =>
    go_wp2_with fail
    go_meet
    exact ⟨rfl, P⟩
  case rest =>
    obtain ⟨rfl, Q⟩ := hcut
    clear P
    obtain ⟨p0, p1, p2, p3, p4⟩ := Q.out.2.1.cells
    go_upto_region 10 with fail
    clear p0 p1 p2 p3 p4
    have PD := Lib.hid (Q.out.after (Below.drew (Below.refl _ _)))
    have H : Hid (∀ v wx, IDuo (⟨24, dst, src, off, imm⟩ : Ins) v w wx → wx.cell? ⟨w.heap.size, 0, none⟩ = some (.int .u8 24) ∧ wx.cell? ⟨w.heap.size, 1, none⟩ = some (.int .u8 dst) ∧ wx.cell? ⟨w.heap.size, 2, none⟩ = some (.int .u8 src) ∧ wx.cell? ⟨w.heap.size, 3, none⟩ = some (.int .i16 off) ∧ wx.cell? ⟨w.heap.size, 4, none⟩ = some (.int .i32 imm)) := Lib.hid fun v wx hx => hx.2.1.cells
    refine wp_region_held_drew (S := (fun w' => w'.cell? ⟨w.heap.size, 0, none⟩ = some (.int .u8 24) ∧ w'.cell? ⟨w.heap.size, 1, none⟩ = some (.int .u8 dst) ∧ w'.cell? ⟨w.heap.size, 2, none⟩ = some (.int .u8 src) ∧ w'.cell? ⟨w.heap.size, 3, none⟩ = some (.int .i16 off) ∧ w'.cell? ⟨w.heap.size, 4, none⟩ = some (.int .i32 imm))) (by kernel_rfl) (H.out _ _ PD.out) (fun hHeld => ?_)
    refine wpAnyH_take (i := 0) (oi := { dst := some 56, op := Op.build 26 #[(0, Operand.const (Value.int IntKind.u8 4)), (2, Operand.const (Value.bool true))], type := 26, pos := "ref.go:89", after := #[], guard := none }) (v := ?_) rfl (by kernel_rfl) (by kernel_rfl) (by kernel_rfl) (fun _ _ _ h => h) (Or.inl ⟨by rfl, ?_⟩) (by assumption) ?_
    rotate_left 1
    · intro w hSw; (try dsimp only at hSw); go_simp; try (with_reducible rfl)
    try simp only [Act.put, List.setIfInBounds_toArray, List.set_cons_zero, List.set_cons_succ]
    refine wpAnyH_take (i := 1) (oi := { dst := some 57, op := Op.fieldAddr 24 (Operand.tmp 1) 1, type := 0, pos := "ref.go:89", after := #[], guard := none }) (v := ?_) rfl (by kernel_rfl) (by kernel_rfl) (by kernel_rfl) (fun _ _ _ h => h) (Or.inl ⟨by rfl, ?_⟩) (by assumption) ?_
    rotate_left 1
    · intro w hSw; (try dsimp only at hSw); go_simp; try (with_reducible rfl)
    try simp only [Act.put, List.setIfInBounds_toArray, List.set_cons_zero, List.set_cons_succ]
    refine wpAnyH_take (i := 2) (oi := { dst := some 58, op := Op.load 5 (Operand.tmp 57), type := 5, pos := "ref.go:89", after := #[{ on := 1, ground := Ground.data }], guard := none }) (v := ?_) rfl (by kernel_rfl) (by kernel_rfl) (by kernel_rfl) (fun _ _ _ h => h) (Or.inl ⟨by rfl, ?_⟩) (by assumption) ?_
    rotate_left 1
    · intro w hSw; (try dsimp only at hSw); go_simp; try (with_reducible rfl)
    try simp only [Act.put, List.setIfInBounds_toArray, List.set_cons_zero, List.set_cons_succ]
    refine wpAnyH_take (i := 3) (oi := { dst := some 59, op := Op.binOp BinOp.neq 5 (Operand.tmp 58) (Operand.const (Value.int IntKind.u8 10)) 5, type := 4, pos := "ref.go:89", after := #[{ on := 2, ground := Ground.data }], guard := none }) (v := ?_) rfl (by kernel_rfl) (by kernel_rfl) (by kernel_rfl) (fun _ _ _ h => h) (Or.inl ⟨by rfl, ?_⟩) (by assumption) ?_
    rotate_left 1
    · intro w hSw; (try dsimp only at hSw); go_simp; try (with_reducible rfl)
    try simp only [Act.put, List.setIfInBounds_toArray, List.set_cons_zero, List.set_cons_succ]
    refine wpAnyH_take (i := 4) (oi := { dst := some 60, op := Op.move (Operand.tmp 59), type := 4, pos := "ref.go:89", after := #[{ on := 3, ground := Ground.data }], guard := none }) (v := ?_) rfl (by kernel_rfl) (by kernel_rfl) (by kernel_rfl) (fun _ _ _ h => h) (Or.inl ⟨by rfl, ?_⟩) (by assumption) ?_
    rotate_left 1
    · intro w hSw; (try dsimp only at hSw); go_simp; try (with_reducible rfl)
    try simp only [Act.put, List.setIfInBounds_toArray, List.set_cons_zero, List.set_cons_succ]
    refine wpAnyH_take (i := 5) (oi := { dst := some 61, op := Op.fieldAddr 24 (Operand.tmp 1) 3, type := 0, pos := "ref.go:89", after := #[{ on := 4, ground := Ground.guard }], guard := some (4, true) }) (v := ?_) rfl (by kernel_rfl) (by kernel_rfl) (by kernel_rfl) (fun _ _ _ h => h) (Or.inl ⟨by rfl, ?_⟩) (by assumption) ?_
    rotate_left 1
    · intro w hSw; (try dsimp only at hSw); go_simp; try (with_reducible rfl)
    try simp only [Act.put, List.setIfInBounds_toArray, List.set_cons_zero, List.set_cons_succ]
    refine wpAnyH_take (i := 6) (oi := { dst := some 62, op := Op.load 22 (Operand.tmp 61), type := 22, pos := "ref.go:89", after := #[{ on := 5, ground := Ground.data }, { on := 4, ground := Ground.guard }], guard := some (4, true) }) (v := ?_) rfl (by kernel_rfl) (by kernel_rfl) (by kernel_rfl) (fun _ _ _ h => h) (Or.inl ⟨by rfl, ?_⟩) (by assumption) ?_
    rotate_left 1
    · intro w hSw; (try dsimp only at hSw); go_simp; try (with_reducible rfl)
    try simp only [Act.put, List.setIfInBounds_toArray, List.set_cons_zero, List.set_cons_succ]
    refine wpAnyH_take (i := 7) (oi := { dst := some 63, op := Op.binOp BinOp.eql 22 (Operand.tmp 62) (Operand.const (Value.int IntKind.i16 0)) 22, type := 4, pos := "ref.go:89", after := #[{ on := 6, ground := Ground.data }, { on := 4, ground := Ground.guard }], guard := some (4, true) }) (v := ?_) rfl (by kernel_rfl) (by kernel_rfl) (by kernel_rfl) (fun _ _ _ h => h) (Or.inl ⟨by rfl, ?_⟩) (by assumption) ?_
    rotate_left 1
    · intro w hSw; (try dsimp only at hSw); go_simp; try (with_reducible rfl)
    try simp only [Act.put, List.setIfInBounds_toArray, List.set_cons_zero, List.set_cons_succ]
    refine wpAnyH_take (i := 8) (oi := { dst := some 64, op := Op.pick (Operand.tmp 60) (Operand.tmp 63) (Operand.const (Value.bool false)), type := 4, pos := "ref.go:89", after := #[{ on := 4, ground := Ground.data }, { on := 7, ground := Ground.data }], guard := none }) (v := ?_) rfl (by kernel_rfl) (by kernel_rfl) (by kernel_rfl) (fun _ _ _ h => h) (Or.inl ⟨by rfl, ?_⟩) (by assumption) ?_
    rotate_left 1
    · intro w hSw; (try dsimp only at hSw); go_simp; try (with_reducible rfl)
    try simp only [Act.put, List.setIfInBounds_toArray, List.set_cons_zero, List.set_cons_succ]
    refine wpAnyH_take (i := 9) (oi := { dst := some 65, op := Op.move (Operand.tmp 64), type := 4, pos := "ref.go:89", after := #[{ on := 8, ground := Ground.data }, { on := 4, ground := Ground.chain }], guard := none }) (v := ?_) rfl (by kernel_rfl) (by kernel_rfl) (by kernel_rfl) (fun _ _ _ h => h) (Or.inl ⟨by rfl, ?_⟩) (by assumption) ?_
    rotate_left 1
    · intro w hSw; (try dsimp only at hSw); go_simp; try (with_reducible rfl)
    try simp only [Act.put, List.setIfInBounds_toArray, List.set_cons_zero, List.set_cons_succ]
    refine wpAnyH_take (i := 10) (oi := { dst := some 66, op := Op.fieldAddr 24 (Operand.tmp 1) 2, type := 0, pos := "ref.go:89", after := #[{ on := 9, ground := Ground.guard }], guard := some (9, true) }) (v := ?_) rfl (by kernel_rfl) (by kernel_rfl) (by kernel_rfl) (fun _ _ _ h => h) (Or.inl ⟨by rfl, ?_⟩) (by assumption) ?_
    rotate_left 1
    · intro w hSw; (try dsimp only at hSw); go_simp; try (with_reducible rfl)
    try simp only [Act.put, List.setIfInBounds_toArray, List.set_cons_zero, List.set_cons_succ]
    refine wpAnyH_take (i := 11) (oi := { dst := some 67, op := Op.load 5 (Operand.tmp 66), type := 5, pos := "ref.go:89", after := #[{ on := 10, ground := Ground.data }, { on := 9, ground := Ground.guard }], guard := some (9, true) }) (v := ?_) rfl (by kernel_rfl) (by kernel_rfl) (by kernel_rfl) (fun _ _ _ h => h) (Or.inl ⟨by rfl, ?_⟩) (by assumption) ?_
    rotate_left 1
    · intro w hSw; (try dsimp only at hSw); go_simp; try (with_reducible rfl)
    try simp only [Act.put, List.setIfInBounds_toArray, List.set_cons_zero, List.set_cons_succ]
    refine wpAnyH_take (i := 12) (oi := { dst := some 68, op := Op.binOp BinOp.eql 5 (Operand.tmp 67) (Operand.const (Value.int IntKind.u8 1)) 5, type := 4, pos := "ref.go:89", after := #[{ on := 11, ground := Ground.data }, { on := 9, ground := Ground.guard }], guard := some (9, true) }) (v := ?_) rfl (by kernel_rfl) (by kernel_rfl) (by kernel_rfl) (fun _ _ _ h => h) (Or.inl ⟨by rfl, ?_⟩) (by assumption) ?_
    rotate_left 1
    · intro w hSw; (try dsimp only at hSw); go_simp; try (with_reducible rfl)
    try simp only [Act.put, List.setIfInBounds_toArray, List.set_cons_zero, List.set_cons_succ]
    refine wpAnyH_take (i := 13) (oi := { dst := some 69, op := Op.pick (Operand.tmp 65) (Operand.tmp 68) (Operand.const (Value.bool false)), type := 4, pos := "ref.go:89", after := #[{ on := 9, ground := Ground.data }, { on := 12, ground := Ground.data }], guard := none }) (v := ?_) rfl (by kernel_rfl) (by kernel_rfl) (by kernel_rfl) (fun _ _ _ h => h) (Or.inl ⟨by rfl, ?_⟩) (by assumption) ?_
    rotate_left 1
    · intro w hSw; (try dsimp only at hSw); go_simp; try (with_reducible rfl)
    try simp only [Act.put, List.setIfInBounds_toArray, List.set_cons_zero, List.set_cons_succ]
    refine wpAnyH_take (i := 14) (oi := { dst := some 70, op := Op.move (Operand.tmp 69), type := 4, pos := "ref.go:89", after := #[{ on := 13, ground := Ground.data }, { on := 9, ground := Ground.chain }], guard := none }) (v := ?_) rfl (by kernel_rfl) (by kernel_rfl) (by kernel_rfl) (fun _ _ _ h => h) (Or.inl ⟨by rfl, ?_⟩) (by assumption) ?_
    rotate_left 1
    · intro w hSw; (try dsimp only at hSw); go_simp; try (with_reducible rfl)
    try simp only [Act.put, List.setIfInBounds_toArray, List.set_cons_zero, List.set_cons_succ]
    refine wpAnyH_take (i := 15) (oi := { dst := some 71, op := Op.fieldAddr 24 (Operand.tmp 1) 4, type := 0, pos := "ref.go:89", after := #[{ on := 14, ground := Ground.guard }, { on := 19, ground := Ground.gcOnly Departure.lateStores }], guard := some (14, true) }) (v := ?_) rfl (by kernel_rfl) (by kernel_rfl) (by kernel_rfl) (fun _ _ _ h => h) (Or.inl ⟨by rfl, ?_⟩) (by assumption) ?_
    rotate_left 1
    · intro w hSw; (try dsimp only at hSw); go_simp; try (with_reducible rfl)
    try simp only [Act.put, List.setIfInBounds_toArray, List.set_cons_zero, List.set_cons_succ]
    refine wpAnyH_take (i := 16) (oi := { dst := some 72, op := Op.load 21 (Operand.tmp 71), type := 21, pos := "ref.go:89", after := #[{ on := 15, ground := Ground.data }, { on := 14, ground := Ground.guard }, { on := 19, ground := Ground.gcOnly Departure.lateStores }], guard := some (14, true) }) (v := ?_) rfl (by kernel_rfl) (by kernel_rfl) (by kernel_rfl) (fun _ _ _ h => h) (Or.inl ⟨by rfl, ?_⟩) (by assumption) ?_
    rotate_left 1
    · intro w hSw; (try dsimp only at hSw); go_simp; try (with_reducible rfl)
    try simp only [Act.put, List.setIfInBounds_toArray, List.set_cons_zero, List.set_cons_succ]
    refine wpAnyH_take (i := 17) (oi := { dst := some 73, op := Op.binOp BinOp.geq 21 (Operand.tmp 72) (Operand.const (Value.int IntKind.i32 0)) 21, type := 4, pos := "ref.go:89", after := #[{ on := 16, ground := Ground.data }, { on := 14, ground := Ground.guard }, { on := 19, ground := Ground.gcOnly Departure.lateStores }], guard := some (14, true) }) (v := ?_) rfl (by kernel_rfl) (by kernel_rfl) (by kernel_rfl) (fun _ _ _ h => h) (Or.inl ⟨by rfl, ?_⟩) (by assumption) ?_
    rotate_left 1
    · intro w hSw; (try dsimp only at hSw); go_simp; try (with_reducible rfl)
    try simp only [Act.put, List.setIfInBounds_toArray, List.set_cons_zero, List.set_cons_succ]
    refine wpAnyH_take (i := 18) (oi := { dst := some 74, op := Op.pick (Operand.tmp 70) (Operand.tmp 73) (Operand.const (Value.bool false)), type := 4, pos := "ref.go:89", after := #[{ on := 14, ground := Ground.data }, { on := 17, ground := Ground.data }, { on := 19, ground := Ground.gcOnly Departure.lateStores }], guard := none }) (v := ?_) rfl (by kernel_rfl) (by kernel_rfl) (by kernel_rfl) (fun _ _ _ h => h) (Or.inl ⟨by rfl, ?_⟩) (by assumption) ?_
    rotate_left 1
    · intro w hSw; (try dsimp only at hSw); go_simp; try (with_reducible rfl)
    try simp only [Act.put, List.setIfInBounds_toArray, List.set_cons_zero, List.set_cons_succ]
    obtain ⟨f0, f1, f2, f3, f4, f5⟩ := Q.out.2.2.free
    obtain ⟨z0, z1, z2, z3, z4, z5⟩ := Q.out.2.2.cells
    refine wpAnyH_ready (rs := [19]) (by kernel_rfl) (by simp) ?_
    refine AllReadyH.cons (o := { dst := none, op := Op.store 26 (Operand.tmp 2) (Operand.tmp 56), type := 0, pos := "ref.go:89", after := #[{ on := 0, ground := Ground.data }, { on := 14, ground := Ground.chain }, { on := 0, ground := Ground.phase }, { on := 1, ground := Ground.textOnly Departure.lateStores }, { on := 2, ground := Ground.textOnly Departure.lateStores }, { on := 3, ground := Ground.textOnly Departure.lateStores }, { on := 4, ground := Ground.textOnly Departure.lateStores }, { on := 5, ground := Ground.textOnly Departure.lateStores }, { on := 6, ground := Ground.textOnly Departure.lateStores }, { on := 7, ground := Ground.textOnly Departure.lateStores }, { on := 8, ground := Ground.textOnly Departure.lateStores }, { on := 9, ground := Ground.textOnly Departure.lateStores }, { on := 10, ground := Ground.textOnly Departure.lateStores }, { on := 11, ground := Ground.textOnly Departure.lateStores }, { on := 12, ground := Ground.textOnly Departure.lateStores }, { on := 13, ground := Ground.textOnly Departure.lateStores }, { on := 14, ground := Ground.textOnly Departure.lateStores }, { on := 15, ground := Ground.textOnly Departure.lateStores }, { on := 16, ground := Ground.textOnly Departure.lateStores }, { on := 17, ground := Ground.textOnly Departure.lateStores }, { on := 18, ground := Ground.textOnly Departure.lateStores }], guard := none }) rfl (fun K hK => ?_) AllReadyH.nil
    go_simp
    replace PD := Lib.hid ((Q.out.set (⟨4, 0, true, false, false, 0⟩ : Wh)).after (Below.drew (Below.refl _ _)))
    clear f0 f1 f2 f3 f4 f5 z0 z1 z2 z3 z4 z5
    refine hK.out _ _ (H.out _ _ PD.out) (fun hHeld => ?_)
    clear hK K
    try simp only [Act.put, List.setIfInBounds_toArray, List.set_cons_zero, List.set_cons_succ]
    refine wpAnyH_take (i := 20) (oi := { dst := some 3, op := Op.assign (Operand.tmp 74), type := 4, pos := "ref.go:89", after := #[{ on := 18, ground := Ground.data }, { on := 19, ground := Ground.chain }, { on := 0, ground := Ground.phase }, { on := 1, ground := Ground.phase }, { on := 2, ground := Ground.phase }, { on := 3, ground := Ground.phase }, { on := 4, ground := Ground.phase }, { on := 5, ground := Ground.phase }, { on := 6, ground := Ground.phase }, { on := 7, ground := Ground.phase }, { on := 8, ground := Ground.phase }, { on := 9, ground := Ground.phase }, { on := 10, ground := Ground.phase }, { on := 11, ground := Ground.phase }, { on := 12, ground := Ground.phase }, { on := 13, ground := Ground.phase }, { on := 14, ground := Ground.phase }, { on := 15, ground := Ground.phase }, { on := 16, ground := Ground.phase }, { on := 17, ground := Ground.phase }, { on := 18, ground := Ground.phase }, { on := 19, ground := Ground.phase }], guard := none }) (v := ?_) rfl (by kernel_rfl) (by kernel_rfl) (by kernel_rfl) (fun _ _ _ h => h) (Or.inl ⟨by rfl, ?_⟩) (by assumption) ?_
    rotate_left 1
    · intro w hSw; (try dsimp only at hSw); go_simp; try (with_reducible rfl)
    try simp only [Act.put, List.setIfInBounds_toArray, List.set_cons_zero, List.set_cons_succ]
    refine wpAnyH_done (by kernel_rfl) ?_ _
    have BB := Lib.hid PD.out.1
    obtain ⟨z0, z1, z2, z3, z4, z5⟩ := PD.out.2.2.cells
    clear H PD
    go_wp2_with fail
    exact bodyPost_ret (v := .tuple #[whV (⟨4, 0, true, false, false, 0⟩ : Wh), .bool false]) (by simp [results, Try.results59, go_sem, z0, z1, z2, z3, z4, z5]) rfl ⟨rfl, BB.out⟩

set_option maxRecDepth 100000 in
set_option maxHeartbeats 8000000 in
theorem r7_table_yes (dst src off imm : Int) (hs : (src == 0) = false) (hd : (dst != 10) = true) (h1 : (off == 0) = true) (h2 : (src == 1) = true) (h3 : 0 ≤ imm) (w : World) (b : Bool) :
    Calls Try.prog 59 #[iV (⟨24, dst, src, off, imm⟩ : Ins)] w (Gives (.tuple #[whV (⟨4, 0, true, false, false, 0⟩ : Wh), .bool true]) w) := by
  have P := Lib.hid (IDuo.new (⟨24, dst, src, off, imm⟩ : Ins) Wh.zero w)
  go_enter Try.func59, Try.ntmps59
  go_upto_region 1 with fail
  go_cut [6] (fun s wx => s = .int .u8 24 ∧ Hid (IDuo (⟨24, dst, src, off, imm⟩ : Ins) Wh.zero w wx))
  case first =>
    go_wp2_with fail
    go_meet
    exact ⟨rfl, P⟩
  case rest =>
    obtain ⟨rfl, Q⟩ := hcut
    clear P
    obtain ⟨p0, p1, p2, p3, p4⟩ := Q.out.2.1.cells
    go_upto_region 10 with fail
    clear p0 p1 p2 p3 p4
    have PD := Lib.hid (Q.out.after (Below.drew (Below.refl _ _)))
    have H : Hid (∀ v wx, IDuo (⟨24, dst, src, off, imm⟩ : Ins) v w wx → wx.cell? ⟨w.heap.size, 0, none⟩ = some (.int .u8 24) ∧ wx.cell? ⟨w.heap.size, 1, none⟩ = some (.int .u8 dst) ∧ wx.cell? ⟨w.heap.size, 2, none⟩ = some (.int .u8 src) ∧ wx.cell? ⟨w.heap.size, 3, none⟩ = some (.int .i16 off) ∧ wx.cell? ⟨w.heap.size, 4, none⟩ = some (.int .i32 imm)) := Lib.hid fun v wx hx => hx.2.1.cells
    refine wp_region_held_drew (S := (fun w' => w'.cell? ⟨w.heap.size, 0, none⟩ = some (.int .u8 24) ∧ w'.cell? ⟨w.heap.size, 1, none⟩ = some (.int .u8 dst) ∧ w'.cell? ⟨w.heap.size, 2, none⟩ = some (.int .u8 src) ∧ w'.cell? ⟨w.heap.size, 3, none⟩ = some (.int .i16 off) ∧ w'.cell? ⟨w.heap.size, 4, none⟩ = some (.int .i32 imm))) (by kernel_rfl) (H.out _ _ PD.out) (fun hHeld => ?_)
    refine wpAnyH_take (i := 0) (oi := { dst := some 56, op := Op.build 26 #[(0, Operand.const (Value.int IntKind.u8 4)), (2, Operand.const (Value.bool true))], type := 26, pos := "ref.go:89", after := #[], guard := none }) (v := ?_) rfl (by kernel_rfl) (by kernel_rfl) (by kernel_rfl) (fun _ _ _ h => h) (Or.inl ⟨by rfl, ?_⟩) (by assumption) ?_
    rotate_left 1
    · intro w hSw; (try dsimp only at hSw); go_simp; try (with_reducible rfl)
    try simp only [Act.put, List.setIfInBounds_toArray, List.set_cons_zero, List.set_cons_succ]
    refine wpAnyH_take (i := 1) (oi := { dst := some 57, op := Op.fieldAddr 24 (Operand.tmp 1) 1, type := 0, pos := "ref.go:89", after := #[], guard := none }) (v := ?_) rfl (by kernel_rfl) (by kernel_rfl) (by kernel_rfl) (fun _ _ _ h => h) (Or.inl ⟨by rfl, ?_⟩) (by assumption) ?_
    rotate_left 1
    · intro w hSw; (try dsimp only at hSw); go_simp; try (with_reducible rfl)
    try simp only [Act.put, List.setIfInBounds_toArray, List.set_cons_zero, List.set_cons_succ]
    refine wpAnyH_take (i := 2) (oi := { dst := some 58, op := Op.load 5 (Operand.tmp 57), type := 5, pos := "ref.go:89", after := #[{ on := 1, ground := Ground.data }], guard := none }) (v := ?_) rfl (by kernel_rfl) (by kernel_rfl) (by kernel_rfl) (fun _ _ _ h => h) (Or.inl ⟨by rfl, ?_⟩) (by assumption) ?_
    rotate_left 1
    · intro w hSw; (try dsimp only at hSw); go_simp; try (with_reducible rfl)
    try simp only [Act.put, List.setIfInBounds_toArray, List.set_cons_zero, List.set_cons_succ]
    refine wpAnyH_take (i := 3) (oi := { dst := some 59, op := Op.binOp BinOp.neq 5 (Operand.tmp 58) (Operand.const (Value.int IntKind.u8 10)) 5, type := 4, pos := "ref.go:89", after := #[{ on := 2, ground := Ground.data }], guard := none }) (v := ?_) rfl (by kernel_rfl) (by kernel_rfl) (by kernel_rfl) (fun _ _ _ h => h) (Or.inl ⟨by rfl, ?_⟩) (by assumption) ?_
    rotate_left 1
    · intro w hSw; (try dsimp only at hSw); go_simp; try (with_reducible rfl)
    try simp only [Act.put, List.setIfInBounds_toArray, List.set_cons_zero, List.set_cons_succ]
    refine wpAnyH_take (i := 4) (oi := { dst := some 60, op := Op.move (Operand.tmp 59), type := 4, pos := "ref.go:89", after := #[{ on := 3, ground := Ground.data }], guard := none }) (v := ?_) rfl (by kernel_rfl) (by kernel_rfl) (by kernel_rfl) (fun _ _ _ h => h) (Or.inl ⟨by rfl, ?_⟩) (by assumption) ?_
    rotate_left 1
    · intro w hSw; (try dsimp only at hSw); go_simp; try (with_reducible rfl)
    try simp only [Act.put, List.setIfInBounds_toArray, List.set_cons_zero, List.set_cons_succ]
    refine wpAnyH_take (i := 5) (oi := { dst := some 61, op := Op.fieldAddr 24 (Operand.tmp 1) 3, type := 0, pos := "ref.go:89", after := #[{ on := 4, ground := Ground.guard }], guard := some (4, true) }) (v := ?_) rfl (by kernel_rfl) (by kernel_rfl) (by kernel_rfl) (fun _ _ _ h => h) (Or.inl ⟨by rfl, ?_⟩) (by assumption) ?_
    rotate_left 1
    · intro w hSw; (try dsimp only at hSw); go_simp; try (with_reducible rfl)
    try simp only [Act.put, List.setIfInBounds_toArray, List.set_cons_zero, List.set_cons_succ]
    refine wpAnyH_take (i := 6) (oi := { dst := some 62, op := Op.load 22 (Operand.tmp 61), type := 22, pos := "ref.go:89", after := #[{ on := 5, ground := Ground.data }, { on := 4, ground := Ground.guard }], guard := some (4, true) }) (v := ?_) rfl (by kernel_rfl) (by kernel_rfl) (by kernel_rfl) (fun _ _ _ h => h) (Or.inl ⟨by rfl, ?_⟩) (by assumption) ?_
    rotate_left 1
    · intro w hSw; (try dsimp only at hSw); go_simp; try (with_reducible rfl)
    try simp only [Act.put, List.setIfInBounds_toArray, List.set_cons_zero, List.set_cons_succ]
    refine wpAnyH_take (i := 7) (oi := { dst := some 63, op := Op.binOp BinOp.eql 22 (Operand.tmp 62) (Operand.const (Value.int IntKind.i16 0)) 22, type := 4, pos := "ref.go:89", after := #[{ on := 6, ground := Ground.data }, { on := 4, ground := Ground.guard }], guard := some (4, true) }) (v := ?_) rfl (by kernel_rfl) (by kernel_rfl) (by kernel_rfl) (fun _ _ _ h => h) (Or.inl ⟨by rfl, ?_⟩) (by assumption) ?_
    rotate_left 1
    · intro w hSw; (try dsimp only at hSw); go_simp; try (with_reducible rfl)
    try simp only [Act.put, List.setIfInBounds_toArray, List.set_cons_zero, List.set_cons_succ]
    refine wpAnyH_take (i := 8) (oi := { dst := some 64, op := Op.pick (Operand.tmp 60) (Operand.tmp 63) (Operand.const (Value.bool false)), type := 4, pos := "ref.go:89", after := #[{ on := 4, ground := Ground.data }, { on := 7, ground := Ground.data }], guard := none }) (v := ?_) rfl (by kernel_rfl) (by kernel_rfl) (by kernel_rfl) (fun _ _ _ h => h) (Or.inl ⟨by rfl, ?_⟩) (by assumption) ?_
    rotate_left 1
    · intro w hSw; (try dsimp only at hSw); go_simp; try (with_reducible rfl)
    try simp only [Act.put, List.setIfInBounds_toArray, List.set_cons_zero, List.set_cons_succ]
    refine wpAnyH_take (i := 9) (oi := { dst := some 65, op := Op.move (Operand.tmp 64), type := 4, pos := "ref.go:89", after := #[{ on := 8, ground := Ground.data }, { on := 4, ground := Ground.chain }], guard := none }) (v := ?_) rfl (by kernel_rfl) (by kernel_rfl) (by kernel_rfl) (fun _ _ _ h => h) (Or.inl ⟨by rfl, ?_⟩) (by assumption) ?_
    rotate_left 1
    · intro w hSw; (try dsimp only at hSw); go_simp; try (with_reducible rfl)
    try simp only [Act.put, List.setIfInBounds_toArray, List.set_cons_zero, List.set_cons_succ]
    refine wpAnyH_take (i := 10) (oi := { dst := some 66, op := Op.fieldAddr 24 (Operand.tmp 1) 2, type := 0, pos := "ref.go:89", after := #[{ on := 9, ground := Ground.guard }], guard := some (9, true) }) (v := ?_) rfl (by kernel_rfl) (by kernel_rfl) (by kernel_rfl) (fun _ _ _ h => h) (Or.inl ⟨by rfl, ?_⟩) (by assumption) ?_
    rotate_left 1
    · intro w hSw; (try dsimp only at hSw); go_simp; try (with_reducible rfl)
    try simp only [Act.put, List.setIfInBounds_toArray, List.set_cons_zero, List.set_cons_succ]
    refine wpAnyH_take (i := 11) (oi := { dst := some 67, op := Op.load 5 (Operand.tmp 66), type := 5, pos := "ref.go:89", after := #[{ on := 10, ground := Ground.data }, { on := 9, ground := Ground.guard }], guard := some (9, true) }) (v := ?_) rfl (by kernel_rfl) (by kernel_rfl) (by kernel_rfl) (fun _ _ _ h => h) (Or.inl ⟨by rfl, ?_⟩) (by assumption) ?_
    rotate_left 1
    · intro w hSw; (try dsimp only at hSw); go_simp; try (with_reducible rfl)
    try simp only [Act.put, List.setIfInBounds_toArray, List.set_cons_zero, List.set_cons_succ]
    refine wpAnyH_take (i := 12) (oi := { dst := some 68, op := Op.binOp BinOp.eql 5 (Operand.tmp 67) (Operand.const (Value.int IntKind.u8 1)) 5, type := 4, pos := "ref.go:89", after := #[{ on := 11, ground := Ground.data }, { on := 9, ground := Ground.guard }], guard := some (9, true) }) (v := ?_) rfl (by kernel_rfl) (by kernel_rfl) (by kernel_rfl) (fun _ _ _ h => h) (Or.inl ⟨by rfl, ?_⟩) (by assumption) ?_
    rotate_left 1
    · intro w hSw; (try dsimp only at hSw); go_simp; try (with_reducible rfl)
    try simp only [Act.put, List.setIfInBounds_toArray, List.set_cons_zero, List.set_cons_succ]
    refine wpAnyH_take (i := 13) (oi := { dst := some 69, op := Op.pick (Operand.tmp 65) (Operand.tmp 68) (Operand.const (Value.bool false)), type := 4, pos := "ref.go:89", after := #[{ on := 9, ground := Ground.data }, { on := 12, ground := Ground.data }], guard := none }) (v := ?_) rfl (by kernel_rfl) (by kernel_rfl) (by kernel_rfl) (fun _ _ _ h => h) (Or.inl ⟨by rfl, ?_⟩) (by assumption) ?_
    rotate_left 1
    · intro w hSw; (try dsimp only at hSw); go_simp; try (with_reducible rfl)
    try simp only [Act.put, List.setIfInBounds_toArray, List.set_cons_zero, List.set_cons_succ]
    refine wpAnyH_take (i := 14) (oi := { dst := some 70, op := Op.move (Operand.tmp 69), type := 4, pos := "ref.go:89", after := #[{ on := 13, ground := Ground.data }, { on := 9, ground := Ground.chain }], guard := none }) (v := ?_) rfl (by kernel_rfl) (by kernel_rfl) (by kernel_rfl) (fun _ _ _ h => h) (Or.inl ⟨by rfl, ?_⟩) (by assumption) ?_
    rotate_left 1
    · intro w hSw; (try dsimp only at hSw); go_simp; try (with_reducible rfl)
    try simp only [Act.put, List.setIfInBounds_toArray, List.set_cons_zero, List.set_cons_succ]
    refine wpAnyH_take (i := 15) (oi := { dst := some 71, op := Op.fieldAddr 24 (Operand.tmp 1) 4, type := 0, pos := "ref.go:89", after := #[{ on := 14, ground := Ground.guard }, { on := 19, ground := Ground.gcOnly Departure.lateStores }], guard := some (14, true) }) (v := ?_) rfl (by kernel_rfl) (by kernel_rfl) (by kernel_rfl) (fun _ _ _ h => h) (Or.inl ⟨by rfl, ?_⟩) (by assumption) ?_
    rotate_left 1
    · intro w hSw; (try dsimp only at hSw); go_simp; try (with_reducible rfl)
    try simp only [Act.put, List.setIfInBounds_toArray, List.set_cons_zero, List.set_cons_succ]
    refine wpAnyH_take (i := 16) (oi := { dst := some 72, op := Op.load 21 (Operand.tmp 71), type := 21, pos := "ref.go:89", after := #[{ on := 15, ground := Ground.data }, { on := 14, ground := Ground.guard }, { on := 19, ground := Ground.gcOnly Departure.lateStores }], guard := some (14, true) }) (v := ?_) rfl (by kernel_rfl) (by kernel_rfl) (by kernel_rfl) (fun _ _ _ h => h) (Or.inl ⟨by rfl, ?_⟩) (by assumption) ?_
    rotate_left 1
    · intro w hSw; (try dsimp only at hSw); go_simp; try (with_reducible rfl)
    try simp only [Act.put, List.setIfInBounds_toArray, List.set_cons_zero, List.set_cons_succ]
    refine wpAnyH_take (i := 17) (oi := { dst := some 73, op := Op.binOp BinOp.geq 21 (Operand.tmp 72) (Operand.const (Value.int IntKind.i32 0)) 21, type := 4, pos := "ref.go:89", after := #[{ on := 16, ground := Ground.data }, { on := 14, ground := Ground.guard }, { on := 19, ground := Ground.gcOnly Departure.lateStores }], guard := some (14, true) }) (v := ?_) rfl (by kernel_rfl) (by kernel_rfl) (by kernel_rfl) (fun _ _ _ h => h) (Or.inl ⟨by rfl, ?_⟩) (by assumption) ?_
    rotate_left 1
    · intro w hSw; (try dsimp only at hSw); go_simp; try (with_reducible rfl)
    try simp only [Act.put, List.setIfInBounds_toArray, List.set_cons_zero, List.set_cons_succ]
    refine wpAnyH_take (i := 18) (oi := { dst := some 74, op := Op.pick (Operand.tmp 70) (Operand.tmp 73) (Operand.const (Value.bool false)), type := 4, pos := "ref.go:89", after := #[{ on := 14, ground := Ground.data }, { on := 17, ground := Ground.data }, { on := 19, ground := Ground.gcOnly Departure.lateStores }], guard := none }) (v := ?_) rfl (by kernel_rfl) (by kernel_rfl) (by kernel_rfl) (fun _ _ _ h => h) (Or.inl ⟨by rfl, ?_⟩) (by assumption) ?_
    rotate_left 1
    · intro w hSw; (try dsimp only at hSw); go_simp; try (with_reducible rfl)
    try simp only [Act.put, List.setIfInBounds_toArray, List.set_cons_zero, List.set_cons_succ]
    obtain ⟨f0, f1, f2, f3, f4, f5⟩ := Q.out.2.2.free
    obtain ⟨z0, z1, z2, z3, z4, z5⟩ := Q.out.2.2.cells
    refine wpAnyH_ready (rs := [19]) (by kernel_rfl) (by simp) ?_
    refine AllReadyH.cons (o := { dst := none, op := Op.store 26 (Operand.tmp 2) (Operand.tmp 56), type := 0, pos := "ref.go:89", after := #[{ on := 0, ground := Ground.data }, { on := 14, ground := Ground.chain }, { on := 0, ground := Ground.phase }, { on := 1, ground := Ground.textOnly Departure.lateStores }, { on := 2, ground := Ground.textOnly Departure.lateStores }, { on := 3, ground := Ground.textOnly Departure.lateStores }, { on := 4, ground := Ground.textOnly Departure.lateStores }, { on := 5, ground := Ground.textOnly Departure.lateStores }, { on := 6, ground := Ground.textOnly Departure.lateStores }, { on := 7, ground := Ground.textOnly Departure.lateStores }, { on := 8, ground := Ground.textOnly Departure.lateStores }, { on := 9, ground := Ground.textOnly Departure.lateStores }, { on := 10, ground := Ground.textOnly Departure.lateStores }, { on := 11, ground := Ground.textOnly Departure.lateStores }, { on := 12, ground := Ground.textOnly Departure.lateStores }, { on := 13, ground := Ground.textOnly Departure.lateStores }, { on := 14, ground := Ground.textOnly Departure.lateStores }, { on := 15, ground := Ground.textOnly Departure.lateStores }, { on := 16, ground := Ground.textOnly Departure.lateStores }, { on := 17, ground := Ground.textOnly Departure.lateStores }, { on := 18, ground := Ground.textOnly Departure.lateStores }], guard := none }) rfl (fun K hK => ?_) AllReadyH.nil
    go_simp
    replace PD := Lib.hid ((Q.out.set (⟨4, 0, true, false, false, 0⟩ : Wh)).after (Below.drew (Below.refl _ _)))
    clear f0 f1 f2 f3 f4 f5 z0 z1 z2 z3 z4 z5
    refine hK.out _ _ (H.out _ _ PD.out) (fun hHeld => ?_)
    clear hK K
    try simp only [Act.put, List.setIfInBounds_toArray, List.set_cons_zero, List.set_cons_succ]
    refine wpAnyH_take (i := 20) (oi := { dst := some 3, op := Op.assign (Operand.tmp 74), type := 4, pos := "ref.go:89", after := #[{ on := 18, ground := Ground.data }, { on := 19, ground := Ground.chain }, { on := 0, ground := Ground.phase }, { on := 1, ground := Ground.phase }, { on := 2, ground := Ground.phase }, { on := 3, ground := Ground.phase }, { on := 4, ground := Ground.phase }, { on := 5, ground := Ground.phase }, { on := 6, ground := Ground.phase }, { on := 7, ground := Ground.phase }, { on := 8, ground := Ground.phase }, { on := 9, ground := Ground.phase }, { on := 10, ground := Ground.phase }, { on := 11, ground := Ground.phase }, { on := 12, ground := Ground.phase }, { on := 13, ground := Ground.phase }, { on := 14, ground := Ground.phase }, { on := 15, ground := Ground.phase }, { on := 16, ground := Ground.phase }, { on := 17, ground := Ground.phase }, { on := 18, ground := Ground.phase }, { on := 19, ground := Ground.phase }], guard := none }) (v := ?_) rfl (by kernel_rfl) (by kernel_rfl) (by kernel_rfl) (fun _ _ _ h => h) (Or.inl ⟨by rfl, ?_⟩) (by assumption) ?_
    rotate_left 1
    · intro w hSw; (try dsimp only at hSw); go_simp; try (with_reducible rfl)
    try simp only [Act.put, List.setIfInBounds_toArray, List.set_cons_zero, List.set_cons_succ]
    refine wpAnyH_done (by kernel_rfl) ?_ _
    have BB := Lib.hid PD.out.1
    obtain ⟨z0, z1, z2, z3, z4, z5⟩ := PD.out.2.2.cells
    clear H PD
    go_wp2_with fail
    exact bodyPost_ret (v := .tuple #[whV (⟨4, 0, true, false, false, 0⟩ : Wh), .bool true]) (by simp [results, Try.results59, go_sem, z0, z1, z2, z3, z4, z5]) rfl ⟨rfl, BB.out⟩

end Go.Proofs.Ytplndcjmbgkcjaa
