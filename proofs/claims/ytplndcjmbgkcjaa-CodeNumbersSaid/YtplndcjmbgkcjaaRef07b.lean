/-
  The document's own answers of layer 7: arithmetic.
  Conditions: the numbers fit their kinds.
-/
import Derived.Test.YtplndcjmbgkcjaaWhBox
import Derived.Test.YtplndcjmbgkcjaaRef07a
import Derived.Deep.RegionHeld3
import Derived.Deep.DeepCutAuto
import Derived.Deep.CutBlock
namespace Go.Proofs.Ytplndcjmbgkcjaa
open Go.RowKit
set_option linter.unusedVariables false

set_option maxRecDepth 100000 in
set_option maxHeartbeats 8000000 in
theorem r7_arith_dst (x : Ins) (hx : x.ok) (h : (x.dst == 10) = true) (w : World) : Calls Try.prog 60 #[iV x] w (Gives (.tuple #[whV Wh.zero, .bool false]) w) := by
  obtain ⟨⟨o1, o2⟩, _⟩ := hx
  have P := Lib.hid (ITri.new x Wh.zero (arW x) w)
  go_enter Try.func60, Try.ntmps60
  go_wp2_with fail
  exact bodyPost_ret (v := .tuple #[whV Wh.zero, .bool false]) (by simp [results, Try.results60, go_sem, Wh.zero]) rfl ⟨rfl, P.out.1⟩

set_option maxRecDepth 100000 in
set_option maxHeartbeats 8000000 in
theorem r7_arith_neg (x : Ins) (hx : x.ok) (h : (x.dst == 10) = false) (hn : (x.op / 16 * 16 == 128) = true) (u : Wh) (hu : arW x = u) (w : World) (b : Bool)
    (C : Hid (∀ w, Calls Try.prog 61 #[iV x, .bool false, .bool false, .bool false] w (Gives (.bool b) w))) :
    Calls Try.prog 60 #[iV x] w (Gives (.tuple #[whV u, .bool (!u.reg && b)]) w) := by
  obtain ⟨⟨o1, o2⟩, _⟩ := hx
  have P := Lib.hid (ITri.new x Wh.zero (arW x) w)
  have HU := Lib.hid hu
  clear hu
  go_enter Try.func60, Try.ntmps60
  go_upto_region 4 with fail
  go_cut [27] (fun s wx => s = .bool true ∧ Hid (ITri x Wh.zero (arW x) w wx))
  case first =>
    go_wp2_with fail
    go_meet
    exact ⟨rfl, P⟩
  case rest =>
    obtain ⟨rfl, Q⟩ := hcut
    rw [HU.out] at Q
    clear P HU
    generalize wc = w4 at *
    rcases u with ⟨ki, op, wi, re, si, sz⟩
    cases re
    · have PD := Lib.hid (Q.out.after (Below.drew (Below.refl _ _)))
      have H : Hid (∀ v wx, ITri x v (⟨ki, op, wi, false, si, sz⟩ : Wh) w wx → (wx.cell? ⟨w.heap.size, 0, none⟩ = some (.int .u8 x.op) ∧ wx.cell? ⟨w.heap.size, 1, none⟩ = some (.int .u8 x.dst) ∧ wx.cell? ⟨w.heap.size, 2, none⟩ = some (.int .u8 x.src) ∧ wx.cell? ⟨w.heap.size, 3, none⟩ = some (.int .i16 x.off) ∧ wx.cell? ⟨w.heap.size, 4, none⟩ = some (.int .i32 x.imm)) ∧ (wx.cell? ⟨(w.heap.size + 1 + 1), 0, none⟩ = some (.int .u8 (⟨ki, op, wi, false, si, sz⟩ : Wh).kind) ∧ wx.cell? ⟨(w.heap.size + 1 + 1), 1, none⟩ = some (.int .u8 (⟨ki, op, wi, false, si, sz⟩ : Wh).op) ∧ wx.cell? ⟨(w.heap.size + 1 + 1), 2, none⟩ = some (.bool (⟨ki, op, wi, false, si, sz⟩ : Wh).wide) ∧ wx.cell? ⟨(w.heap.size + 1 + 1), 3, none⟩ = some (.bool (⟨ki, op, wi, false, si, sz⟩ : Wh).reg) ∧ wx.cell? ⟨(w.heap.size + 1 + 1), 4, none⟩ = some (.bool (⟨ki, op, wi, false, si, sz⟩ : Wh).signed) ∧ wx.cell? ⟨(w.heap.size + 1 + 1), 5, none⟩ = some (.int .i64 (⟨ki, op, wi, false, si, sz⟩ : Wh).size))) := Lib.hid fun v wx hx => ⟨hx.2.1.cells, hx.2.2.2.cells⟩
      go_upto_region 5 with fail
      refine wp_region_held_drew (S := (fun w' => (w'.cell? ⟨w.heap.size, 0, none⟩ = some (.int .u8 x.op) ∧ w'.cell? ⟨w.heap.size, 1, none⟩ = some (.int .u8 x.dst) ∧ w'.cell? ⟨w.heap.size, 2, none⟩ = some (.int .u8 x.src) ∧ w'.cell? ⟨w.heap.size, 3, none⟩ = some (.int .i16 x.off) ∧ w'.cell? ⟨w.heap.size, 4, none⟩ = some (.int .i32 x.imm)) ∧ (w'.cell? ⟨(w.heap.size + 1 + 1), 0, none⟩ = some (.int .u8 (⟨ki, op, wi, false, si, sz⟩ : Wh).kind) ∧ w'.cell? ⟨(w.heap.size + 1 + 1), 1, none⟩ = some (.int .u8 (⟨ki, op, wi, false, si, sz⟩ : Wh).op) ∧ w'.cell? ⟨(w.heap.size + 1 + 1), 2, none⟩ = some (.bool (⟨ki, op, wi, false, si, sz⟩ : Wh).wide) ∧ w'.cell? ⟨(w.heap.size + 1 + 1), 3, none⟩ = some (.bool (⟨ki, op, wi, false, si, sz⟩ : Wh).reg) ∧ w'.cell? ⟨(w.heap.size + 1 + 1), 4, none⟩ = some (.bool (⟨ki, op, wi, false, si, sz⟩ : Wh).signed) ∧ w'.cell? ⟨(w.heap.size + 1 + 1), 5, none⟩ = some (.int .i64 (⟨ki, op, wi, false, si, sz⟩ : Wh).size)))) (by kernel_rfl) (H.out _ _ PD.out) (fun hHeld => ?_)
      refine wpAnyH_take (i := 0) (oi := { dst := some 28, op := Op.load 26 (Operand.tmp 4), type := 26, pos := "ref.go:31", after := #[], guard := none }) (v := ?_) rfl (by kernel_rfl) (by kernel_rfl) (by kernel_rfl) (fun _ _ _ h => h) (Or.inl ⟨by rfl, ?_⟩) (by assumption) ?_
      rotate_left 1
      · intro w hSw; (try dsimp only at hSw); go_simp; try (with_reducible rfl)
      try simp only [Act.put, List.setIfInBounds_toArray, List.set_cons_zero, List.set_cons_succ]
      refine wpAnyH_take (i := 1) (oi := { dst := some 29, op := Op.fieldAddr 26 (Operand.tmp 4) 3, type := 0, pos := "ref.go:31", after := #[], guard := none }) (v := ?_) rfl (by kernel_rfl) (by kernel_rfl) (by kernel_rfl) (fun _ _ _ h => h) (Or.inl ⟨by rfl, ?_⟩) (by assumption) ?_
      rotate_left 1
      · intro w hSw; (try dsimp only at hSw); go_simp; try (with_reducible rfl)
      try simp only [Act.put, List.setIfInBounds_toArray, List.set_cons_zero, List.set_cons_succ]
      refine wpAnyH_take (i := 2) (oi := { dst := some 30, op := Op.load 4 (Operand.tmp 29), type := 4, pos := "ref.go:31", after := #[{ on := 1, ground := Ground.data }], guard := none }) (v := ?_) rfl (by kernel_rfl) (by kernel_rfl) (by kernel_rfl) (fun _ _ _ h => h) (Or.inl ⟨by rfl, ?_⟩) (by assumption) ?_
      rotate_left 1
      · intro w hSw; (try dsimp only at hSw); go_simp; try (with_reducible rfl)
      try simp only [Act.put, List.setIfInBounds_toArray, List.set_cons_zero, List.set_cons_succ]
      refine wpAnyH_take (i := 3) (oi := { dst := some 31, op := Op.unOp UnOp.not 4 (Operand.tmp 30), type := 4, pos := "ref.go:31", after := #[{ on := 2, ground := Ground.data }], guard := none }) (v := ?_) rfl (by kernel_rfl) (by kernel_rfl) (by kernel_rfl) (fun _ _ _ h => h) (Or.inl ⟨by rfl, ?_⟩) (by assumption) ?_
      rotate_left 1
      · intro w hSw; (try dsimp only at hSw); go_simp; try (with_reducible rfl)
      try simp only [Act.put, List.setIfInBounds_toArray, List.set_cons_zero, List.set_cons_succ]
      refine wpAnyH_take (i := 4) (oi := { dst := some 32, op := Op.move (Operand.tmp 31), type := 4, pos := "ref.go:31", after := #[{ on := 3, ground := Ground.data }], guard := none }) (v := ?_) rfl (by kernel_rfl) (by kernel_rfl) (by kernel_rfl) (fun _ _ _ h => h) (Or.inl ⟨by rfl, ?_⟩) (by assumption) ?_
      rotate_left 1
      · intro w hSw; (try dsimp only at hSw); go_simp; try (with_reducible rfl)
      try simp only [Act.put, List.setIfInBounds_toArray, List.set_cons_zero, List.set_cons_succ]
      refine wpAnyH_take (i := 5) (oi := { dst := some 33, op := Op.load 24 (Operand.tmp 1), type := 24, pos := "ref.go:31", after := #[{ on := 4, ground := Ground.guard }], guard := some (4, true) }) (v := ?_) rfl (by kernel_rfl) (by kernel_rfl) (by kernel_rfl) (fun _ _ _ h => h) (Or.inl ⟨by rfl, ?_⟩) (by assumption) ?_
      rotate_left 1
      · intro w hSw; (try dsimp only at hSw); go_simp; try (with_reducible rfl)
      try simp only [Act.put, List.setIfInBounds_toArray, List.set_cons_zero, List.set_cons_succ]
      refine wpAnyH_ready (rs := [6]) (by kernel_rfl) (by simp) ?_
      refine AllReadyH.cons (o := { dst := some 34, op := Op.call { callee := Callee.value (Operand.func 61), args := #[Operand.tmp 33, Operand.const (Value.bool false), Operand.const (Value.bool false), Operand.const (Value.bool false)], argTypes := #[24, 4, 4, 4] }, type := 4, pos := "ref.go:31", after := #[{ on := 5, ground := Ground.data }, { on := 4, ground := Ground.chain }, { on := 4, ground := Ground.guard }], guard := some (4, true) }) rfl (fun K hK => ?_) AllReadyH.nil
      go_simp
      refine (C.out _).mono ?_; rintro e w5 ⟨rfl, hb⟩
      replace PD := Lib.hid (PD.out.after hb)
      clear hb
      go_wp2_with fail
      refine hK.out _ _ (H.out _ _ PD.out) (fun hHeld => ?_)
      clear hK K
      try simp only [Act.put, List.setIfInBounds_toArray, List.set_cons_zero, List.set_cons_succ]
      refine wpAnyH_take (i := 7) (oi := { dst := some 35, op := Op.pick (Operand.tmp 32) (Operand.tmp 34) (Operand.const (Value.bool false)), type := 4, pos := "ref.go:31", after := #[{ on := 4, ground := Ground.data }, { on := 6, ground := Ground.data }, { on := 8, ground := Ground.gcOnly Departure.lateStores }], guard := none }) (v := ?_) rfl (by kernel_rfl) (by kernel_rfl) (by kernel_rfl) (fun _ _ _ h => h) (Or.inl ⟨by rfl, ?_⟩) (by assumption) ?_
      rotate_left 1
      · intro w hSw; (try dsimp only at hSw); go_simp; try (with_reducible rfl)
      try simp only [Act.put, List.setIfInBounds_toArray, List.set_cons_zero, List.set_cons_succ]
      obtain ⟨f0, f1, f2, f3, f4, f5⟩ := PD.out.2.2.1.free
      obtain ⟨z0, z1, z2, z3, z4, z5⟩ := PD.out.2.2.1.cells
      refine wpAnyH_ready (rs := [8]) (by kernel_rfl) (by simp) ?_
      refine AllReadyH.cons (o := { dst := none, op := Op.store 26 (Operand.tmp 2) (Operand.tmp 28), type := 0, pos := "ref.go:31", after := #[{ on := 0, ground := Ground.data }, { on := 6, ground := Ground.chain }, { on := 0, ground := Ground.phase }, { on := 1, ground := Ground.textOnly Departure.lateStores }, { on := 2, ground := Ground.textOnly Departure.lateStores }, { on := 3, ground := Ground.textOnly Departure.lateStores }, { on := 4, ground := Ground.textOnly Departure.lateStores }, { on := 5, ground := Ground.textOnly Departure.lateStores }, { on := 6, ground := Ground.textOnly Departure.lateStoresUnsure }, { on := 7, ground := Ground.textOnly Departure.lateStores }], guard := none }) rfl (fun K hK => ?_) AllReadyH.nil
      go_simp
      replace PD := Lib.hid (PD.out.set (⟨ki, op, wi, false, si, sz⟩ : Wh))
      clear f0 f1 f2 f3 f4 f5 z0 z1 z2 z3 z4 z5
      refine hK.out _ _ (H.out _ _ PD.out) (fun hHeld => ?_)
      clear hK K
      try simp only [Act.put, List.setIfInBounds_toArray, List.set_cons_zero, List.set_cons_succ]
      refine wpAnyH_take (i := 9) (oi := { dst := some 3, op := Op.assign (Operand.tmp 35), type := 4, pos := "ref.go:31", after := #[{ on := 7, ground := Ground.data }, { on := 8, ground := Ground.chain }, { on := 0, ground := Ground.phase }, { on := 1, ground := Ground.phase }, { on := 2, ground := Ground.phase }, { on := 3, ground := Ground.phase }, { on := 4, ground := Ground.phase }, { on := 5, ground := Ground.phase }, { on := 6, ground := Ground.phase }, { on := 7, ground := Ground.phase }, { on := 8, ground := Ground.phase }], guard := none }) (v := ?_) rfl (by kernel_rfl) (by kernel_rfl) (by kernel_rfl) (fun _ _ _ h => h) (Or.inl ⟨by rfl, ?_⟩) (by assumption) ?_
      rotate_left 1
      · intro w hSw; (try dsimp only at hSw); go_simp; try (with_reducible rfl)
      try simp only [Act.put, List.setIfInBounds_toArray, List.set_cons_zero, List.set_cons_succ]
      refine wpAnyH_done (by kernel_rfl) ?_ _
      have BB := Lib.hid PD.out.1
      obtain ⟨c0, c1, c2, c3, c4, c5⟩ := PD.out.2.2.1.cells
      clear H PD
      go_wp2_with fail
      exact bodyPost_ret (v := .tuple #[whV (⟨ki, op, wi, false, si, sz⟩ : Wh), .bool b]) (by simp [results, Try.results60, go_sem, c0, c1, c2, c3, c4, c5]) rfl ⟨rfl, BB.out⟩
    · have PD := Lib.hid (Q.out.after (Below.drew (Below.refl _ _)))
      have H : Hid (∀ v wx, ITri x v (⟨ki, op, wi, true, si, sz⟩ : Wh) w wx → (wx.cell? ⟨w.heap.size, 0, none⟩ = some (.int .u8 x.op) ∧ wx.cell? ⟨w.heap.size, 1, none⟩ = some (.int .u8 x.dst) ∧ wx.cell? ⟨w.heap.size, 2, none⟩ = some (.int .u8 x.src) ∧ wx.cell? ⟨w.heap.size, 3, none⟩ = some (.int .i16 x.off) ∧ wx.cell? ⟨w.heap.size, 4, none⟩ = some (.int .i32 x.imm)) ∧ (wx.cell? ⟨(w.heap.size + 1 + 1), 0, none⟩ = some (.int .u8 (⟨ki, op, wi, true, si, sz⟩ : Wh).kind) ∧ wx.cell? ⟨(w.heap.size + 1 + 1), 1, none⟩ = some (.int .u8 (⟨ki, op, wi, true, si, sz⟩ : Wh).op) ∧ wx.cell? ⟨(w.heap.size + 1 + 1), 2, none⟩ = some (.bool (⟨ki, op, wi, true, si, sz⟩ : Wh).wide) ∧ wx.cell? ⟨(w.heap.size + 1 + 1), 3, none⟩ = some (.bool (⟨ki, op, wi, true, si, sz⟩ : Wh).reg) ∧ wx.cell? ⟨(w.heap.size + 1 + 1), 4, none⟩ = some (.bool (⟨ki, op, wi, true, si, sz⟩ : Wh).signed) ∧ wx.cell? ⟨(w.heap.size + 1 + 1), 5, none⟩ = some (.int .i64 (⟨ki, op, wi, true, si, sz⟩ : Wh).size))) := Lib.hid fun v wx hx => ⟨hx.2.1.cells, hx.2.2.2.cells⟩
      go_upto_region 5 with fail
      refine wp_region_held_drew (S := (fun w' => (w'.cell? ⟨w.heap.size, 0, none⟩ = some (.int .u8 x.op) ∧ w'.cell? ⟨w.heap.size, 1, none⟩ = some (.int .u8 x.dst) ∧ w'.cell? ⟨w.heap.size, 2, none⟩ = some (.int .u8 x.src) ∧ w'.cell? ⟨w.heap.size, 3, none⟩ = some (.int .i16 x.off) ∧ w'.cell? ⟨w.heap.size, 4, none⟩ = some (.int .i32 x.imm)) ∧ (w'.cell? ⟨(w.heap.size + 1 + 1), 0, none⟩ = some (.int .u8 (⟨ki, op, wi, true, si, sz⟩ : Wh).kind) ∧ w'.cell? ⟨(w.heap.size + 1 + 1), 1, none⟩ = some (.int .u8 (⟨ki, op, wi, true, si, sz⟩ : Wh).op) ∧ w'.cell? ⟨(w.heap.size + 1 + 1), 2, none⟩ = some (.bool (⟨ki, op, wi, true, si, sz⟩ : Wh).wide) ∧ w'.cell? ⟨(w.heap.size + 1 + 1), 3, none⟩ = some (.bool (⟨ki, op, wi, true, si, sz⟩ : Wh).reg) ∧ w'.cell? ⟨(w.heap.size + 1 + 1), 4, none⟩ = some (.bool (⟨ki, op, wi, true, si, sz⟩ : Wh).signed) ∧ w'.cell? ⟨(w.heap.size + 1 + 1), 5, none⟩ = some (.int .i64 (⟨ki, op, wi, true, si, sz⟩ : Wh).size)))) (by kernel_rfl) (H.out _ _ PD.out) (fun hHeld => ?_)
      refine wpAnyH_take (i := 0) (oi := { dst := some 28, op := Op.load 26 (Operand.tmp 4), type := 26, pos := "ref.go:31", after := #[], guard := none }) (v := ?_) rfl (by kernel_rfl) (by kernel_rfl) (by kernel_rfl) (fun _ _ _ h => h) (Or.inl ⟨by rfl, ?_⟩) (by assumption) ?_
      rotate_left 1
      · intro w hSw; (try dsimp only at hSw); go_simp; try (with_reducible rfl)
      try simp only [Act.put, List.setIfInBounds_toArray, List.set_cons_zero, List.set_cons_succ]
      refine wpAnyH_take (i := 1) (oi := { dst := some 29, op := Op.fieldAddr 26 (Operand.tmp 4) 3, type := 0, pos := "ref.go:31", after := #[], guard := none }) (v := ?_) rfl (by kernel_rfl) (by kernel_rfl) (by kernel_rfl) (fun _ _ _ h => h) (Or.inl ⟨by rfl, ?_⟩) (by assumption) ?_
      rotate_left 1
      · intro w hSw; (try dsimp only at hSw); go_simp; try (with_reducible rfl)
      try simp only [Act.put, List.setIfInBounds_toArray, List.set_cons_zero, List.set_cons_succ]
      refine wpAnyH_take (i := 2) (oi := { dst := some 30, op := Op.load 4 (Operand.tmp 29), type := 4, pos := "ref.go:31", after := #[{ on := 1, ground := Ground.data }], guard := none }) (v := ?_) rfl (by kernel_rfl) (by kernel_rfl) (by kernel_rfl) (fun _ _ _ h => h) (Or.inl ⟨by rfl, ?_⟩) (by assumption) ?_
      rotate_left 1
      · intro w hSw; (try dsimp only at hSw); go_simp; try (with_reducible rfl)
      try simp only [Act.put, List.setIfInBounds_toArray, List.set_cons_zero, List.set_cons_succ]
      refine wpAnyH_take (i := 3) (oi := { dst := some 31, op := Op.unOp UnOp.not 4 (Operand.tmp 30), type := 4, pos := "ref.go:31", after := #[{ on := 2, ground := Ground.data }], guard := none }) (v := ?_) rfl (by kernel_rfl) (by kernel_rfl) (by kernel_rfl) (fun _ _ _ h => h) (Or.inl ⟨by rfl, ?_⟩) (by assumption) ?_
      rotate_left 1
      · intro w hSw; (try dsimp only at hSw); go_simp; try (with_reducible rfl)
      try simp only [Act.put, List.setIfInBounds_toArray, List.set_cons_zero, List.set_cons_succ]
      refine wpAnyH_take (i := 4) (oi := { dst := some 32, op := Op.move (Operand.tmp 31), type := 4, pos := "ref.go:31", after := #[{ on := 3, ground := Ground.data }], guard := none }) (v := ?_) rfl (by kernel_rfl) (by kernel_rfl) (by kernel_rfl) (fun _ _ _ h => h) (Or.inl ⟨by rfl, ?_⟩) (by assumption) ?_
      rotate_left 1
      · intro w hSw; (try dsimp only at hSw); go_simp; try (with_reducible rfl)
      try simp only [Act.put, List.setIfInBounds_toArray, List.set_cons_zero, List.set_cons_succ]
      refine wpAnyH_take (i := 5) (oi := { dst := some 33, op := Op.load 24 (Operand.tmp 1), type := 24, pos := "ref.go:31", after := #[{ on := 4, ground := Ground.guard }], guard := some (4, true) }) (v := undef) rfl (by kernel_rfl) (by kernel_rfl) (by kernel_rfl) (fun _ _ _ h => h) (Or.inr ⟨by rfl, rfl⟩) (by assumption) ?_
      try simp only [Act.put, List.setIfInBounds_toArray, List.set_cons_zero, List.set_cons_succ]
      refine wpAnyH_take (i := 6) (oi := { dst := some 34, op := Op.call { callee := Callee.value (Operand.func 61), args := #[Operand.tmp 33, Operand.const (Value.bool false), Operand.const (Value.bool false), Operand.const (Value.bool false)], argTypes := #[24, 4, 4, 4] }, type := 4, pos := "ref.go:31", after := #[{ on := 5, ground := Ground.data }, { on := 4, ground := Ground.chain }, { on := 4, ground := Ground.guard }], guard := some (4, true) }) (v := undef) rfl (by kernel_rfl) (by kernel_rfl) (by kernel_rfl) (fun _ _ _ h => h) (Or.inr ⟨by rfl, rfl⟩) (by assumption) ?_
      try simp only [Act.put, List.setIfInBounds_toArray, List.set_cons_zero, List.set_cons_succ]
      refine wpAnyH_take (i := 7) (oi := { dst := some 35, op := Op.pick (Operand.tmp 32) (Operand.tmp 34) (Operand.const (Value.bool false)), type := 4, pos := "ref.go:31", after := #[{ on := 4, ground := Ground.data }, { on := 6, ground := Ground.data }, { on := 8, ground := Ground.gcOnly Departure.lateStores }], guard := none }) (v := ?_) rfl (by kernel_rfl) (by kernel_rfl) (by kernel_rfl) (fun _ _ _ h => h) (Or.inl ⟨by rfl, ?_⟩) (by assumption) ?_
      rotate_left 1
      · intro w hSw; (try dsimp only at hSw); go_simp; try (with_reducible rfl)
      try simp only [Act.put, List.setIfInBounds_toArray, List.set_cons_zero, List.set_cons_succ]
      obtain ⟨f0, f1, f2, f3, f4, f5⟩ := Q.out.2.2.1.free
      obtain ⟨z0, z1, z2, z3, z4, z5⟩ := Q.out.2.2.1.cells
      refine wpAnyH_ready (rs := [8]) (by kernel_rfl) (by simp) ?_
      refine AllReadyH.cons (o := { dst := none, op := Op.store 26 (Operand.tmp 2) (Operand.tmp 28), type := 0, pos := "ref.go:31", after := #[{ on := 0, ground := Ground.data }, { on := 6, ground := Ground.chain }, { on := 0, ground := Ground.phase }, { on := 1, ground := Ground.textOnly Departure.lateStores }, { on := 2, ground := Ground.textOnly Departure.lateStores }, { on := 3, ground := Ground.textOnly Departure.lateStores }, { on := 4, ground := Ground.textOnly Departure.lateStores }, { on := 5, ground := Ground.textOnly Departure.lateStores }, { on := 6, ground := Ground.textOnly Departure.lateStoresUnsure }, { on := 7, ground := Ground.textOnly Departure.lateStores }], guard := none }) rfl (fun K hK => ?_) AllReadyH.nil
      go_simp
      replace PD := Lib.hid ((Q.out.set (⟨ki, op, wi, true, si, sz⟩ : Wh)).after (Below.drew (Below.refl _ _)))
      clear f0 f1 f2 f3 f4 f5 z0 z1 z2 z3 z4 z5
      refine hK.out _ _ (H.out _ _ PD.out) (fun hHeld => ?_)
      clear hK K
      try simp only [Act.put, List.setIfInBounds_toArray, List.set_cons_zero, List.set_cons_succ]
      refine wpAnyH_take (i := 9) (oi := { dst := some 3, op := Op.assign (Operand.tmp 35), type := 4, pos := "ref.go:31", after := #[{ on := 7, ground := Ground.data }, { on := 8, ground := Ground.chain }, { on := 0, ground := Ground.phase }, { on := 1, ground := Ground.phase }, { on := 2, ground := Ground.phase }, { on := 3, ground := Ground.phase }, { on := 4, ground := Ground.phase }, { on := 5, ground := Ground.phase }, { on := 6, ground := Ground.phase }, { on := 7, ground := Ground.phase }, { on := 8, ground := Ground.phase }], guard := none }) (v := ?_) rfl (by kernel_rfl) (by kernel_rfl) (by kernel_rfl) (fun _ _ _ h => h) (Or.inl ⟨by rfl, ?_⟩) (by assumption) ?_
      rotate_left 1
      · intro w hSw; (try dsimp only at hSw); go_simp; try (with_reducible rfl)
      try simp only [Act.put, List.setIfInBounds_toArray, List.set_cons_zero, List.set_cons_succ]
      refine wpAnyH_done (by kernel_rfl) ?_ _
      have BB := Lib.hid PD.out.1
      obtain ⟨c0, c1, c2, c3, c4, c5⟩ := PD.out.2.2.1.cells
      clear H PD
      go_wp2_with fail
      exact bodyPost_ret (v := .tuple #[whV (⟨ki, op, wi, true, si, sz⟩ : Wh), .bool false]) (by simp [results, Try.results60, go_sem, c0, c1, c2, c3, c4, c5]) rfl ⟨rfl, BB.out⟩

set_option maxRecDepth 100000 in
set_option maxHeartbeats 8000000 in
theorem r7_arith_other (x : Ins) (hx : x.ok) (h : (x.dst == 10) = false) (hn : (x.op / 16 * 16 == 128) = false) (u : Wh) (hu : arW x = u) (w : World) (k b : Bool)
    (K : Hid (∀ w g c t, Blk g (byteCells ariths) t w → Calls Try.prog 58 #[.slice (some ⟨g, 0, none⟩) 12 c, .int .u8 u.op] w (Gives (.bool k) w)))
    (C : Hid (∀ w, Calls Try.prog 61 #[iV x, .bool u.reg, .bool true, .bool (!u.reg)] w (Gives (.bool b) w))) :
    Calls Try.prog 60 #[iV x] w (Gives (.tuple #[whV u, .bool (k && arOff x && b)]) w) := by
  obtain ⟨⟨o1, o2⟩, _⟩ := hx
  have P := Lib.hid (ITri.new x Wh.zero (arW x) w)
  have HU := Lib.hid hu
  clear hu
  go_enter Try.func60, Try.ntmps60
  go_upto_block 0 with fail
  go_cut [5] (fun s wx => s = .bool (arOff x) ∧ Hid (ITri x Wh.zero (arW x) w wx))
  case first =>
    rcases or_ways (x.op / 16 * 16 == 48) (x.op / 16 * 16 == 144) with d1 | ⟨d1, d2⟩ | ⟨d1, d2⟩
    · rcases or_ways (x.off == 0) (x.off == 1) with z0 | ⟨z0, z1⟩ | ⟨z0, z1⟩
      · skip
        have E : Hid (arOff x = true) := Lib.hid (by unfold arOff; simp [d1, z0])
        go_wp2_with fail
        go_meet
        exact ⟨by rw [E.out], P⟩
      · skip
        have E : Hid (arOff x = true) := Lib.hid (by unfold arOff; simp [d1, z0, z1])
        go_wp2_with fail
        go_meet
        exact ⟨by rw [E.out], P⟩
      · skip
        have E : Hid (arOff x = false) := Lib.hid (by unfold arOff; simp [d1, z0, z1])
        go_wp2_with fail
        go_meet
        exact ⟨by rw [E.out], P⟩
    · rcases or_ways (x.off == 0) (x.off == 1) with z0 | ⟨z0, z1⟩ | ⟨z0, z1⟩
      · skip
        have E : Hid (arOff x = true) := Lib.hid (by unfold arOff; simp [d1, d2, z0])
        go_wp2_with fail
        go_meet
        exact ⟨by rw [E.out], P⟩
      · skip
        have E : Hid (arOff x = true) := Lib.hid (by unfold arOff; simp [d1, d2, z0, z1])
        go_wp2_with fail
        go_meet
        exact ⟨by rw [E.out], P⟩
      · skip
        have E : Hid (arOff x = false) := Lib.hid (by unfold arOff; simp [d1, d2, z0, z1])
        go_wp2_with fail
        go_meet
        exact ⟨by rw [E.out], P⟩
    · cases d3 : (x.op / 16 * 16 == 176)
      · cases z0 : (x.off == 0)
        · skip
          have E : Hid (arOff x = false) := Lib.hid (by unfold arOff; simp [d1, d2, d3, z0])
          go_wp2_with fail
          go_meet
          exact ⟨by rw [E.out], P⟩
        · skip
          have E : Hid (arOff x = true) := Lib.hid (by unfold arOff; simp [d1, d2, d3, z0])
          go_wp2_with fail
          go_meet
          exact ⟨by rw [E.out], P⟩
      · rcases or_ways (x.off == 0) (x.op / 8 % 2 == 1) with z0 | ⟨z0, re⟩ | ⟨z0, re⟩
        · skip
          have E : Hid (arOff x = true) := Lib.hid (by unfold arOff; simp [d1, d2, d3, z0])
          go_wp2_with fail
          go_meet
          exact ⟨by rw [E.out], P⟩
        · rcases or_ways (x.off == 8) (x.off == 16) with z1 | ⟨z1, z2⟩ | ⟨z1, z2⟩
          · skip
            have A : Hid (arW x = (⟨1, x.op / 16 * 16, x.op % 8 == 7, true, false, 0⟩ : Wh)) := Lib.hid (by unfold arW; rw [re])
            have E : Hid (arOff x = true) := Lib.hid (by unfold arOff; simp [d1, d2, d3, z0, re, z1])
            go_wp2_with fail
            go_meet
            rw [A.out]
            replace P := P
            rw [A.out] at P
            exact ⟨by rw [E.out], P⟩
          · skip
            have A : Hid (arW x = (⟨1, x.op / 16 * 16, x.op % 8 == 7, true, false, 0⟩ : Wh)) := Lib.hid (by unfold arW; rw [re])
            have E : Hid (arOff x = true) := Lib.hid (by unfold arOff; simp [d1, d2, d3, z0, re, z1, z2])
            go_wp2_with fail
            go_meet
            rw [A.out]
            replace P := P
            rw [A.out] at P
            exact ⟨by rw [E.out], P⟩
          · cases wi : (x.op % 8 == 7)
            · skip
              have A : Hid (arW x = (⟨1, x.op / 16 * 16, false, true, false, 0⟩ : Wh)) := Lib.hid (by unfold arW; rw [re, wi])
              have E : Hid (arOff x = false) := Lib.hid (by unfold arOff; simp [d1, d2, d3, z0, re, z1, z2, wi])
              go_wp2_with fail
              go_meet
              rw [A.out]
              replace P := P
              rw [A.out] at P
              exact ⟨by rw [E.out], P⟩
            · cases z3 : (x.off == 32)
              · skip
                have A : Hid (arW x = (⟨1, x.op / 16 * 16, true, true, false, 0⟩ : Wh)) := Lib.hid (by unfold arW; rw [re, wi])
                have E : Hid (arOff x = false) := Lib.hid (by unfold arOff; simp [d1, d2, d3, z0, re, z1, z2, wi, z3])
                go_wp2_with fail
                go_meet
                rw [A.out]
                replace P := P
                rw [A.out] at P
                exact ⟨by rw [E.out], P⟩
              · skip
                have A : Hid (arW x = (⟨1, x.op / 16 * 16, true, true, false, 0⟩ : Wh)) := Lib.hid (by unfold arW; rw [re, wi])
                have E : Hid (arOff x = true) := Lib.hid (by unfold arOff; simp [d1, d2, d3, z0, re, z1, z2, wi, z3])
                go_wp2_with fail
                go_meet
                rw [A.out]
                replace P := P
                rw [A.out] at P
                exact ⟨by rw [E.out], P⟩
        · skip
          have A : Hid (arW x = (⟨1, x.op / 16 * 16, x.op % 8 == 7, false, false, 0⟩ : Wh)) := Lib.hid (by unfold arW; rw [re])
          have E : Hid (arOff x = false) := Lib.hid (by unfold arOff; simp [d1, d2, d3, z0, re])
          go_wp2_with fail
          go_meet
          rw [A.out]
          replace P := P
          rw [A.out] at P
          exact ⟨by rw [E.out], P⟩
  case rest =>
    obtain ⟨rfl, Q⟩ := hcut
    rw [HU.out] at Q
    clear P HU
    generalize wc = w4 at *
    generalize arOff x = f at *
    obtain ⟨p0, p1, p2, p3, p4⟩ := Q.out.2.1.cells
    obtain ⟨q0, q1, q2, q3, q4, q5⟩ := Q.out.2.2.2.cells
    have k1 := Q.out.2.1.lt
    have k3 := Q.out.2.2.2.lt
    go_wp2_with fail
    refine (K.out _ _ _ 5 (Blk.new w4 _ _ rfl)).mono ?_
    rintro e w5 ⟨rfl, b5⟩
    replace Q := Lib.hid (Q.out.after (below_next' (below_alloc (Below.refl _ _) _) b5))
    clear b5 p0 p1 p2 p3 p4 q0 q1 q2 q3 q4 q5 k1 k3
    go_upto_region 14 with fail
    cases k
    · have PD := Lib.hid (Q.out.after (Below.drew (Below.refl _ _)))
      have H : Hid (∀ v wx, ITri x v u w wx → (wx.cell? ⟨w.heap.size, 0, none⟩ = some (.int .u8 x.op) ∧ wx.cell? ⟨w.heap.size, 1, none⟩ = some (.int .u8 x.dst) ∧ wx.cell? ⟨w.heap.size, 2, none⟩ = some (.int .u8 x.src) ∧ wx.cell? ⟨w.heap.size, 3, none⟩ = some (.int .i16 x.off) ∧ wx.cell? ⟨w.heap.size, 4, none⟩ = some (.int .i32 x.imm)) ∧ (wx.cell? ⟨(w.heap.size + 1 + 1), 0, none⟩ = some (.int .u8 u.kind) ∧ wx.cell? ⟨(w.heap.size + 1 + 1), 1, none⟩ = some (.int .u8 u.op) ∧ wx.cell? ⟨(w.heap.size + 1 + 1), 2, none⟩ = some (.bool u.wide) ∧ wx.cell? ⟨(w.heap.size + 1 + 1), 3, none⟩ = some (.bool u.reg) ∧ wx.cell? ⟨(w.heap.size + 1 + 1), 4, none⟩ = some (.bool u.signed) ∧ wx.cell? ⟨(w.heap.size + 1 + 1), 5, none⟩ = some (.int .i64 u.size))) := Lib.hid fun v wx hx => ⟨hx.2.1.cells, hx.2.2.2.cells⟩
      refine wp_region_held_drew (S := (fun w' => (w'.cell? ⟨w.heap.size, 0, none⟩ = some (.int .u8 x.op) ∧ w'.cell? ⟨w.heap.size, 1, none⟩ = some (.int .u8 x.dst) ∧ w'.cell? ⟨w.heap.size, 2, none⟩ = some (.int .u8 x.src) ∧ w'.cell? ⟨w.heap.size, 3, none⟩ = some (.int .i16 x.off) ∧ w'.cell? ⟨w.heap.size, 4, none⟩ = some (.int .i32 x.imm)) ∧ (w'.cell? ⟨(w.heap.size + 1 + 1), 0, none⟩ = some (.int .u8 u.kind) ∧ w'.cell? ⟨(w.heap.size + 1 + 1), 1, none⟩ = some (.int .u8 u.op) ∧ w'.cell? ⟨(w.heap.size + 1 + 1), 2, none⟩ = some (.bool u.wide) ∧ w'.cell? ⟨(w.heap.size + 1 + 1), 3, none⟩ = some (.bool u.reg) ∧ w'.cell? ⟨(w.heap.size + 1 + 1), 4, none⟩ = some (.bool u.signed) ∧ w'.cell? ⟨(w.heap.size + 1 + 1), 5, none⟩ = some (.int .i64 u.size)))) (by kernel_rfl) (H.out _ _ PD.out) (fun hHeld => ?_)
      refine wpAnyH_take (i := 0) (oi := { dst := some 84, op := Op.load 26 (Operand.tmp 4), type := 26, pos := "ref.go:41", after := #[], guard := none }) (v := ?_) rfl (by kernel_rfl) (by kernel_rfl) (by kernel_rfl) (fun _ _ _ h => h) (Or.inl ⟨by rfl, ?_⟩) (by assumption) ?_
      rotate_left 1
      · intro w hSw; (try dsimp only at hSw); go_simp; try (with_reducible rfl)
      try simp only [Act.put, List.setIfInBounds_toArray, List.set_cons_zero, List.set_cons_succ]
      refine wpAnyH_take (i := 1) (oi := { dst := some 85, op := Op.move (Operand.tmp 6), type := 4, pos := "ref.go:41", after := #[], guard := none }) (v := ?_) rfl (by kernel_rfl) (by kernel_rfl) (by kernel_rfl) (fun _ _ _ h => h) (Or.inl ⟨by rfl, ?_⟩) (by assumption) ?_
      rotate_left 1
      · intro w hSw; (try dsimp only at hSw); go_simp; try (with_reducible rfl)
      try simp only [Act.put, List.setIfInBounds_toArray, List.set_cons_zero, List.set_cons_succ]
      refine wpAnyH_take (i := 2) (oi := { dst := some 86, op := Op.move (Operand.tmp 85), type := 4, pos := "ref.go:41", after := #[{ on := 1, ground := Ground.data }], guard := none }) (v := ?_) rfl (by kernel_rfl) (by kernel_rfl) (by kernel_rfl) (fun _ _ _ h => h) (Or.inl ⟨by rfl, ?_⟩) (by assumption) ?_
      rotate_left 1
      · intro w hSw; (try dsimp only at hSw); go_simp; try (with_reducible rfl)
      try simp only [Act.put, List.setIfInBounds_toArray, List.set_cons_zero, List.set_cons_succ]
      refine wpAnyH_take (i := 3) (oi := { dst := some 87, op := Op.move (Operand.tmp 5), type := 4, pos := "ref.go:41", after := #[{ on := 2, ground := Ground.guard }], guard := some (2, true) }) (v := undef) rfl (by kernel_rfl) (by kernel_rfl) (by kernel_rfl) (fun _ _ _ h => h) (Or.inr ⟨by rfl, rfl⟩) (by assumption) ?_
      try simp only [Act.put, List.setIfInBounds_toArray, List.set_cons_zero, List.set_cons_succ]
      refine wpAnyH_take (i := 4) (oi := { dst := some 88, op := Op.pick (Operand.tmp 86) (Operand.tmp 87) (Operand.const (Value.bool false)), type := 4, pos := "ref.go:41", after := #[{ on := 2, ground := Ground.data }, { on := 3, ground := Ground.data }], guard := none }) (v := ?_) rfl (by kernel_rfl) (by kernel_rfl) (by kernel_rfl) (fun _ _ _ h => h) (Or.inl ⟨by rfl, ?_⟩) (by assumption) ?_
      rotate_left 1
      · intro w hSw; (try dsimp only at hSw); go_simp; try (with_reducible rfl)
      try simp only [Act.put, List.setIfInBounds_toArray, List.set_cons_zero, List.set_cons_succ]
      refine wpAnyH_take (i := 5) (oi := { dst := some 89, op := Op.move (Operand.tmp 88), type := 4, pos := "ref.go:41", after := #[{ on := 4, ground := Ground.data }, { on := 2, ground := Ground.chain }], guard := none }) (v := ?_) rfl (by kernel_rfl) (by kernel_rfl) (by kernel_rfl) (fun _ _ _ h => h) (Or.inl ⟨by rfl, ?_⟩) (by assumption) ?_
      rotate_left 1
      · intro w hSw; (try dsimp only at hSw); go_simp; try (with_reducible rfl)
      try simp only [Act.put, List.setIfInBounds_toArray, List.set_cons_zero, List.set_cons_succ]
      refine wpAnyH_take (i := 6) (oi := { dst := some 90, op := Op.load 24 (Operand.tmp 1), type := 24, pos := "ref.go:41", after := #[{ on := 5, ground := Ground.guard }], guard := some (5, true) }) (v := undef) rfl (by kernel_rfl) (by kernel_rfl) (by kernel_rfl) (fun _ _ _ h => h) (Or.inr ⟨by rfl, rfl⟩) (by assumption) ?_
      try simp only [Act.put, List.setIfInBounds_toArray, List.set_cons_zero, List.set_cons_succ]
      refine wpAnyH_take (i := 7) (oi := { dst := some 91, op := Op.fieldAddr 26 (Operand.tmp 4) 3, type := 0, pos := "ref.go:41", after := #[{ on := 5, ground := Ground.guard }], guard := some (5, true) }) (v := undef) rfl (by kernel_rfl) (by kernel_rfl) (by kernel_rfl) (fun _ _ _ h => h) (Or.inr ⟨by rfl, rfl⟩) (by assumption) ?_
      try simp only [Act.put, List.setIfInBounds_toArray, List.set_cons_zero, List.set_cons_succ]
      refine wpAnyH_take (i := 8) (oi := { dst := some 92, op := Op.load 4 (Operand.tmp 91), type := 4, pos := "ref.go:41", after := #[{ on := 7, ground := Ground.data }, { on := 5, ground := Ground.guard }], guard := some (5, true) }) (v := undef) rfl (by kernel_rfl) (by kernel_rfl) (by kernel_rfl) (fun _ _ _ h => h) (Or.inr ⟨by rfl, rfl⟩) (by assumption) ?_
      try simp only [Act.put, List.setIfInBounds_toArray, List.set_cons_zero, List.set_cons_succ]
      refine wpAnyH_take (i := 9) (oi := { dst := some 93, op := Op.fieldAddr 26 (Operand.tmp 4) 3, type := 0, pos := "ref.go:41", after := #[{ on := 5, ground := Ground.guard }], guard := some (5, true) }) (v := undef) rfl (by kernel_rfl) (by kernel_rfl) (by kernel_rfl) (fun _ _ _ h => h) (Or.inr ⟨by rfl, rfl⟩) (by assumption) ?_
      try simp only [Act.put, List.setIfInBounds_toArray, List.set_cons_zero, List.set_cons_succ]
      refine wpAnyH_take (i := 10) (oi := { dst := some 94, op := Op.load 4 (Operand.tmp 93), type := 4, pos := "ref.go:41", after := #[{ on := 9, ground := Ground.data }, { on := 5, ground := Ground.guard }], guard := some (5, true) }) (v := undef) rfl (by kernel_rfl) (by kernel_rfl) (by kernel_rfl) (fun _ _ _ h => h) (Or.inr ⟨by rfl, rfl⟩) (by assumption) ?_
      try simp only [Act.put, List.setIfInBounds_toArray, List.set_cons_zero, List.set_cons_succ]
      refine wpAnyH_take (i := 11) (oi := { dst := some 95, op := Op.unOp UnOp.not 4 (Operand.tmp 94), type := 4, pos := "ref.go:41", after := #[{ on := 10, ground := Ground.data }, { on := 5, ground := Ground.guard }], guard := some (5, true) }) (v := undef) rfl (by kernel_rfl) (by kernel_rfl) (by kernel_rfl) (fun _ _ _ h => h) (Or.inr ⟨by rfl, rfl⟩) (by assumption) ?_
      try simp only [Act.put, List.setIfInBounds_toArray, List.set_cons_zero, List.set_cons_succ]
      refine wpAnyH_take (i := 12) (oi := { dst := some 96, op := Op.call { callee := Callee.value (Operand.func 61), args := #[Operand.tmp 90, Operand.tmp 92, Operand.const (Value.bool true), Operand.tmp 95], argTypes := #[24, 4, 4, 4] }, type := 4, pos := "ref.go:41", after := #[{ on := 6, ground := Ground.data }, { on := 8, ground := Ground.data }, { on := 11, ground := Ground.data }, { on := 5, ground := Ground.chain }, { on := 5, ground := Ground.guard }], guard := some (5, true) }) (v := undef) rfl (by kernel_rfl) (by kernel_rfl) (by kernel_rfl) (fun _ _ _ h => h) (Or.inr ⟨by rfl, rfl⟩) (by assumption) ?_
      try simp only [Act.put, List.setIfInBounds_toArray, List.set_cons_zero, List.set_cons_succ]
      refine wpAnyH_take (i := 13) (oi := { dst := some 97, op := Op.pick (Operand.tmp 89) (Operand.tmp 96) (Operand.const (Value.bool false)), type := 4, pos := "ref.go:41", after := #[{ on := 5, ground := Ground.data }, { on := 12, ground := Ground.data }, { on := 14, ground := Ground.gcOnly Departure.lateStores }], guard := none }) (v := ?_) rfl (by kernel_rfl) (by kernel_rfl) (by kernel_rfl) (fun _ _ _ h => h) (Or.inl ⟨by rfl, ?_⟩) (by assumption) ?_
      rotate_left 1
      · intro w hSw; (try dsimp only at hSw); go_simp; try (with_reducible rfl)
      try simp only [Act.put, List.setIfInBounds_toArray, List.set_cons_zero, List.set_cons_succ]
      obtain ⟨f0, f1, f2, f3, f4, f5⟩ := Q.out.2.2.1.free
      obtain ⟨z0, z1, z2, z3, z4, z5⟩ := Q.out.2.2.1.cells
      refine wpAnyH_ready (rs := [14]) (by kernel_rfl) (by simp) ?_
      refine AllReadyH.cons (o := { dst := none, op := Op.store 26 (Operand.tmp 2) (Operand.tmp 84), type := 0, pos := "ref.go:41", after := #[{ on := 0, ground := Ground.data }, { on := 12, ground := Ground.chain }, { on := 0, ground := Ground.phase }, { on := 1, ground := Ground.textOnly Departure.lateStores }, { on := 2, ground := Ground.textOnly Departure.lateStores }, { on := 3, ground := Ground.textOnly Departure.lateStores }, { on := 4, ground := Ground.textOnly Departure.lateStores }, { on := 5, ground := Ground.textOnly Departure.lateStores }, { on := 6, ground := Ground.textOnly Departure.lateStores }, { on := 7, ground := Ground.textOnly Departure.lateStores }, { on := 8, ground := Ground.textOnly Departure.lateStores }, { on := 9, ground := Ground.textOnly Departure.lateStores }, { on := 10, ground := Ground.textOnly Departure.lateStores }, { on := 11, ground := Ground.textOnly Departure.lateStores }, { on := 12, ground := Ground.textOnly Departure.lateStoresUnsure }, { on := 13, ground := Ground.textOnly Departure.lateStores }], guard := none }) rfl (fun K hK => ?_) AllReadyH.nil
      go_simp
      replace PD := Lib.hid ((Q.out.set u).after (Below.drew (Below.refl _ _)))
      clear f0 f1 f2 f3 f4 f5 z0 z1 z2 z3 z4 z5
      refine hK.out _ _ (H.out _ _ PD.out) (fun hHeld => ?_)
      clear hK K
      try simp only [Act.put, List.setIfInBounds_toArray, List.set_cons_zero, List.set_cons_succ]
      refine wpAnyH_take (i := 15) (oi := { dst := some 3, op := Op.assign (Operand.tmp 97), type := 4, pos := "ref.go:41", after := #[{ on := 13, ground := Ground.data }, { on := 14, ground := Ground.chain }, { on := 0, ground := Ground.phase }, { on := 1, ground := Ground.phase }, { on := 2, ground := Ground.phase }, { on := 3, ground := Ground.phase }, { on := 4, ground := Ground.phase }, { on := 5, ground := Ground.phase }, { on := 6, ground := Ground.phase }, { on := 7, ground := Ground.phase }, { on := 8, ground := Ground.phase }, { on := 9, ground := Ground.phase }, { on := 10, ground := Ground.phase }, { on := 11, ground := Ground.phase }, { on := 12, ground := Ground.phase }, { on := 13, ground := Ground.phase }, { on := 14, ground := Ground.phase }], guard := none }) (v := ?_) rfl (by kernel_rfl) (by kernel_rfl) (by kernel_rfl) (fun _ _ _ h => h) (Or.inl ⟨by rfl, ?_⟩) (by assumption) ?_
      rotate_left 1
      · intro w hSw; (try dsimp only at hSw); go_simp; try (with_reducible rfl)
      try simp only [Act.put, List.setIfInBounds_toArray, List.set_cons_zero, List.set_cons_succ]
      refine wpAnyH_done (by kernel_rfl) ?_ _
      have BB := Lib.hid PD.out.1
      obtain ⟨c0, c1, c2, c3, c4, c5⟩ := PD.out.2.2.1.cells
      clear H PD
      go_wp2_with fail
      exact bodyPost_ret (v := .tuple #[whV u, .bool false]) (by simp [results, Try.results60, go_sem, c0, c1, c2, c3, c4, c5]) rfl ⟨rfl, BB.out⟩
    · cases f
      · have PD := Lib.hid (Q.out.after (Below.drew (Below.refl _ _)))
        have H : Hid (∀ v wx, ITri x v u w wx → (wx.cell? ⟨w.heap.size, 0, none⟩ = some (.int .u8 x.op) ∧ wx.cell? ⟨w.heap.size, 1, none⟩ = some (.int .u8 x.dst) ∧ wx.cell? ⟨w.heap.size, 2, none⟩ = some (.int .u8 x.src) ∧ wx.cell? ⟨w.heap.size, 3, none⟩ = some (.int .i16 x.off) ∧ wx.cell? ⟨w.heap.size, 4, none⟩ = some (.int .i32 x.imm)) ∧ (wx.cell? ⟨(w.heap.size + 1 + 1), 0, none⟩ = some (.int .u8 u.kind) ∧ wx.cell? ⟨(w.heap.size + 1 + 1), 1, none⟩ = some (.int .u8 u.op) ∧ wx.cell? ⟨(w.heap.size + 1 + 1), 2, none⟩ = some (.bool u.wide) ∧ wx.cell? ⟨(w.heap.size + 1 + 1), 3, none⟩ = some (.bool u.reg) ∧ wx.cell? ⟨(w.heap.size + 1 + 1), 4, none⟩ = some (.bool u.signed) ∧ wx.cell? ⟨(w.heap.size + 1 + 1), 5, none⟩ = some (.int .i64 u.size))) := Lib.hid fun v wx hx => ⟨hx.2.1.cells, hx.2.2.2.cells⟩
        refine wp_region_held_drew (S := (fun w' => (w'.cell? ⟨w.heap.size, 0, none⟩ = some (.int .u8 x.op) ∧ w'.cell? ⟨w.heap.size, 1, none⟩ = some (.int .u8 x.dst) ∧ w'.cell? ⟨w.heap.size, 2, none⟩ = some (.int .u8 x.src) ∧ w'.cell? ⟨w.heap.size, 3, none⟩ = some (.int .i16 x.off) ∧ w'.cell? ⟨w.heap.size, 4, none⟩ = some (.int .i32 x.imm)) ∧ (w'.cell? ⟨(w.heap.size + 1 + 1), 0, none⟩ = some (.int .u8 u.kind) ∧ w'.cell? ⟨(w.heap.size + 1 + 1), 1, none⟩ = some (.int .u8 u.op) ∧ w'.cell? ⟨(w.heap.size + 1 + 1), 2, none⟩ = some (.bool u.wide) ∧ w'.cell? ⟨(w.heap.size + 1 + 1), 3, none⟩ = some (.bool u.reg) ∧ w'.cell? ⟨(w.heap.size + 1 + 1), 4, none⟩ = some (.bool u.signed) ∧ w'.cell? ⟨(w.heap.size + 1 + 1), 5, none⟩ = some (.int .i64 u.size)))) (by kernel_rfl) (H.out _ _ PD.out) (fun hHeld => ?_)
        refine wpAnyH_take (i := 0) (oi := { dst := some 84, op := Op.load 26 (Operand.tmp 4), type := 26, pos := "ref.go:41", after := #[], guard := none }) (v := ?_) rfl (by kernel_rfl) (by kernel_rfl) (by kernel_rfl) (fun _ _ _ h => h) (Or.inl ⟨by rfl, ?_⟩) (by assumption) ?_
        rotate_left 1
        · intro w hSw; (try dsimp only at hSw); go_simp; try (with_reducible rfl)
        try simp only [Act.put, List.setIfInBounds_toArray, List.set_cons_zero, List.set_cons_succ]
        refine wpAnyH_take (i := 1) (oi := { dst := some 85, op := Op.move (Operand.tmp 6), type := 4, pos := "ref.go:41", after := #[], guard := none }) (v := ?_) rfl (by kernel_rfl) (by kernel_rfl) (by kernel_rfl) (fun _ _ _ h => h) (Or.inl ⟨by rfl, ?_⟩) (by assumption) ?_
        rotate_left 1
        · intro w hSw; (try dsimp only at hSw); go_simp; try (with_reducible rfl)
        try simp only [Act.put, List.setIfInBounds_toArray, List.set_cons_zero, List.set_cons_succ]
        refine wpAnyH_take (i := 2) (oi := { dst := some 86, op := Op.move (Operand.tmp 85), type := 4, pos := "ref.go:41", after := #[{ on := 1, ground := Ground.data }], guard := none }) (v := ?_) rfl (by kernel_rfl) (by kernel_rfl) (by kernel_rfl) (fun _ _ _ h => h) (Or.inl ⟨by rfl, ?_⟩) (by assumption) ?_
        rotate_left 1
        · intro w hSw; (try dsimp only at hSw); go_simp; try (with_reducible rfl)
        try simp only [Act.put, List.setIfInBounds_toArray, List.set_cons_zero, List.set_cons_succ]
        refine wpAnyH_take (i := 3) (oi := { dst := some 87, op := Op.move (Operand.tmp 5), type := 4, pos := "ref.go:41", after := #[{ on := 2, ground := Ground.guard }], guard := some (2, true) }) (v := ?_) rfl (by kernel_rfl) (by kernel_rfl) (by kernel_rfl) (fun _ _ _ h => h) (Or.inl ⟨by rfl, ?_⟩) (by assumption) ?_
        rotate_left 1
        · intro w hSw; (try dsimp only at hSw); go_simp; try (with_reducible rfl)
        try simp only [Act.put, List.setIfInBounds_toArray, List.set_cons_zero, List.set_cons_succ]
        refine wpAnyH_take (i := 4) (oi := { dst := some 88, op := Op.pick (Operand.tmp 86) (Operand.tmp 87) (Operand.const (Value.bool false)), type := 4, pos := "ref.go:41", after := #[{ on := 2, ground := Ground.data }, { on := 3, ground := Ground.data }], guard := none }) (v := ?_) rfl (by kernel_rfl) (by kernel_rfl) (by kernel_rfl) (fun _ _ _ h => h) (Or.inl ⟨by rfl, ?_⟩) (by assumption) ?_
        rotate_left 1
        · intro w hSw; (try dsimp only at hSw); go_simp; try (with_reducible rfl)
        try simp only [Act.put, List.setIfInBounds_toArray, List.set_cons_zero, List.set_cons_succ]
        refine wpAnyH_take (i := 5) (oi := { dst := some 89, op := Op.move (Operand.tmp 88), type := 4, pos := "ref.go:41", after := #[{ on := 4, ground := Ground.data }, { on := 2, ground := Ground.chain }], guard := none }) (v := ?_) rfl (by kernel_rfl) (by kernel_rfl) (by kernel_rfl) (fun _ _ _ h => h) (Or.inl ⟨by rfl, ?_⟩) (by assumption) ?_
        rotate_left 1
        · intro w hSw; (try dsimp only at hSw); go_simp; try (with_reducible rfl)
        try simp only [Act.put, List.setIfInBounds_toArray, List.set_cons_zero, List.set_cons_succ]
        refine wpAnyH_take (i := 6) (oi := { dst := some 90, op := Op.load 24 (Operand.tmp 1), type := 24, pos := "ref.go:41", after := #[{ on := 5, ground := Ground.guard }], guard := some (5, true) }) (v := undef) rfl (by kernel_rfl) (by kernel_rfl) (by kernel_rfl) (fun _ _ _ h => h) (Or.inr ⟨by rfl, rfl⟩) (by assumption) ?_
        try simp only [Act.put, List.setIfInBounds_toArray, List.set_cons_zero, List.set_cons_succ]
        refine wpAnyH_take (i := 7) (oi := { dst := some 91, op := Op.fieldAddr 26 (Operand.tmp 4) 3, type := 0, pos := "ref.go:41", after := #[{ on := 5, ground := Ground.guard }], guard := some (5, true) }) (v := undef) rfl (by kernel_rfl) (by kernel_rfl) (by kernel_rfl) (fun _ _ _ h => h) (Or.inr ⟨by rfl, rfl⟩) (by assumption) ?_
        try simp only [Act.put, List.setIfInBounds_toArray, List.set_cons_zero, List.set_cons_succ]
        refine wpAnyH_take (i := 8) (oi := { dst := some 92, op := Op.load 4 (Operand.tmp 91), type := 4, pos := "ref.go:41", after := #[{ on := 7, ground := Ground.data }, { on := 5, ground := Ground.guard }], guard := some (5, true) }) (v := undef) rfl (by kernel_rfl) (by kernel_rfl) (by kernel_rfl) (fun _ _ _ h => h) (Or.inr ⟨by rfl, rfl⟩) (by assumption) ?_
        try simp only [Act.put, List.setIfInBounds_toArray, List.set_cons_zero, List.set_cons_succ]
        refine wpAnyH_take (i := 9) (oi := { dst := some 93, op := Op.fieldAddr 26 (Operand.tmp 4) 3, type := 0, pos := "ref.go:41", after := #[{ on := 5, ground := Ground.guard }], guard := some (5, true) }) (v := undef) rfl (by kernel_rfl) (by kernel_rfl) (by kernel_rfl) (fun _ _ _ h => h) (Or.inr ⟨by rfl, rfl⟩) (by assumption) ?_
        try simp only [Act.put, List.setIfInBounds_toArray, List.set_cons_zero, List.set_cons_succ]
        refine wpAnyH_take (i := 10) (oi := { dst := some 94, op := Op.load 4 (Operand.tmp 93), type := 4, pos := "ref.go:41", after := #[{ on := 9, ground := Ground.data }, { on := 5, ground := Ground.guard }], guard := some (5, true) }) (v := undef) rfl (by kernel_rfl) (by kernel_rfl) (by kernel_rfl) (fun _ _ _ h => h) (Or.inr ⟨by rfl, rfl⟩) (by assumption) ?_
        try simp only [Act.put, List.setIfInBounds_toArray, List.set_cons_zero, List.set_cons_succ]
        refine wpAnyH_take (i := 11) (oi := { dst := some 95, op := Op.unOp UnOp.not 4 (Operand.tmp 94), type := 4, pos := "ref.go:41", after := #[{ on := 10, ground := Ground.data }, { on := 5, ground := Ground.guard }], guard := some (5, true) }) (v := undef) rfl (by kernel_rfl) (by kernel_rfl) (by kernel_rfl) (fun _ _ _ h => h) (Or.inr ⟨by rfl, rfl⟩) (by assumption) ?_
        try simp only [Act.put, List.setIfInBounds_toArray, List.set_cons_zero, List.set_cons_succ]
        refine wpAnyH_take (i := 12) (oi := { dst := some 96, op := Op.call { callee := Callee.value (Operand.func 61), args := #[Operand.tmp 90, Operand.tmp 92, Operand.const (Value.bool true), Operand.tmp 95], argTypes := #[24, 4, 4, 4] }, type := 4, pos := "ref.go:41", after := #[{ on := 6, ground := Ground.data }, { on := 8, ground := Ground.data }, { on := 11, ground := Ground.data }, { on := 5, ground := Ground.chain }, { on := 5, ground := Ground.guard }], guard := some (5, true) }) (v := undef) rfl (by kernel_rfl) (by kernel_rfl) (by kernel_rfl) (fun _ _ _ h => h) (Or.inr ⟨by rfl, rfl⟩) (by assumption) ?_
        try simp only [Act.put, List.setIfInBounds_toArray, List.set_cons_zero, List.set_cons_succ]
        refine wpAnyH_take (i := 13) (oi := { dst := some 97, op := Op.pick (Operand.tmp 89) (Operand.tmp 96) (Operand.const (Value.bool false)), type := 4, pos := "ref.go:41", after := #[{ on := 5, ground := Ground.data }, { on := 12, ground := Ground.data }, { on := 14, ground := Ground.gcOnly Departure.lateStores }], guard := none }) (v := ?_) rfl (by kernel_rfl) (by kernel_rfl) (by kernel_rfl) (fun _ _ _ h => h) (Or.inl ⟨by rfl, ?_⟩) (by assumption) ?_
        rotate_left 1
        · intro w hSw; (try dsimp only at hSw); go_simp; try (with_reducible rfl)
        try simp only [Act.put, List.setIfInBounds_toArray, List.set_cons_zero, List.set_cons_succ]
        obtain ⟨f0, f1, f2, f3, f4, f5⟩ := Q.out.2.2.1.free
        obtain ⟨z0, z1, z2, z3, z4, z5⟩ := Q.out.2.2.1.cells
        refine wpAnyH_ready (rs := [14]) (by kernel_rfl) (by simp) ?_
        refine AllReadyH.cons (o := { dst := none, op := Op.store 26 (Operand.tmp 2) (Operand.tmp 84), type := 0, pos := "ref.go:41", after := #[{ on := 0, ground := Ground.data }, { on := 12, ground := Ground.chain }, { on := 0, ground := Ground.phase }, { on := 1, ground := Ground.textOnly Departure.lateStores }, { on := 2, ground := Ground.textOnly Departure.lateStores }, { on := 3, ground := Ground.textOnly Departure.lateStores }, { on := 4, ground := Ground.textOnly Departure.lateStores }, { on := 5, ground := Ground.textOnly Departure.lateStores }, { on := 6, ground := Ground.textOnly Departure.lateStores }, { on := 7, ground := Ground.textOnly Departure.lateStores }, { on := 8, ground := Ground.textOnly Departure.lateStores }, { on := 9, ground := Ground.textOnly Departure.lateStores }, { on := 10, ground := Ground.textOnly Departure.lateStores }, { on := 11, ground := Ground.textOnly Departure.lateStores }, { on := 12, ground := Ground.textOnly Departure.lateStoresUnsure }, { on := 13, ground := Ground.textOnly Departure.lateStores }], guard := none }) rfl (fun K hK => ?_) AllReadyH.nil
        go_simp
        replace PD := Lib.hid ((Q.out.set u).after (Below.drew (Below.refl _ _)))
        clear f0 f1 f2 f3 f4 f5 z0 z1 z2 z3 z4 z5
        refine hK.out _ _ (H.out _ _ PD.out) (fun hHeld => ?_)
        clear hK K
        try simp only [Act.put, List.setIfInBounds_toArray, List.set_cons_zero, List.set_cons_succ]
        refine wpAnyH_take (i := 15) (oi := { dst := some 3, op := Op.assign (Operand.tmp 97), type := 4, pos := "ref.go:41", after := #[{ on := 13, ground := Ground.data }, { on := 14, ground := Ground.chain }, { on := 0, ground := Ground.phase }, { on := 1, ground := Ground.phase }, { on := 2, ground := Ground.phase }, { on := 3, ground := Ground.phase }, { on := 4, ground := Ground.phase }, { on := 5, ground := Ground.phase }, { on := 6, ground := Ground.phase }, { on := 7, ground := Ground.phase }, { on := 8, ground := Ground.phase }, { on := 9, ground := Ground.phase }, { on := 10, ground := Ground.phase }, { on := 11, ground := Ground.phase }, { on := 12, ground := Ground.phase }, { on := 13, ground := Ground.phase }, { on := 14, ground := Ground.phase }], guard := none }) (v := ?_) rfl (by kernel_rfl) (by kernel_rfl) (by kernel_rfl) (fun _ _ _ h => h) (Or.inl ⟨by rfl, ?_⟩) (by assumption) ?_
        rotate_left 1
        · intro w hSw; (try dsimp only at hSw); go_simp; try (with_reducible rfl)
        try simp only [Act.put, List.setIfInBounds_toArray, List.set_cons_zero, List.set_cons_succ]
        refine wpAnyH_done (by kernel_rfl) ?_ _
        have BB := Lib.hid PD.out.1
        obtain ⟨c0, c1, c2, c3, c4, c5⟩ := PD.out.2.2.1.cells
        clear H PD
        go_wp2_with fail
        exact bodyPost_ret (v := .tuple #[whV u, .bool false]) (by simp [results, Try.results60, go_sem, c0, c1, c2, c3, c4, c5]) rfl ⟨rfl, BB.out⟩
      · have PD := Lib.hid (Q.out.after (Below.drew (Below.refl _ _)))
        have H : Hid (∀ v wx, ITri x v u w wx → (wx.cell? ⟨w.heap.size, 0, none⟩ = some (.int .u8 x.op) ∧ wx.cell? ⟨w.heap.size, 1, none⟩ = some (.int .u8 x.dst) ∧ wx.cell? ⟨w.heap.size, 2, none⟩ = some (.int .u8 x.src) ∧ wx.cell? ⟨w.heap.size, 3, none⟩ = some (.int .i16 x.off) ∧ wx.cell? ⟨w.heap.size, 4, none⟩ = some (.int .i32 x.imm)) ∧ (wx.cell? ⟨(w.heap.size + 1 + 1), 0, none⟩ = some (.int .u8 u.kind) ∧ wx.cell? ⟨(w.heap.size + 1 + 1), 1, none⟩ = some (.int .u8 u.op) ∧ wx.cell? ⟨(w.heap.size + 1 + 1), 2, none⟩ = some (.bool u.wide) ∧ wx.cell? ⟨(w.heap.size + 1 + 1), 3, none⟩ = some (.bool u.reg) ∧ wx.cell? ⟨(w.heap.size + 1 + 1), 4, none⟩ = some (.bool u.signed) ∧ wx.cell? ⟨(w.heap.size + 1 + 1), 5, none⟩ = some (.int .i64 u.size))) := Lib.hid fun v wx hx => ⟨hx.2.1.cells, hx.2.2.2.cells⟩
        refine wp_region_held_drew (S := (fun w' => (w'.cell? ⟨w.heap.size, 0, none⟩ = some (.int .u8 x.op) ∧ w'.cell? ⟨w.heap.size, 1, none⟩ = some (.int .u8 x.dst) ∧ w'.cell? ⟨w.heap.size, 2, none⟩ = some (.int .u8 x.src) ∧ w'.cell? ⟨w.heap.size, 3, none⟩ = some (.int .i16 x.off) ∧ w'.cell? ⟨w.heap.size, 4, none⟩ = some (.int .i32 x.imm)) ∧ (w'.cell? ⟨(w.heap.size + 1 + 1), 0, none⟩ = some (.int .u8 u.kind) ∧ w'.cell? ⟨(w.heap.size + 1 + 1), 1, none⟩ = some (.int .u8 u.op) ∧ w'.cell? ⟨(w.heap.size + 1 + 1), 2, none⟩ = some (.bool u.wide) ∧ w'.cell? ⟨(w.heap.size + 1 + 1), 3, none⟩ = some (.bool u.reg) ∧ w'.cell? ⟨(w.heap.size + 1 + 1), 4, none⟩ = some (.bool u.signed) ∧ w'.cell? ⟨(w.heap.size + 1 + 1), 5, none⟩ = some (.int .i64 u.size)))) (by kernel_rfl) (H.out _ _ PD.out) (fun hHeld => ?_)
        refine wpAnyH_take (i := 0) (oi := { dst := some 84, op := Op.load 26 (Operand.tmp 4), type := 26, pos := "ref.go:41", after := #[], guard := none }) (v := ?_) rfl (by kernel_rfl) (by kernel_rfl) (by kernel_rfl) (fun _ _ _ h => h) (Or.inl ⟨by rfl, ?_⟩) (by assumption) ?_
        rotate_left 1
        · intro w hSw; (try dsimp only at hSw); go_simp; try (with_reducible rfl)
        try simp only [Act.put, List.setIfInBounds_toArray, List.set_cons_zero, List.set_cons_succ]
        refine wpAnyH_take (i := 1) (oi := { dst := some 85, op := Op.move (Operand.tmp 6), type := 4, pos := "ref.go:41", after := #[], guard := none }) (v := ?_) rfl (by kernel_rfl) (by kernel_rfl) (by kernel_rfl) (fun _ _ _ h => h) (Or.inl ⟨by rfl, ?_⟩) (by assumption) ?_
        rotate_left 1
        · intro w hSw; (try dsimp only at hSw); go_simp; try (with_reducible rfl)
        try simp only [Act.put, List.setIfInBounds_toArray, List.set_cons_zero, List.set_cons_succ]
        refine wpAnyH_take (i := 2) (oi := { dst := some 86, op := Op.move (Operand.tmp 85), type := 4, pos := "ref.go:41", after := #[{ on := 1, ground := Ground.data }], guard := none }) (v := ?_) rfl (by kernel_rfl) (by kernel_rfl) (by kernel_rfl) (fun _ _ _ h => h) (Or.inl ⟨by rfl, ?_⟩) (by assumption) ?_
        rotate_left 1
        · intro w hSw; (try dsimp only at hSw); go_simp; try (with_reducible rfl)
        try simp only [Act.put, List.setIfInBounds_toArray, List.set_cons_zero, List.set_cons_succ]
        refine wpAnyH_take (i := 3) (oi := { dst := some 87, op := Op.move (Operand.tmp 5), type := 4, pos := "ref.go:41", after := #[{ on := 2, ground := Ground.guard }], guard := some (2, true) }) (v := ?_) rfl (by kernel_rfl) (by kernel_rfl) (by kernel_rfl) (fun _ _ _ h => h) (Or.inl ⟨by rfl, ?_⟩) (by assumption) ?_
        rotate_left 1
        · intro w hSw; (try dsimp only at hSw); go_simp; try (with_reducible rfl)
        try simp only [Act.put, List.setIfInBounds_toArray, List.set_cons_zero, List.set_cons_succ]
        refine wpAnyH_take (i := 4) (oi := { dst := some 88, op := Op.pick (Operand.tmp 86) (Operand.tmp 87) (Operand.const (Value.bool false)), type := 4, pos := "ref.go:41", after := #[{ on := 2, ground := Ground.data }, { on := 3, ground := Ground.data }], guard := none }) (v := ?_) rfl (by kernel_rfl) (by kernel_rfl) (by kernel_rfl) (fun _ _ _ h => h) (Or.inl ⟨by rfl, ?_⟩) (by assumption) ?_
        rotate_left 1
        · intro w hSw; (try dsimp only at hSw); go_simp; try (with_reducible rfl)
        try simp only [Act.put, List.setIfInBounds_toArray, List.set_cons_zero, List.set_cons_succ]
        refine wpAnyH_take (i := 5) (oi := { dst := some 89, op := Op.move (Operand.tmp 88), type := 4, pos := "ref.go:41", after := #[{ on := 4, ground := Ground.data }, { on := 2, ground := Ground.chain }], guard := none }) (v := ?_) rfl (by kernel_rfl) (by kernel_rfl) (by kernel_rfl) (fun _ _ _ h => h) (Or.inl ⟨by rfl, ?_⟩) (by assumption) ?_
        rotate_left 1
        · intro w hSw; (try dsimp only at hSw); go_simp; try (with_reducible rfl)
        try simp only [Act.put, List.setIfInBounds_toArray, List.set_cons_zero, List.set_cons_succ]
        refine wpAnyH_take (i := 6) (oi := { dst := some 90, op := Op.load 24 (Operand.tmp 1), type := 24, pos := "ref.go:41", after := #[{ on := 5, ground := Ground.guard }], guard := some (5, true) }) (v := ?_) rfl (by kernel_rfl) (by kernel_rfl) (by kernel_rfl) (fun _ _ _ h => h) (Or.inl ⟨by rfl, ?_⟩) (by assumption) ?_
        rotate_left 1
        · intro w hSw; (try dsimp only at hSw); go_simp; try (with_reducible rfl)
        try simp only [Act.put, List.setIfInBounds_toArray, List.set_cons_zero, List.set_cons_succ]
        refine wpAnyH_take (i := 7) (oi := { dst := some 91, op := Op.fieldAddr 26 (Operand.tmp 4) 3, type := 0, pos := "ref.go:41", after := #[{ on := 5, ground := Ground.guard }], guard := some (5, true) }) (v := ?_) rfl (by kernel_rfl) (by kernel_rfl) (by kernel_rfl) (fun _ _ _ h => h) (Or.inl ⟨by rfl, ?_⟩) (by assumption) ?_
        rotate_left 1
        · intro w hSw; (try dsimp only at hSw); go_simp; try (with_reducible rfl)
        try simp only [Act.put, List.setIfInBounds_toArray, List.set_cons_zero, List.set_cons_succ]
        refine wpAnyH_take (i := 8) (oi := { dst := some 92, op := Op.load 4 (Operand.tmp 91), type := 4, pos := "ref.go:41", after := #[{ on := 7, ground := Ground.data }, { on := 5, ground := Ground.guard }], guard := some (5, true) }) (v := ?_) rfl (by kernel_rfl) (by kernel_rfl) (by kernel_rfl) (fun _ _ _ h => h) (Or.inl ⟨by rfl, ?_⟩) (by assumption) ?_
        rotate_left 1
        · intro w hSw; (try dsimp only at hSw); go_simp; try (with_reducible rfl)
        try simp only [Act.put, List.setIfInBounds_toArray, List.set_cons_zero, List.set_cons_succ]
        refine wpAnyH_take (i := 9) (oi := { dst := some 93, op := Op.fieldAddr 26 (Operand.tmp 4) 3, type := 0, pos := "ref.go:41", after := #[{ on := 5, ground := Ground.guard }], guard := some (5, true) }) (v := ?_) rfl (by kernel_rfl) (by kernel_rfl) (by kernel_rfl) (fun _ _ _ h => h) (Or.inl ⟨by rfl, ?_⟩) (by assumption) ?_
        rotate_left 1
        · intro w hSw; (try dsimp only at hSw); go_simp; try (with_reducible rfl)
        try simp only [Act.put, List.setIfInBounds_toArray, List.set_cons_zero, List.set_cons_succ]
        refine wpAnyH_take (i := 10) (oi := { dst := some 94, op := Op.load 4 (Operand.tmp 93), type := 4, pos := "ref.go:41", after := #[{ on := 9, ground := Ground.data }, { on := 5, ground := Ground.guard }], guard := some (5, true) }) (v := ?_) rfl (by kernel_rfl) (by kernel_rfl) (by kernel_rfl) (fun _ _ _ h => h) (Or.inl ⟨by rfl, ?_⟩) (by assumption) ?_
        rotate_left 1
        · intro w hSw; (try dsimp only at hSw); go_simp; try (with_reducible rfl)
        try simp only [Act.put, List.setIfInBounds_toArray, List.set_cons_zero, List.set_cons_succ]
        refine wpAnyH_take (i := 11) (oi := { dst := some 95, op := Op.unOp UnOp.not 4 (Operand.tmp 94), type := 4, pos := "ref.go:41", after := #[{ on := 10, ground := Ground.data }, { on := 5, ground := Ground.guard }], guard := some (5, true) }) (v := ?_) rfl (by kernel_rfl) (by kernel_rfl) (by kernel_rfl) (fun _ _ _ h => h) (Or.inl ⟨by rfl, ?_⟩) (by assumption) ?_
        rotate_left 1
        · intro w hSw; (try dsimp only at hSw); go_simp; try (with_reducible rfl)
        try simp only [Act.put, List.setIfInBounds_toArray, List.set_cons_zero, List.set_cons_succ]
        refine wpAnyH_ready (rs := [12]) (by kernel_rfl) (by simp) ?_
        refine AllReadyH.cons (o := { dst := some 96, op := Op.call { callee := Callee.value (Operand.func 61), args := #[Operand.tmp 90, Operand.tmp 92, Operand.const (Value.bool true), Operand.tmp 95], argTypes := #[24, 4, 4, 4] }, type := 4, pos := "ref.go:41", after := #[{ on := 6, ground := Ground.data }, { on := 8, ground := Ground.data }, { on := 11, ground := Ground.data }, { on := 5, ground := Ground.chain }, { on := 5, ground := Ground.guard }], guard := some (5, true) }) rfl (fun K hK => ?_) AllReadyH.nil
        go_simp
        refine (C.out _).mono ?_; rintro e w5 ⟨rfl, hb⟩
        replace PD := Lib.hid (PD.out.after hb)
        clear hb
        go_wp2_with fail
        refine hK.out _ _ (H.out _ _ PD.out) (fun hHeld => ?_)
        clear hK K
        try simp only [Act.put, List.setIfInBounds_toArray, List.set_cons_zero, List.set_cons_succ]
        refine wpAnyH_take (i := 13) (oi := { dst := some 97, op := Op.pick (Operand.tmp 89) (Operand.tmp 96) (Operand.const (Value.bool false)), type := 4, pos := "ref.go:41", after := #[{ on := 5, ground := Ground.data }, { on := 12, ground := Ground.data }, { on := 14, ground := Ground.gcOnly Departure.lateStores }], guard := none }) (v := ?_) rfl (by kernel_rfl) (by kernel_rfl) (by kernel_rfl) (fun _ _ _ h => h) (Or.inl ⟨by rfl, ?_⟩) (by assumption) ?_
        rotate_left 1
        · intro w hSw; (try dsimp only at hSw); go_simp; try (with_reducible rfl)
        try simp only [Act.put, List.setIfInBounds_toArray, List.set_cons_zero, List.set_cons_succ]
        obtain ⟨f0, f1, f2, f3, f4, f5⟩ := PD.out.2.2.1.free
        obtain ⟨z0, z1, z2, z3, z4, z5⟩ := PD.out.2.2.1.cells
        refine wpAnyH_ready (rs := [14]) (by kernel_rfl) (by simp) ?_
        refine AllReadyH.cons (o := { dst := none, op := Op.store 26 (Operand.tmp 2) (Operand.tmp 84), type := 0, pos := "ref.go:41", after := #[{ on := 0, ground := Ground.data }, { on := 12, ground := Ground.chain }, { on := 0, ground := Ground.phase }, { on := 1, ground := Ground.textOnly Departure.lateStores }, { on := 2, ground := Ground.textOnly Departure.lateStores }, { on := 3, ground := Ground.textOnly Departure.lateStores }, { on := 4, ground := Ground.textOnly Departure.lateStores }, { on := 5, ground := Ground.textOnly Departure.lateStores }, { on := 6, ground := Ground.textOnly Departure.lateStores }, { on := 7, ground := Ground.textOnly Departure.lateStores }, { on := 8, ground := Ground.textOnly Departure.lateStores }, { on := 9, ground := Ground.textOnly Departure.lateStores }, { on := 10, ground := Ground.textOnly Departure.lateStores }, { on := 11, ground := Ground.textOnly Departure.lateStores }, { on := 12, ground := Ground.textOnly Departure.lateStoresUnsure }, { on := 13, ground := Ground.textOnly Departure.lateStores }], guard := none }) rfl (fun K hK => ?_) AllReadyH.nil
        go_simp
        replace PD := Lib.hid (PD.out.set u)
        clear f0 f1 f2 f3 f4 f5 z0 z1 z2 z3 z4 z5
        refine hK.out _ _ (H.out _ _ PD.out) (fun hHeld => ?_)
        clear hK K
        try simp only [Act.put, List.setIfInBounds_toArray, List.set_cons_zero, List.set_cons_succ]
        refine wpAnyH_take (i := 15) (oi := { dst := some 3, op := Op.assign (Operand.tmp 97), type := 4, pos := "ref.go:41", after := #[{ on := 13, ground := Ground.data }, { on := 14, ground := Ground.chain }, { on := 0, ground := Ground.phase }, { on := 1, ground := Ground.phase }, { on := 2, ground := Ground.phase }, { on := 3, ground := Ground.phase }, { on := 4, ground := Ground.phase }, { on := 5, ground := Ground.phase }, { on := 6, ground := Ground.phase }, { on := 7, ground := Ground.phase }, { on := 8, ground := Ground.phase }, { on := 9, ground := Ground.phase }, { on := 10, ground := Ground.phase }, { on := 11, ground := Ground.phase }, { on := 12, ground := Ground.phase }, { on := 13, ground := Ground.phase }, { on := 14, ground := Ground.phase }], guard := none }) (v := ?_) rfl (by kernel_rfl) (by kernel_rfl) (by kernel_rfl) (fun _ _ _ h => h) (Or.inl ⟨by rfl, ?_⟩) (by assumption) ?_
        rotate_left 1
        · intro w hSw; (try dsimp only at hSw); go_simp; try (with_reducible rfl)
        try simp only [Act.put, List.setIfInBounds_toArray, List.set_cons_zero, List.set_cons_succ]
        refine wpAnyH_done (by kernel_rfl) ?_ _
        have BB := Lib.hid PD.out.1
        obtain ⟨c0, c1, c2, c3, c4, c5⟩ := PD.out.2.2.1.cells
        clear H PD
        go_wp2_with fail
        exact bodyPost_ret (v := .tuple #[whV u, .bool b]) (by simp [results, Try.results60, go_sem, c0, c1, c2, c3, c4, c5]) rfl ⟨rfl, BB.out⟩

end Go.Proofs.Ytplndcjmbgkcjaa
