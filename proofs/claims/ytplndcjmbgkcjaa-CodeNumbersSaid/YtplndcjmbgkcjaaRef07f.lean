/-
  The document's own answers of layer 7: what an instruction does.
  Conditions: the numbers fit their kinds.
-/
import Derived.Test.YtplndcjmbgkcjaaWhBox
import Derived.Test.YtplndcjmbgkcjaaRef07a
import Derived.Deep.RegionHeld3
import Derived.Deep.DeepCutAuto
import Derived.Deep.CutBlock
namespace Go.Proofs.Ytplndcjmbgkcjaa
open Go.RowKit
set_option linter.unusedVariables false

set_option maxRecDepth 100000 in
set_option maxHeartbeats 8000000 in
theorem r7_what_out (x : Ins) (h : decide (10 < x.dst) = true ∨ (decide (10 < x.dst) = false ∧ decide (10 < x.src) = true)) (w : World) :
    Calls Try.prog 32 #[iV x] w (Gives (.tuple #[whV Wh.zero, .bool false]) w) := by
  have BB := Lib.hid (IDuo.new x Wh.zero w).1
  rcases h with h | ⟨h, h'⟩
  all_goals
    go_enter Try.func32, Try.ntmps32
    go_wp2_with fail
    exact bodyPost_ret (v := .tuple #[whV Wh.zero, .bool false]) (by simp [results, Try.results32, go_sem, Wh.zero]) rfl ⟨rfl, BB.out⟩

set_option maxRecDepth 100000 in
set_option maxHeartbeats 8000000 in
theorem r7_what_other (x : Ins) (l1 : decide (10 < x.dst) = false) (l2 : decide (10 < x.src) = false) (o1 : 0 ≤ x.op) (o2 : x.op ≤ 255) (v : Wh) (b : Bool)  (w : World)
    (K : Hid (∀ w g, g = w.heap.size → Calls Try.prog 58 #[.slice (some ⟨g, 0, none⟩) 8 8, .int .u8 x.op] (w.alloc (.cells #[.int .u8 212, .int .u8 220, .int .u8 215, .int .u8 24, .int .u8 5, .int .u8 6, .int .u8 133, .int .u8 149] 5)) (Gives (.bool true) w)))
    (C : Hid (∀ w, Calls Try.prog 59 #[iV x] w (Gives (.tuple #[whV v, .bool b]) w))) :
    Calls Try.prog 32 #[iV x] w (Gives (.tuple #[whV v, .bool b]) w) := by
  have P := Lib.hid (IDuo.new x Wh.zero w)
  go_enter Try.func32, Try.ntmps32
  go_wp2_with fail
  refine (K.out _ _ (by simp)).mono ?_
  rintro e w1 ⟨rfl, b1⟩
  have Q := Lib.hid (P.out.after b1)
  clear P b1
  obtain ⟨p0, p1, p2, p3, p4⟩ := Q.out.2.1.cells
  go_wp2_with fail
  refine (C.out _).mono ?_
  rintro e w8 ⟨rfl, b5⟩
  replace Q := Lib.hid (Q.out.after b5)
  clear b5 p0 p1 p2 p3 p4
  obtain ⟨f0, f1, f2, f3, f4, f5⟩ := Q.out.2.2.free
  obtain ⟨z0, z1, z2, z3, z4, z5⟩ := Q.out.2.2.cells
  have BB := Lib.hid (Q.out.set v).1
  go_wp2_with fail
  exact bodyPost_ret (v := .tuple #[whV v, .bool b]) (by simp [results, Try.results32, go_sem, z0, z1, z2, z3, z4, z5]) rfl ⟨rfl, BB.out⟩

set_option maxRecDepth 100000 in
set_option maxHeartbeats 8000000 in
theorem r7_what_arith4 (x : Ins) (l1 : decide (10 < x.dst) = false) (l2 : decide (10 < x.src) = false) (o1 : 0 ≤ x.op) (o2 : x.op ≤ 255) (v : Wh) (b : Bool) (c4 : (x.op % 8 == 4) = true) (c7 : (x.op % 8 == 7) = false) (c5 : (x.op % 8 == 5) = false) (c6 : (x.op % 8 == 6) = false) (w : World)
    (K : Hid (∀ w g, g = w.heap.size → Calls Try.prog 58 #[.slice (some ⟨g, 0, none⟩) 8 8, .int .u8 x.op] (w.alloc (.cells #[.int .u8 212, .int .u8 220, .int .u8 215, .int .u8 24, .int .u8 5, .int .u8 6, .int .u8 133, .int .u8 149] 5)) (Gives (.bool false) w)))
    (C : Hid (∀ w, Calls Try.prog 60 #[iV x] w (Gives (.tuple #[whV v, .bool b]) w))) :
    Calls Try.prog 32 #[iV x] w (Gives (.tuple #[whV v, .bool b]) w) := by
  have P := Lib.hid (IDuo.new x Wh.zero w)
  go_enter Try.func32, Try.ntmps32
  go_wp2_with fail
  refine (K.out _ _ (by simp)).mono ?_
  rintro e w1 ⟨rfl, b1⟩
  have Q := Lib.hid (P.out.after b1)
  clear P b1
  obtain ⟨p0, p1, p2, p3, p4⟩ := Q.out.2.1.cells
  go_wp2_with fail
  refine (C.out _).mono ?_
  rintro e w8 ⟨rfl, b5⟩
  replace Q := Lib.hid (Q.out.after b5)
  clear b5 p0 p1 p2 p3 p4
  obtain ⟨f0, f1, f2, f3, f4, f5⟩ := Q.out.2.2.free
  obtain ⟨z0, z1, z2, z3, z4, z5⟩ := Q.out.2.2.cells
  have BB := Lib.hid (Q.out.set v).1
  go_wp2_with fail
  exact bodyPost_ret (v := .tuple #[whV v, .bool b]) (by simp [results, Try.results32, go_sem, z0, z1, z2, z3, z4, z5]) rfl ⟨rfl, BB.out⟩

set_option maxRecDepth 100000 in
set_option maxHeartbeats 8000000 in
theorem r7_what_arith7 (x : Ins) (l1 : decide (10 < x.dst) = false) (l2 : decide (10 < x.src) = false) (o1 : 0 ≤ x.op) (o2 : x.op ≤ 255) (v : Wh) (b : Bool) (c4 : (x.op % 8 == 4) = false) (c7 : (x.op % 8 == 7) = true) (c5 : (x.op % 8 == 5) = false) (c6 : (x.op % 8 == 6) = false) (w : World)
    (K : Hid (∀ w g, g = w.heap.size → Calls Try.prog 58 #[.slice (some ⟨g, 0, none⟩) 8 8, .int .u8 x.op] (w.alloc (.cells #[.int .u8 212, .int .u8 220, .int .u8 215, .int .u8 24, .int .u8 5, .int .u8 6, .int .u8 133, .int .u8 149] 5)) (Gives (.bool false) w)))
    (C : Hid (∀ w, Calls Try.prog 60 #[iV x] w (Gives (.tuple #[whV v, .bool b]) w))) :
    Calls Try.prog 32 #[iV x] w (Gives (.tuple #[whV v, .bool b]) w) := by
  have P := Lib.hid (IDuo.new x Wh.zero w)
  go_enter Try.func32, Try.ntmps32
  go_wp2_with fail
  refine (K.out _ _ (by simp)).mono ?_
  rintro e w1 ⟨rfl, b1⟩
  have Q := Lib.hid (P.out.after b1)
  clear P b1
  obtain ⟨p0, p1, p2, p3, p4⟩ := Q.out.2.1.cells
  go_wp2_with fail
  refine (C.out _).mono ?_
  rintro e w8 ⟨rfl, b5⟩
  replace Q := Lib.hid (Q.out.after b5)
  clear b5 p0 p1 p2 p3 p4
  obtain ⟨f0, f1, f2, f3, f4, f5⟩ := Q.out.2.2.free
  obtain ⟨z0, z1, z2, z3, z4, z5⟩ := Q.out.2.2.cells
  have BB := Lib.hid (Q.out.set v).1
  go_wp2_with fail
  exact bodyPost_ret (v := .tuple #[whV v, .bool b]) (by simp [results, Try.results32, go_sem, z0, z1, z2, z3, z4, z5]) rfl ⟨rfl, BB.out⟩

set_option maxRecDepth 100000 in
set_option maxHeartbeats 8000000 in
theorem r7_what_memory (x : Ins) (l1 : decide (10 < x.dst) = false) (l2 : decide (10 < x.src) = false) (o1 : 0 ≤ x.op) (o2 : x.op ≤ 255) (v : Wh) (b : Bool) (c4 : (x.op % 8 == 4) = false) (c7 : (x.op % 8 == 7) = false) (c5 : (x.op % 8 == 5) = false) (c6 : (x.op % 8 == 6) = false) (w : World)
    (K : Hid (∀ w g, g = w.heap.size → Calls Try.prog 58 #[.slice (some ⟨g, 0, none⟩) 8 8, .int .u8 x.op] (w.alloc (.cells #[.int .u8 212, .int .u8 220, .int .u8 215, .int .u8 24, .int .u8 5, .int .u8 6, .int .u8 133, .int .u8 149] 5)) (Gives (.bool false) w)))
    (C : Hid (∀ w, Calls Try.prog 62 #[iV x] w (Gives (.tuple #[whV v, .bool b]) w))) :
    Calls Try.prog 32 #[iV x] w (Gives (.tuple #[whV v, .bool b]) w) := by
  have P := Lib.hid (IDuo.new x Wh.zero w)
  go_enter Try.func32, Try.ntmps32
  go_wp2_with fail
  refine (K.out _ _ (by simp)).mono ?_
  rintro e w1 ⟨rfl, b1⟩
  have Q := Lib.hid (P.out.after b1)
  clear P b1
  obtain ⟨p0, p1, p2, p3, p4⟩ := Q.out.2.1.cells
  go_wp2_with fail
  refine (C.out _).mono ?_
  rintro e w8 ⟨rfl, b5⟩
  replace Q := Lib.hid (Q.out.after b5)
  clear b5 p0 p1 p2 p3 p4
  obtain ⟨f0, f1, f2, f3, f4, f5⟩ := Q.out.2.2.free
  obtain ⟨z0, z1, z2, z3, z4, z5⟩ := Q.out.2.2.cells
  have BB := Lib.hid (Q.out.set v).1
  go_wp2_with fail
  exact bodyPost_ret (v := .tuple #[whV v, .bool b]) (by simp [results, Try.results32, go_sem, z0, z1, z2, z3, z4, z5]) rfl ⟨rfl, BB.out⟩

set_option maxRecDepth 100000 in
set_option maxHeartbeats 8000000 in
theorem r7_what_branch5_no (x : Ins) (l1 : decide (10 < x.dst) = false) (l2 : decide (10 < x.src) = false) (o1 : 0 ≤ x.op) (o2 : x.op ≤ 255) (b : Bool) (c4 : (x.op % 8 == 4) = false) (c7 : (x.op % 8 == 7) = false) (c5 : (x.op % 8 == 5) = true) (c6 : (x.op % 8 == 6) = false) (oo : Int) (wi re : Bool) (e1 : x.op / 16 * 16 = oo) (e2 : (x.op % 8 == 5) = wi) (e3 : (x.op / 8 % 2 == 1) = re) (w : World)
    (K : Hid (∀ w g, g = w.heap.size → Calls Try.prog 58 #[.slice (some ⟨g, 0, none⟩) 8 8, .int .u8 x.op] (w.alloc (.cells #[.int .u8 212, .int .u8 220, .int .u8 215, .int .u8 24, .int .u8 5, .int .u8 6, .int .u8 133, .int .u8 149] 5)) (Gives (.bool false) w)))
    (J : Hid (∀ w g, g = w.heap.size → Calls Try.prog 58 #[.slice (some ⟨g, 0, none⟩) 11 11, .int .u8 oo] (w.alloc (.cells #[.int .u8 16, .int .u8 32, .int .u8 48, .int .u8 64, .int .u8 80, .int .u8 96, .int .u8 112, .int .u8 160, .int .u8 176, .int .u8 192, .int .u8 208] 5)) (Gives (.bool false) w))) :
    Calls Try.prog 32 #[iV x] w (Gives (.tuple #[whV (⟨10, oo, wi, re, false, 0⟩ : Wh), .bool false]) w) := by
  have E1 := Lib.hid e1
  have E2 := Lib.hid e2
  have E3 := Lib.hid e3
  clear e1 e2 e3
  have P := Lib.hid (IDuo.new x Wh.zero w)
  go_enter Try.func32, Try.ntmps32
  go_wp2_with fail
  refine (K.out _ _ (by simp)).mono ?_
  rintro e w1 ⟨rfl, b1⟩
  have Q := Lib.hid (P.out.after b1)
  clear P b1
  obtain ⟨p0, p1, p2, p3, p4⟩ := Q.out.2.1.cells
  go_upto_region 12 with fail
  go_cut [5] (fun s wx => ∃ gb, s = .pointer (some ⟨gb, 0, none⟩) ∧ w.heap.size + 1 < gb ∧ Hid (IDuo x Wh.zero w wx ∧ whB gb (⟨10, oo, wi, re, false, 0⟩ : Wh) wx))
  case first =>
    have kq := Q.out.2.2.lt
    go_wp2_with fail
    go_meet
    rw [← E1.out, ← E2.out, ← E3.out]
    exact ⟨_, rfl, kq, Lib.hid ⟨Q.out.after (below_alloc (Below.refl _ _) _), by rw [c5]; exact whB.new _ _ rfl⟩⟩
  case rest =>
    clear Q p0 p1 p2 p3 p4
    obtain ⟨gb, rfl, kq, Q⟩ := hcut
    go_upto_region 13 with fail
    have PD := Lib.hid (And.intro (Q.out.1.after (Below.drew (Below.refl _ _))) (Q.out.2.after (Below.drew (Below.refl _ _))))
    have H : Hid (∀ v wx, IDuo x v w wx ∧ whB gb (⟨10, oo, wi, re, false, 0⟩ : Wh) wx → (wx.cell? ⟨w.heap.size, 0, none⟩ = some (.int .u8 x.op) ∧ wx.cell? ⟨w.heap.size, 1, none⟩ = some (.int .u8 x.dst) ∧ wx.cell? ⟨w.heap.size, 2, none⟩ = some (.int .u8 x.src) ∧ wx.cell? ⟨w.heap.size, 3, none⟩ = some (.int .i16 x.off) ∧ wx.cell? ⟨w.heap.size, 4, none⟩ = some (.int .i32 x.imm)) ∧ (wx.cell? ⟨gb, 0, none⟩ = some (.int .u8 (⟨10, oo, wi, re, false, 0⟩ : Wh).kind) ∧ wx.cell? ⟨gb, 1, none⟩ = some (.int .u8 (⟨10, oo, wi, re, false, 0⟩ : Wh).op) ∧ wx.cell? ⟨gb, 2, none⟩ = some (.bool (⟨10, oo, wi, re, false, 0⟩ : Wh).wide) ∧ wx.cell? ⟨gb, 3, none⟩ = some (.bool (⟨10, oo, wi, re, false, 0⟩ : Wh).reg) ∧ wx.cell? ⟨gb, 4, none⟩ = some (.bool (⟨10, oo, wi, re, false, 0⟩ : Wh).signed) ∧ wx.cell? ⟨gb, 5, none⟩ = some (.int .i64 (⟨10, oo, wi, re, false, 0⟩ : Wh).size))) := Lib.hid fun v wx hx => ⟨hx.1.2.1.cells, hx.2.cells⟩
    refine wp_region_held_drew (S := (fun w' => (w'.cell? ⟨w.heap.size, 0, none⟩ = some (.int .u8 x.op) ∧ w'.cell? ⟨w.heap.size, 1, none⟩ = some (.int .u8 x.dst) ∧ w'.cell? ⟨w.heap.size, 2, none⟩ = some (.int .u8 x.src) ∧ w'.cell? ⟨w.heap.size, 3, none⟩ = some (.int .i16 x.off) ∧ w'.cell? ⟨w.heap.size, 4, none⟩ = some (.int .i32 x.imm)) ∧ (w'.cell? ⟨gb, 0, none⟩ = some (.int .u8 (⟨10, oo, wi, re, false, 0⟩ : Wh).kind) ∧ w'.cell? ⟨gb, 1, none⟩ = some (.int .u8 (⟨10, oo, wi, re, false, 0⟩ : Wh).op) ∧ w'.cell? ⟨gb, 2, none⟩ = some (.bool (⟨10, oo, wi, re, false, 0⟩ : Wh).wide) ∧ w'.cell? ⟨gb, 3, none⟩ = some (.bool (⟨10, oo, wi, re, false, 0⟩ : Wh).reg) ∧ w'.cell? ⟨gb, 4, none⟩ = some (.bool (⟨10, oo, wi, re, false, 0⟩ : Wh).signed) ∧ w'.cell? ⟨gb, 5, none⟩ = some (.int .i64 (⟨10, oo, wi, re, false, 0⟩ : Wh).size)))) (by kernel_rfl) (H.out _ _ PD.out) (fun hHeld => ?_)
    refine wpAnyH_take (i := 0) (oi := { dst := some 49, op := Op.load 26 (Operand.tmp 5), type := 26, pos := "ref.go:116", after := #[], guard := none }) (v := ?_) rfl (by kernel_rfl) (by kernel_rfl) (by kernel_rfl) (fun _ _ _ h => h) (Or.inl ⟨by rfl, ?_⟩) (by assumption) ?_
    rotate_left 1
    · intro w hSw; (try dsimp only at hSw); go_simp; try (with_reducible rfl)
    try simp only [Act.put, List.setIfInBounds_toArray, List.set_cons_zero, List.set_cons_succ]
    refine wpAnyH_take (i := 2) (oi := { dst := some 51, op := Op.fieldAddr 26 (Operand.tmp 5) 1, type := 0, pos := "ref.go:116", after := #[], guard := none }) (v := ?_) rfl (by kernel_rfl) (by kernel_rfl) (by kernel_rfl) (fun _ _ _ h => h) (Or.inl ⟨by rfl, ?_⟩) (by assumption) ?_
    rotate_left 1
    · intro w hSw; (try dsimp only at hSw); go_simp; try (with_reducible rfl)
    try simp only [Act.put, List.setIfInBounds_toArray, List.set_cons_zero, List.set_cons_succ]
    refine wpAnyH_take (i := 3) (oi := { dst := some 52, op := Op.load 5 (Operand.tmp 51), type := 5, pos := "ref.go:116", after := #[{ on := 2, ground := Ground.data }], guard := none }) (v := ?_) rfl (by kernel_rfl) (by kernel_rfl) (by kernel_rfl) (fun _ _ _ h => h) (Or.inl ⟨by rfl, ?_⟩) (by assumption) ?_
    rotate_left 1
    · intro w hSw; (try dsimp only at hSw); go_simp; try (with_reducible rfl)
    try simp only [Act.put, List.setIfInBounds_toArray, List.set_cons_zero, List.set_cons_succ]
    refine wpAnyH_ready (rs := [1]) (by kernel_rfl) (by simp) ?_
    refine AllReadyH.cons (o := { dst := some 50, op := Op.buildSlice 36 11 #[(0, Operand.const (Value.int IntKind.u8 16)), (1, Operand.const (Value.int IntKind.u8 32)), (2, Operand.const (Value.int IntKind.u8 48)), (3, Operand.const (Value.int IntKind.u8 64)), (4, Operand.const (Value.int IntKind.u8 80)), (5, Operand.const (Value.int IntKind.u8 96)), (6, Operand.const (Value.int IntKind.u8 112)), (7, Operand.const (Value.int IntKind.u8 160)), (8, Operand.const (Value.int IntKind.u8 176)), (9, Operand.const (Value.int IntKind.u8 192)), (10, Operand.const (Value.int IntKind.u8 208))], type := 36, pos := "ref.go:116", after := #[], guard := none }) rfl (fun K hK => ?_) AllReadyH.nil
    go_simp
    have PE := Lib.hid (And.intro ((Q.out.1.after (below_alloc (Below.refl _ _) (.cells #[.int .u8 16, .int .u8 32, .int .u8 48, .int .u8 64, .int .u8 80, .int .u8 96, .int .u8 112, .int .u8 160, .int .u8 176, .int .u8 192, .int .u8 208] 5))).after (Below.drew (Below.refl _ _))) ((Q.out.2.after (below_alloc (Below.refl _ _) (.cells #[.int .u8 16, .int .u8 32, .int .u8 48, .int .u8 64, .int .u8 80, .int .u8 96, .int .u8 112, .int .u8 160, .int .u8 176, .int .u8 192, .int .u8 208] 5))).after (Below.drew (Below.refl _ _))))
    refine hK.out _ _ (H.out _ _ PE.out) (fun hHeld => ?_)
    clear hK K
    try simp only [Act.put, List.setIfInBounds_toArray, List.set_cons_zero, List.set_cons_succ]
    refine wpAnyH_ready (rs := [4]) (by kernel_rfl) (by simp) ?_
    refine AllReadyH.cons (o := { dst := some 53, op := Op.call { callee := Callee.value (Operand.func 58), args := #[Operand.tmp 50, Operand.tmp 52], argTypes := #[36, 5] }, type := 4, pos := "ref.go:116", after := #[{ on := 1, ground := Ground.data }, { on := 3, ground := Ground.data }], guard := none }) rfl (fun K hK => ?_) AllReadyH.nil
    go_simp
    refine (J.out wc.drew _ rfl).mono ?_; rintro e w5 ⟨rfl, hb⟩
    replace PD := Lib.hid (And.intro (PD.out.1.after hb) (PD.out.2.after hb))
    clear hb
    go_wp2_with fail
    refine hK.out _ _ (H.out _ _ PD.out) (fun hHeld => ?_)
    clear hK K
    try simp only [Act.put, List.setIfInBounds_toArray, List.set_cons_zero, List.set_cons_succ]
    refine wpAnyH_take (i := 5) (oi := { dst := some 54, op := Op.move (Operand.tmp 53), type := 4, pos := "ref.go:116", after := #[{ on := 4, ground := Ground.data }, { on := 4, ground := Ground.chain }], guard := none }) (v := ?_) rfl (by kernel_rfl) (by kernel_rfl) (by kernel_rfl) (fun _ _ _ h => h) (Or.inl ⟨by rfl, ?_⟩) (by assumption) ?_
    rotate_left 1
    · intro w hSw; (try dsimp only at hSw); go_simp; try (with_reducible rfl)
    try simp only [Act.put, List.setIfInBounds_toArray, List.set_cons_zero, List.set_cons_succ]
    refine wpAnyH_take (i := 6) (oi := { dst := some 55, op := Op.load 24 (Operand.tmp 1), type := 24, pos := "ref.go:116", after := #[{ on := 5, ground := Ground.guard }], guard := some (5, true) }) (v := undef) rfl (by kernel_rfl) (by kernel_rfl) (by kernel_rfl) (fun _ _ _ h => h) (Or.inr ⟨by rfl, rfl⟩) (by assumption) ?_
    try simp only [Act.put, List.setIfInBounds_toArray, List.set_cons_zero, List.set_cons_succ]
    refine wpAnyH_take (i := 7) (oi := { dst := some 56, op := Op.fieldAddr 26 (Operand.tmp 5) 3, type := 0, pos := "ref.go:116", after := #[{ on := 5, ground := Ground.guard }], guard := some (5, true) }) (v := undef) rfl (by kernel_rfl) (by kernel_rfl) (by kernel_rfl) (fun _ _ _ h => h) (Or.inr ⟨by rfl, rfl⟩) (by assumption) ?_
    try simp only [Act.put, List.setIfInBounds_toArray, List.set_cons_zero, List.set_cons_succ]
    refine wpAnyH_take (i := 8) (oi := { dst := some 57, op := Op.load 4 (Operand.tmp 56), type := 4, pos := "ref.go:116", after := #[{ on := 7, ground := Ground.data }, { on := 5, ground := Ground.guard }], guard := some (5, true) }) (v := undef) rfl (by kernel_rfl) (by kernel_rfl) (by kernel_rfl) (fun _ _ _ h => h) (Or.inr ⟨by rfl, rfl⟩) (by assumption) ?_
    try simp only [Act.put, List.setIfInBounds_toArray, List.set_cons_zero, List.set_cons_succ]
    refine wpAnyH_take (i := 9) (oi := { dst := some 58, op := Op.fieldAddr 26 (Operand.tmp 5) 3, type := 0, pos := "ref.go:116", after := #[{ on := 5, ground := Ground.guard }], guard := some (5, true) }) (v := undef) rfl (by kernel_rfl) (by kernel_rfl) (by kernel_rfl) (fun _ _ _ h => h) (Or.inr ⟨by rfl, rfl⟩) (by assumption) ?_
    try simp only [Act.put, List.setIfInBounds_toArray, List.set_cons_zero, List.set_cons_succ]
    refine wpAnyH_take (i := 10) (oi := { dst := some 59, op := Op.load 4 (Operand.tmp 58), type := 4, pos := "ref.go:116", after := #[{ on := 9, ground := Ground.data }, { on := 5, ground := Ground.guard }], guard := some (5, true) }) (v := undef) rfl (by kernel_rfl) (by kernel_rfl) (by kernel_rfl) (fun _ _ _ h => h) (Or.inr ⟨by rfl, rfl⟩) (by assumption) ?_
    try simp only [Act.put, List.setIfInBounds_toArray, List.set_cons_zero, List.set_cons_succ]
    refine wpAnyH_take (i := 11) (oi := { dst := some 60, op := Op.unOp UnOp.not 4 (Operand.tmp 59), type := 4, pos := "ref.go:116", after := #[{ on := 10, ground := Ground.data }, { on := 5, ground := Ground.guard }], guard := some (5, true) }) (v := undef) rfl (by kernel_rfl) (by kernel_rfl) (by kernel_rfl) (fun _ _ _ h => h) (Or.inr ⟨by rfl, rfl⟩) (by assumption) ?_
    try simp only [Act.put, List.setIfInBounds_toArray, List.set_cons_zero, List.set_cons_succ]
    refine wpAnyH_take (i := 12) (oi := { dst := some 61, op := Op.call { callee := Callee.value (Operand.func 61), args := #[Operand.tmp 55, Operand.tmp 57, Operand.const (Value.bool true), Operand.tmp 60], argTypes := #[24, 4, 4, 4] }, type := 4, pos := "ref.go:116", after := #[{ on := 6, ground := Ground.data }, { on := 8, ground := Ground.data }, { on := 11, ground := Ground.data }, { on := 5, ground := Ground.chain }, { on := 5, ground := Ground.guard }], guard := some (5, true) }) (v := undef) rfl (by kernel_rfl) (by kernel_rfl) (by kernel_rfl) (fun _ _ _ h => h) (Or.inr ⟨by rfl, rfl⟩) (by assumption) ?_
    try simp only [Act.put, List.setIfInBounds_toArray, List.set_cons_zero, List.set_cons_succ]
    refine wpAnyH_take (i := 13) (oi := { dst := some 62, op := Op.pick (Operand.tmp 54) (Operand.tmp 61) (Operand.const (Value.bool false)), type := 4, pos := "ref.go:116", after := #[{ on := 5, ground := Ground.data }, { on := 12, ground := Ground.data }, { on := 14, ground := Ground.gcOnly Departure.lateStores }], guard := none }) (v := ?_) rfl (by kernel_rfl) (by kernel_rfl) (by kernel_rfl) (fun _ _ _ h => h) (Or.inl ⟨by rfl, ?_⟩) (by assumption) ?_
    rotate_left 1
    · intro w hSw; (try dsimp only at hSw); go_simp; try (with_reducible rfl)
    try simp only [Act.put, List.setIfInBounds_toArray, List.set_cons_zero, List.set_cons_succ]
    obtain ⟨f0, f1, f2, f3, f4, f5⟩ := PD.out.1.2.2.free
    obtain ⟨z0, z1, z2, z3, z4, z5⟩ := PD.out.1.2.2.cells
    refine wpAnyH_ready (rs := [14]) (by kernel_rfl) (by simp) ?_
    refine AllReadyH.cons (o := { dst := none, op := Op.store 26 (Operand.tmp 2) (Operand.tmp 49), type := 0, pos := "ref.go:116", after := #[{ on := 0, ground := Ground.data }, { on := 12, ground := Ground.chain }, { on := 0, ground := Ground.phase }, { on := 1, ground := Ground.textOnly Departure.lateStores }, { on := 2, ground := Ground.textOnly Departure.lateStores }, { on := 3, ground := Ground.textOnly Departure.lateStores }, { on := 4, ground := Ground.textOnly Departure.lateStoresUnsure }, { on := 5, ground := Ground.textOnly Departure.lateStores }, { on := 6, ground := Ground.textOnly Departure.lateStores }, { on := 7, ground := Ground.textOnly Departure.lateStores }, { on := 8, ground := Ground.textOnly Departure.lateStores }, { on := 9, ground := Ground.textOnly Departure.lateStores }, { on := 10, ground := Ground.textOnly Departure.lateStores }, { on := 11, ground := Ground.textOnly Departure.lateStores }, { on := 12, ground := Ground.textOnly Departure.lateStoresUnsure }, { on := 13, ground := Ground.textOnly Departure.lateStores }], guard := none }) rfl (fun K hK => ?_) AllReadyH.nil
    go_simp
    replace PD := Lib.hid (And.intro (PD.out.1.set (⟨10, oo, wi, re, false, 0⟩ : Wh)) (PD.out.2.whs (k := w.heap.size + 1) (⟨10, oo, wi, re, false, 0⟩ : Wh) (by omega)))
    clear f0 f1 f2 f3 f4 f5 z0 z1 z2 z3 z4 z5
    refine hK.out _ _ (H.out _ _ PD.out) (fun hHeld => ?_)
    clear hK K
    try simp only [Act.put, List.setIfInBounds_toArray, List.set_cons_zero, List.set_cons_succ]
    refine wpAnyH_take (i := 15) (oi := { dst := some 3, op := Op.assign (Operand.tmp 62), type := 4, pos := "ref.go:116", after := #[{ on := 13, ground := Ground.data }, { on := 14, ground := Ground.chain }, { on := 0, ground := Ground.phase }, { on := 1, ground := Ground.phase }, { on := 2, ground := Ground.phase }, { on := 3, ground := Ground.phase }, { on := 4, ground := Ground.phase }, { on := 5, ground := Ground.phase }, { on := 6, ground := Ground.phase }, { on := 7, ground := Ground.phase }, { on := 8, ground := Ground.phase }, { on := 9, ground := Ground.phase }, { on := 10, ground := Ground.phase }, { on := 11, ground := Ground.phase }, { on := 12, ground := Ground.phase }, { on := 13, ground := Ground.phase }, { on := 14, ground := Ground.phase }], guard := none }) (v := ?_) rfl (by kernel_rfl) (by kernel_rfl) (by kernel_rfl) (fun _ _ _ h => h) (Or.inl ⟨by rfl, ?_⟩) (by assumption) ?_
    rotate_left 1
    · intro w hSw; (try dsimp only at hSw); go_simp; try (with_reducible rfl)
    try simp only [Act.put, List.setIfInBounds_toArray, List.set_cons_zero, List.set_cons_succ]
    refine wpAnyH_done (by kernel_rfl) ?_ _
    have BB := Lib.hid PD.out.1.1
    obtain ⟨z0, z1, z2, z3, z4, z5⟩ := PD.out.1.2.2.cells
    clear H PD
    go_wp2_with fail
    exact bodyPost_ret (v := .tuple #[whV (⟨10, oo, wi, re, false, 0⟩ : Wh), .bool false]) (by simp [results, Try.results32, go_sem, z0, z1, z2, z3, z4, z5]) rfl ⟨rfl, BB.out⟩

set_option maxRecDepth 100000 in
set_option maxHeartbeats 8000000 in
theorem r7_what_branch5_yes (x : Ins) (l1 : decide (10 < x.dst) = false) (l2 : decide (10 < x.src) = false) (o1 : 0 ≤ x.op) (o2 : x.op ≤ 255) (b : Bool) (c4 : (x.op % 8 == 4) = false) (c7 : (x.op % 8 == 7) = false) (c5 : (x.op % 8 == 5) = true) (c6 : (x.op % 8 == 6) = false) (oo : Int) (wi re : Bool) (e1 : x.op / 16 * 16 = oo) (e2 : (x.op % 8 == 5) = wi) (e3 : (x.op / 8 % 2 == 1) = re) (w : World)
    (K : Hid (∀ w g, g = w.heap.size → Calls Try.prog 58 #[.slice (some ⟨g, 0, none⟩) 8 8, .int .u8 x.op] (w.alloc (.cells #[.int .u8 212, .int .u8 220, .int .u8 215, .int .u8 24, .int .u8 5, .int .u8 6, .int .u8 133, .int .u8 149] 5)) (Gives (.bool false) w)))
    (J : Hid (∀ w g, g = w.heap.size → Calls Try.prog 58 #[.slice (some ⟨g, 0, none⟩) 11 11, .int .u8 oo] (w.alloc (.cells #[.int .u8 16, .int .u8 32, .int .u8 48, .int .u8 64, .int .u8 80, .int .u8 96, .int .u8 112, .int .u8 160, .int .u8 176, .int .u8 192, .int .u8 208] 5)) (Gives (.bool true) w)))
    (C : Hid (∀ w, Calls Try.prog 61 #[iV x, .bool re, .bool true, .bool (!re)] w (Gives (.bool b) w))) :
    Calls Try.prog 32 #[iV x] w (Gives (.tuple #[whV (⟨10, oo, wi, re, false, 0⟩ : Wh), .bool b]) w) := by
  have E1 := Lib.hid e1
  have E2 := Lib.hid e2
  have E3 := Lib.hid e3
  clear e1 e2 e3
  have P := Lib.hid (IDuo.new x Wh.zero w)
  go_enter Try.func32, Try.ntmps32
  go_wp2_with fail
  refine (K.out _ _ (by simp)).mono ?_
  rintro e w1 ⟨rfl, b1⟩
  have Q := Lib.hid (P.out.after b1)
  clear P b1
  obtain ⟨p0, p1, p2, p3, p4⟩ := Q.out.2.1.cells
  go_upto_region 12 with fail
  go_cut [5] (fun s wx => ∃ gb, s = .pointer (some ⟨gb, 0, none⟩) ∧ w.heap.size + 1 < gb ∧ Hid (IDuo x Wh.zero w wx ∧ whB gb (⟨10, oo, wi, re, false, 0⟩ : Wh) wx))
  case first =>
    have kq := Q.out.2.2.lt
    go_wp2_with fail
    go_meet
    rw [← E1.out, ← E2.out, ← E3.out]
    exact ⟨_, rfl, kq, Lib.hid ⟨Q.out.after (below_alloc (Below.refl _ _) _), by rw [c5]; exact whB.new _ _ rfl⟩⟩
  case rest =>
    clear Q p0 p1 p2 p3 p4
    obtain ⟨gb, rfl, kq, Q⟩ := hcut
    go_upto_region 13 with fail
    have PD := Lib.hid (And.intro (Q.out.1.after (Below.drew (Below.refl _ _))) (Q.out.2.after (Below.drew (Below.refl _ _))))
    have H : Hid (∀ v wx, IDuo x v w wx ∧ whB gb (⟨10, oo, wi, re, false, 0⟩ : Wh) wx → (wx.cell? ⟨w.heap.size, 0, none⟩ = some (.int .u8 x.op) ∧ wx.cell? ⟨w.heap.size, 1, none⟩ = some (.int .u8 x.dst) ∧ wx.cell? ⟨w.heap.size, 2, none⟩ = some (.int .u8 x.src) ∧ wx.cell? ⟨w.heap.size, 3, none⟩ = some (.int .i16 x.off) ∧ wx.cell? ⟨w.heap.size, 4, none⟩ = some (.int .i32 x.imm)) ∧ (wx.cell? ⟨gb, 0, none⟩ = some (.int .u8 (⟨10, oo, wi, re, false, 0⟩ : Wh).kind) ∧ wx.cell? ⟨gb, 1, none⟩ = some (.int .u8 (⟨10, oo, wi, re, false, 0⟩ : Wh).op) ∧ wx.cell? ⟨gb, 2, none⟩ = some (.bool (⟨10, oo, wi, re, false, 0⟩ : Wh).wide) ∧ wx.cell? ⟨gb, 3, none⟩ = some (.bool (⟨10, oo, wi, re, false, 0⟩ : Wh).reg) ∧ wx.cell? ⟨gb, 4, none⟩ = some (.bool (⟨10, oo, wi, re, false, 0⟩ : Wh).signed) ∧ wx.cell? ⟨gb, 5, none⟩ = some (.int .i64 (⟨10, oo, wi, re, false, 0⟩ : Wh).size))) := Lib.hid fun v wx hx => ⟨hx.1.2.1.cells, hx.2.cells⟩
    refine wp_region_held_drew (S := (fun w' => (w'.cell? ⟨w.heap.size, 0, none⟩ = some (.int .u8 x.op) ∧ w'.cell? ⟨w.heap.size, 1, none⟩ = some (.int .u8 x.dst) ∧ w'.cell? ⟨w.heap.size, 2, none⟩ = some (.int .u8 x.src) ∧ w'.cell? ⟨w.heap.size, 3, none⟩ = some (.int .i16 x.off) ∧ w'.cell? ⟨w.heap.size, 4, none⟩ = some (.int .i32 x.imm)) ∧ (w'.cell? ⟨gb, 0, none⟩ = some (.int .u8 (⟨10, oo, wi, re, false, 0⟩ : Wh).kind) ∧ w'.cell? ⟨gb, 1, none⟩ = some (.int .u8 (⟨10, oo, wi, re, false, 0⟩ : Wh).op) ∧ w'.cell? ⟨gb, 2, none⟩ = some (.bool (⟨10, oo, wi, re, false, 0⟩ : Wh).wide) ∧ w'.cell? ⟨gb, 3, none⟩ = some (.bool (⟨10, oo, wi, re, false, 0⟩ : Wh).reg) ∧ w'.cell? ⟨gb, 4, none⟩ = some (.bool (⟨10, oo, wi, re, false, 0⟩ : Wh).signed) ∧ w'.cell? ⟨gb, 5, none⟩ = some (.int .i64 (⟨10, oo, wi, re, false, 0⟩ : Wh).size)))) (by kernel_rfl) (H.out _ _ PD.out) (fun hHeld => ?_)
    refine wpAnyH_take (i := 0) (oi := { dst := some 49, op := Op.load 26 (Operand.tmp 5), type := 26, pos := "ref.go:116", after := #[], guard := none }) (v := ?_) rfl (by kernel_rfl) (by kernel_rfl) (by kernel_rfl) (fun _ _ _ h => h) (Or.inl ⟨by rfl, ?_⟩) (by assumption) ?_
    rotate_left 1
    · intro w hSw; (try dsimp only at hSw); go_simp; try (with_reducible rfl)
    try simp only [Act.put, List.setIfInBounds_toArray, List.set_cons_zero, List.set_cons_succ]
    refine wpAnyH_take (i := 2) (oi := { dst := some 51, op := Op.fieldAddr 26 (Operand.tmp 5) 1, type := 0, pos := "ref.go:116", after := #[], guard := none }) (v := ?_) rfl (by kernel_rfl) (by kernel_rfl) (by kernel_rfl) (fun _ _ _ h => h) (Or.inl ⟨by rfl, ?_⟩) (by assumption) ?_
    rotate_left 1
    · intro w hSw; (try dsimp only at hSw); go_simp; try (with_reducible rfl)
    try simp only [Act.put, List.setIfInBounds_toArray, List.set_cons_zero, List.set_cons_succ]
    refine wpAnyH_take (i := 3) (oi := { dst := some 52, op := Op.load 5 (Operand.tmp 51), type := 5, pos := "ref.go:116", after := #[{ on := 2, ground := Ground.data }], guard := none }) (v := ?_) rfl (by kernel_rfl) (by kernel_rfl) (by kernel_rfl) (fun _ _ _ h => h) (Or.inl ⟨by rfl, ?_⟩) (by assumption) ?_
    rotate_left 1
    · intro w hSw; (try dsimp only at hSw); go_simp; try (with_reducible rfl)
    try simp only [Act.put, List.setIfInBounds_toArray, List.set_cons_zero, List.set_cons_succ]
    refine wpAnyH_ready (rs := [1]) (by kernel_rfl) (by simp) ?_
    refine AllReadyH.cons (o := { dst := some 50, op := Op.buildSlice 36 11 #[(0, Operand.const (Value.int IntKind.u8 16)), (1, Operand.const (Value.int IntKind.u8 32)), (2, Operand.const (Value.int IntKind.u8 48)), (3, Operand.const (Value.int IntKind.u8 64)), (4, Operand.const (Value.int IntKind.u8 80)), (5, Operand.const (Value.int IntKind.u8 96)), (6, Operand.const (Value.int IntKind.u8 112)), (7, Operand.const (Value.int IntKind.u8 160)), (8, Operand.const (Value.int IntKind.u8 176)), (9, Operand.const (Value.int IntKind.u8 192)), (10, Operand.const (Value.int IntKind.u8 208))], type := 36, pos := "ref.go:116", after := #[], guard := none }) rfl (fun K hK => ?_) AllReadyH.nil
    go_simp
    have PE := Lib.hid (And.intro ((Q.out.1.after (below_alloc (Below.refl _ _) (.cells #[.int .u8 16, .int .u8 32, .int .u8 48, .int .u8 64, .int .u8 80, .int .u8 96, .int .u8 112, .int .u8 160, .int .u8 176, .int .u8 192, .int .u8 208] 5))).after (Below.drew (Below.refl _ _))) ((Q.out.2.after (below_alloc (Below.refl _ _) (.cells #[.int .u8 16, .int .u8 32, .int .u8 48, .int .u8 64, .int .u8 80, .int .u8 96, .int .u8 112, .int .u8 160, .int .u8 176, .int .u8 192, .int .u8 208] 5))).after (Below.drew (Below.refl _ _))))
    refine hK.out _ _ (H.out _ _ PE.out) (fun hHeld => ?_)
    clear hK K
    try simp only [Act.put, List.setIfInBounds_toArray, List.set_cons_zero, List.set_cons_succ]
    refine wpAnyH_ready (rs := [4]) (by kernel_rfl) (by simp) ?_
    refine AllReadyH.cons (o := { dst := some 53, op := Op.call { callee := Callee.value (Operand.func 58), args := #[Operand.tmp 50, Operand.tmp 52], argTypes := #[36, 5] }, type := 4, pos := "ref.go:116", after := #[{ on := 1, ground := Ground.data }, { on := 3, ground := Ground.data }], guard := none }) rfl (fun K hK => ?_) AllReadyH.nil
    go_simp
    refine (J.out wc.drew _ rfl).mono ?_; rintro e w5 ⟨rfl, hb⟩
    replace PD := Lib.hid (And.intro (PD.out.1.after hb) (PD.out.2.after hb))
    clear hb
    go_wp2_with fail
    refine hK.out _ _ (H.out _ _ PD.out) (fun hHeld => ?_)
    clear hK K
    try simp only [Act.put, List.setIfInBounds_toArray, List.set_cons_zero, List.set_cons_succ]
    refine wpAnyH_take (i := 5) (oi := { dst := some 54, op := Op.move (Operand.tmp 53), type := 4, pos := "ref.go:116", after := #[{ on := 4, ground := Ground.data }, { on := 4, ground := Ground.chain }], guard := none }) (v := ?_) rfl (by kernel_rfl) (by kernel_rfl) (by kernel_rfl) (fun _ _ _ h => h) (Or.inl ⟨by rfl, ?_⟩) (by assumption) ?_
    rotate_left 1
    · intro w hSw; (try dsimp only at hSw); go_simp; try (with_reducible rfl)
    try simp only [Act.put, List.setIfInBounds_toArray, List.set_cons_zero, List.set_cons_succ]
    refine wpAnyH_take (i := 6) (oi := { dst := some 55, op := Op.load 24 (Operand.tmp 1), type := 24, pos := "ref.go:116", after := #[{ on := 5, ground := Ground.guard }], guard := some (5, true) }) (v := ?_) rfl (by kernel_rfl) (by kernel_rfl) (by kernel_rfl) (fun _ _ _ h => h) (Or.inl ⟨by rfl, ?_⟩) (by assumption) ?_
    rotate_left 1
    · intro w hSw; (try dsimp only at hSw); go_simp; try (with_reducible rfl)
    try simp only [Act.put, List.setIfInBounds_toArray, List.set_cons_zero, List.set_cons_succ]
    refine wpAnyH_take (i := 7) (oi := { dst := some 56, op := Op.fieldAddr 26 (Operand.tmp 5) 3, type := 0, pos := "ref.go:116", after := #[{ on := 5, ground := Ground.guard }], guard := some (5, true) }) (v := ?_) rfl (by kernel_rfl) (by kernel_rfl) (by kernel_rfl) (fun _ _ _ h => h) (Or.inl ⟨by rfl, ?_⟩) (by assumption) ?_
    rotate_left 1
    · intro w hSw; (try dsimp only at hSw); go_simp; try (with_reducible rfl)
    try simp only [Act.put, List.setIfInBounds_toArray, List.set_cons_zero, List.set_cons_succ]
    refine wpAnyH_take (i := 8) (oi := { dst := some 57, op := Op.load 4 (Operand.tmp 56), type := 4, pos := "ref.go:116", after := #[{ on := 7, ground := Ground.data }, { on := 5, ground := Ground.guard }], guard := some (5, true) }) (v := ?_) rfl (by kernel_rfl) (by kernel_rfl) (by kernel_rfl) (fun _ _ _ h => h) (Or.inl ⟨by rfl, ?_⟩) (by assumption) ?_
    rotate_left 1
    · intro w hSw; (try dsimp only at hSw); go_simp; try (with_reducible rfl)
    try simp only [Act.put, List.setIfInBounds_toArray, List.set_cons_zero, List.set_cons_succ]
    refine wpAnyH_take (i := 9) (oi := { dst := some 58, op := Op.fieldAddr 26 (Operand.tmp 5) 3, type := 0, pos := "ref.go:116", after := #[{ on := 5, ground := Ground.guard }], guard := some (5, true) }) (v := ?_) rfl (by kernel_rfl) (by kernel_rfl) (by kernel_rfl) (fun _ _ _ h => h) (Or.inl ⟨by rfl, ?_⟩) (by assumption) ?_
    rotate_left 1
    · intro w hSw; (try dsimp only at hSw); go_simp; try (with_reducible rfl)
    try simp only [Act.put, List.setIfInBounds_toArray, List.set_cons_zero, List.set_cons_succ]
    refine wpAnyH_take (i := 10) (oi := { dst := some 59, op := Op.load 4 (Operand.tmp 58), type := 4, pos := "ref.go:116", after := #[{ on := 9, ground := Ground.data }, { on := 5, ground := Ground.guard }], guard := some (5, true) }) (v := ?_) rfl (by kernel_rfl) (by kernel_rfl) (by kernel_rfl) (fun _ _ _ h => h) (Or.inl ⟨by rfl, ?_⟩) (by assumption) ?_
    rotate_left 1
    · intro w hSw; (try dsimp only at hSw); go_simp; try (with_reducible rfl)
    try simp only [Act.put, List.setIfInBounds_toArray, List.set_cons_zero, List.set_cons_succ]
    refine wpAnyH_take (i := 11) (oi := { dst := some 60, op := Op.unOp UnOp.not 4 (Operand.tmp 59), type := 4, pos := "ref.go:116", after := #[{ on := 10, ground := Ground.data }, { on := 5, ground := Ground.guard }], guard := some (5, true) }) (v := ?_) rfl (by kernel_rfl) (by kernel_rfl) (by kernel_rfl) (fun _ _ _ h => h) (Or.inl ⟨by rfl, ?_⟩) (by assumption) ?_
    rotate_left 1
    · intro w hSw; (try dsimp only at hSw); go_simp; try (with_reducible rfl)
    try simp only [Act.put, List.setIfInBounds_toArray, List.set_cons_zero, List.set_cons_succ]
    refine wpAnyH_ready (rs := [12]) (by kernel_rfl) (by simp) ?_
    refine AllReadyH.cons (o := { dst := some 61, op := Op.call { callee := Callee.value (Operand.func 61), args := #[Operand.tmp 55, Operand.tmp 57, Operand.const (Value.bool true), Operand.tmp 60], argTypes := #[24, 4, 4, 4] }, type := 4, pos := "ref.go:116", after := #[{ on := 6, ground := Ground.data }, { on := 8, ground := Ground.data }, { on := 11, ground := Ground.data }, { on := 5, ground := Ground.chain }, { on := 5, ground := Ground.guard }], guard := some (5, true) }) rfl (fun K hK => ?_) AllReadyH.nil
    go_simp
    refine (C.out _).mono ?_; rintro e w6 ⟨rfl, hb⟩
    replace PD := Lib.hid (And.intro (PD.out.1.after hb) (PD.out.2.after hb))
    clear hb
    go_wp2_with fail
    refine hK.out _ _ (H.out _ _ PD.out) (fun hHeld => ?_)
    clear hK K
    try simp only [Act.put, List.setIfInBounds_toArray, List.set_cons_zero, List.set_cons_succ]
    refine wpAnyH_take (i := 13) (oi := { dst := some 62, op := Op.pick (Operand.tmp 54) (Operand.tmp 61) (Operand.const (Value.bool false)), type := 4, pos := "ref.go:116", after := #[{ on := 5, ground := Ground.data }, { on := 12, ground := Ground.data }, { on := 14, ground := Ground.gcOnly Departure.lateStores }], guard := none }) (v := ?_) rfl (by kernel_rfl) (by kernel_rfl) (by kernel_rfl) (fun _ _ _ h => h) (Or.inl ⟨by rfl, ?_⟩) (by assumption) ?_
    rotate_left 1
    · intro w hSw; (try dsimp only at hSw); go_simp; try (with_reducible rfl)
    try simp only [Act.put, List.setIfInBounds_toArray, List.set_cons_zero, List.set_cons_succ]
    obtain ⟨f0, f1, f2, f3, f4, f5⟩ := PD.out.1.2.2.free
    obtain ⟨z0, z1, z2, z3, z4, z5⟩ := PD.out.1.2.2.cells
    refine wpAnyH_ready (rs := [14]) (by kernel_rfl) (by simp) ?_
    refine AllReadyH.cons (o := { dst := none, op := Op.store 26 (Operand.tmp 2) (Operand.tmp 49), type := 0, pos := "ref.go:116", after := #[{ on := 0, ground := Ground.data }, { on := 12, ground := Ground.chain }, { on := 0, ground := Ground.phase }, { on := 1, ground := Ground.textOnly Departure.lateStores }, { on := 2, ground := Ground.textOnly Departure.lateStores }, { on := 3, ground := Ground.textOnly Departure.lateStores }, { on := 4, ground := Ground.textOnly Departure.lateStoresUnsure }, { on := 5, ground := Ground.textOnly Departure.lateStores }, { on := 6, ground := Ground.textOnly Departure.lateStores }, { on := 7, ground := Ground.textOnly Departure.lateStores }, { on := 8, ground := Ground.textOnly Departure.lateStores }, { on := 9, ground := Ground.textOnly Departure.lateStores }, { on := 10, ground := Ground.textOnly Departure.lateStores }, { on := 11, ground := Ground.textOnly Departure.lateStores }, { on := 12, ground := Ground.textOnly Departure.lateStoresUnsure }, { on := 13, ground := Ground.textOnly Departure.lateStores }], guard := none }) rfl (fun K hK => ?_) AllReadyH.nil
    go_simp
    replace PD := Lib.hid (And.intro (PD.out.1.set (⟨10, oo, wi, re, false, 0⟩ : Wh)) (PD.out.2.whs (k := w.heap.size + 1) (⟨10, oo, wi, re, false, 0⟩ : Wh) (by omega)))
    clear f0 f1 f2 f3 f4 f5 z0 z1 z2 z3 z4 z5
    refine hK.out _ _ (H.out _ _ PD.out) (fun hHeld => ?_)
    clear hK K
    try simp only [Act.put, List.setIfInBounds_toArray, List.set_cons_zero, List.set_cons_succ]
    refine wpAnyH_take (i := 15) (oi := { dst := some 3, op := Op.assign (Operand.tmp 62), type := 4, pos := "ref.go:116", after := #[{ on := 13, ground := Ground.data }, { on := 14, ground := Ground.chain }, { on := 0, ground := Ground.phase }, { on := 1, ground := Ground.phase }, { on := 2, ground := Ground.phase }, { on := 3, ground := Ground.phase }, { on := 4, ground := Ground.phase }, { on := 5, ground := Ground.phase }, { on := 6, ground := Ground.phase }, { on := 7, ground := Ground.phase }, { on := 8, ground := Ground.phase }, { on := 9, ground := Ground.phase }, { on := 10, ground := Ground.phase }, { on := 11, ground := Ground.phase }, { on := 12, ground := Ground.phase }, { on := 13, ground := Ground.phase }, { on := 14, ground := Ground.phase }], guard := none }) (v := ?_) rfl (by kernel_rfl) (by kernel_rfl) (by kernel_rfl) (fun _ _ _ h => h) (Or.inl ⟨by rfl, ?_⟩) (by assumption) ?_
    rotate_left 1
    · intro w hSw; (try dsimp only at hSw); go_simp; try (with_reducible rfl)
    try simp only [Act.put, List.setIfInBounds_toArray, List.set_cons_zero, List.set_cons_succ]
    refine wpAnyH_done (by kernel_rfl) ?_ _
    have BB := Lib.hid PD.out.1.1
    obtain ⟨z0, z1, z2, z3, z4, z5⟩ := PD.out.1.2.2.cells
    clear H PD
    go_wp2_with fail
    exact bodyPost_ret (v := .tuple #[whV (⟨10, oo, wi, re, false, 0⟩ : Wh), .bool b]) (by simp [results, Try.results32, go_sem, z0, z1, z2, z3, z4, z5]) rfl ⟨rfl, BB.out⟩

set_option maxRecDepth 100000 in
set_option maxHeartbeats 8000000 in
theorem r7_what_branch6_no (x : Ins) (l1 : decide (10 < x.dst) = false) (l2 : decide (10 < x.src) = false) (o1 : 0 ≤ x.op) (o2 : x.op ≤ 255) (b : Bool) (c4 : (x.op % 8 == 4) = false) (c7 : (x.op % 8 == 7) = false) (c5 : (x.op % 8 == 5) = false) (c6 : (x.op % 8 == 6) = true) (oo : Int) (wi re : Bool) (e1 : x.op / 16 * 16 = oo) (e2 : (x.op % 8 == 5) = wi) (e3 : (x.op / 8 % 2 == 1) = re) (w : World)
    (K : Hid (∀ w g, g = w.heap.size → Calls Try.prog 58 #[.slice (some ⟨g, 0, none⟩) 8 8, .int .u8 x.op] (w.alloc (.cells #[.int .u8 212, .int .u8 220, .int .u8 215, .int .u8 24, .int .u8 5, .int .u8 6, .int .u8 133, .int .u8 149] 5)) (Gives (.bool false) w)))
    (J : Hid (∀ w g, g = w.heap.size → Calls Try.prog 58 #[.slice (some ⟨g, 0, none⟩) 11 11, .int .u8 oo] (w.alloc (.cells #[.int .u8 16, .int .u8 32, .int .u8 48, .int .u8 64, .int .u8 80, .int .u8 96, .int .u8 112, .int .u8 160, .int .u8 176, .int .u8 192, .int .u8 208] 5)) (Gives (.bool false) w))) :
    Calls Try.prog 32 #[iV x] w (Gives (.tuple #[whV (⟨10, oo, wi, re, false, 0⟩ : Wh), .bool false]) w) := by
  have E1 := Lib.hid e1
  have E2 := Lib.hid e2
  have E3 := Lib.hid e3
  clear e1 e2 e3
  have P := Lib.hid (IDuo.new x Wh.zero w)
  go_enter Try.func32, Try.ntmps32
  go_wp2_with fail
  refine (K.out _ _ (by simp)).mono ?_
  rintro e w1 ⟨rfl, b1⟩
  have Q := Lib.hid (P.out.after b1)
  clear P b1
  obtain ⟨p0, p1, p2, p3, p4⟩ := Q.out.2.1.cells
  go_upto_region 12 with fail
  go_cut [5] (fun s wx => ∃ gb, s = .pointer (some ⟨gb, 0, none⟩) ∧ w.heap.size + 1 < gb ∧ Hid (IDuo x Wh.zero w wx ∧ whB gb (⟨10, oo, wi, re, false, 0⟩ : Wh) wx))
  case first =>
    have kq := Q.out.2.2.lt
    go_wp2_with fail
    go_meet
    rw [← E1.out, ← E2.out, ← E3.out]
    exact ⟨_, rfl, kq, Lib.hid ⟨Q.out.after (below_alloc (Below.refl _ _) _), by rw [c5]; exact whB.new _ _ rfl⟩⟩
  case rest =>
    clear Q p0 p1 p2 p3 p4
    obtain ⟨gb, rfl, kq, Q⟩ := hcut
    go_upto_region 13 with fail
    have PD := Lib.hid (And.intro (Q.out.1.after (Below.drew (Below.refl _ _))) (Q.out.2.after (Below.drew (Below.refl _ _))))
    have H : Hid (∀ v wx, IDuo x v w wx ∧ whB gb (⟨10, oo, wi, re, false, 0⟩ : Wh) wx → (wx.cell? ⟨w.heap.size, 0, none⟩ = some (.int .u8 x.op) ∧ wx.cell? ⟨w.heap.size, 1, none⟩ = some (.int .u8 x.dst) ∧ wx.cell? ⟨w.heap.size, 2, none⟩ = some (.int .u8 x.src) ∧ wx.cell? ⟨w.heap.size, 3, none⟩ = some (.int .i16 x.off) ∧ wx.cell? ⟨w.heap.size, 4, none⟩ = some (.int .i32 x.imm)) ∧ (wx.cell? ⟨gb, 0, none⟩ = some (.int .u8 (⟨10, oo, wi, re, false, 0⟩ : Wh).kind) ∧ wx.cell? ⟨gb, 1, none⟩ = some (.int .u8 (⟨10, oo, wi, re, false, 0⟩ : Wh).op) ∧ wx.cell? ⟨gb, 2, none⟩ = some (.bool (⟨10, oo, wi, re, false, 0⟩ : Wh).wide) ∧ wx.cell? ⟨gb, 3, none⟩ = some (.bool (⟨10, oo, wi, re, false, 0⟩ : Wh).reg) ∧ wx.cell? ⟨gb, 4, none⟩ = some (.bool (⟨10, oo, wi, re, false, 0⟩ : Wh).signed) ∧ wx.cell? ⟨gb, 5, none⟩ = some (.int .i64 (⟨10, oo, wi, re, false, 0⟩ : Wh).size))) := Lib.hid fun v wx hx => ⟨hx.1.2.1.cells, hx.2.cells⟩
    refine wp_region_held_drew (S := (fun w' => (w'.cell? ⟨w.heap.size, 0, none⟩ = some (.int .u8 x.op) ∧ w'.cell? ⟨w.heap.size, 1, none⟩ = some (.int .u8 x.dst) ∧ w'.cell? ⟨w.heap.size, 2, none⟩ = some (.int .u8 x.src) ∧ w'.cell? ⟨w.heap.size, 3, none⟩ = some (.int .i16 x.off) ∧ w'.cell? ⟨w.heap.size, 4, none⟩ = some (.int .i32 x.imm)) ∧ (w'.cell? ⟨gb, 0, none⟩ = some (.int .u8 (⟨10, oo, wi, re, false, 0⟩ : Wh).kind) ∧ w'.cell? ⟨gb, 1, none⟩ = some (.int .u8 (⟨10, oo, wi, re, false, 0⟩ : Wh).op) ∧ w'.cell? ⟨gb, 2, none⟩ = some (.bool (⟨10, oo, wi, re, false, 0⟩ : Wh).wide) ∧ w'.cell? ⟨gb, 3, none⟩ = some (.bool (⟨10, oo, wi, re, false, 0⟩ : Wh).reg) ∧ w'.cell? ⟨gb, 4, none⟩ = some (.bool (⟨10, oo, wi, re, false, 0⟩ : Wh).signed) ∧ w'.cell? ⟨gb, 5, none⟩ = some (.int .i64 (⟨10, oo, wi, re, false, 0⟩ : Wh).size)))) (by kernel_rfl) (H.out _ _ PD.out) (fun hHeld => ?_)
    refine wpAnyH_take (i := 0) (oi := { dst := some 49, op := Op.load 26 (Operand.tmp 5), type := 26, pos := "ref.go:116", after := #[], guard := none }) (v := ?_) rfl (by kernel_rfl) (by kernel_rfl) (by kernel_rfl) (fun _ _ _ h => h) (Or.inl ⟨by rfl, ?_⟩) (by assumption) ?_
    rotate_left 1
    · intro w hSw; (try dsimp only at hSw); go_simp; try (with_reducible rfl)
    try simp only [Act.put, List.setIfInBounds_toArray, List.set_cons_zero, List.set_cons_succ]
    refine wpAnyH_take (i := 2) (oi := { dst := some 51, op := Op.fieldAddr 26 (Operand.tmp 5) 1, type := 0, pos := "ref.go:116", after := #[], guard := none }) (v := ?_) rfl (by kernel_rfl) (by kernel_rfl) (by kernel_rfl) (fun _ _ _ h => h) (Or.inl ⟨by rfl, ?_⟩) (by assumption) ?_
    rotate_left 1
    · intro w hSw; (try dsimp only at hSw); go_simp; try (with_reducible rfl)
    try simp only [Act.put, List.setIfInBounds_toArray, List.set_cons_zero, List.set_cons_succ]
    refine wpAnyH_take (i := 3) (oi := { dst := some 52, op := Op.load 5 (Operand.tmp 51), type := 5, pos := "ref.go:116", after := #[{ on := 2, ground := Ground.data }], guard := none }) (v := ?_) rfl (by kernel_rfl) (by kernel_rfl) (by kernel_rfl) (fun _ _ _ h => h) (Or.inl ⟨by rfl, ?_⟩) (by assumption) ?_
    rotate_left 1
    · intro w hSw; (try dsimp only at hSw); go_simp; try (with_reducible rfl)
    try simp only [Act.put, List.setIfInBounds_toArray, List.set_cons_zero, List.set_cons_succ]
    refine wpAnyH_ready (rs := [1]) (by kernel_rfl) (by simp) ?_
    refine AllReadyH.cons (o := { dst := some 50, op := Op.buildSlice 36 11 #[(0, Operand.const (Value.int IntKind.u8 16)), (1, Operand.const (Value.int IntKind.u8 32)), (2, Operand.const (Value.int IntKind.u8 48)), (3, Operand.const (Value.int IntKind.u8 64)), (4, Operand.const (Value.int IntKind.u8 80)), (5, Operand.const (Value.int IntKind.u8 96)), (6, Operand.const (Value.int IntKind.u8 112)), (7, Operand.const (Value.int IntKind.u8 160)), (8, Operand.const (Value.int IntKind.u8 176)), (9, Operand.const (Value.int IntKind.u8 192)), (10, Operand.const (Value.int IntKind.u8 208))], type := 36, pos := "ref.go:116", after := #[], guard := none }) rfl (fun K hK => ?_) AllReadyH.nil
    go_simp
    have PE := Lib.hid (And.intro ((Q.out.1.after (below_alloc (Below.refl _ _) (.cells #[.int .u8 16, .int .u8 32, .int .u8 48, .int .u8 64, .int .u8 80, .int .u8 96, .int .u8 112, .int .u8 160, .int .u8 176, .int .u8 192, .int .u8 208] 5))).after (Below.drew (Below.refl _ _))) ((Q.out.2.after (below_alloc (Below.refl _ _) (.cells #[.int .u8 16, .int .u8 32, .int .u8 48, .int .u8 64, .int .u8 80, .int .u8 96, .int .u8 112, .int .u8 160, .int .u8 176, .int .u8 192, .int .u8 208] 5))).after (Below.drew (Below.refl _ _))))
    refine hK.out _ _ (H.out _ _ PE.out) (fun hHeld => ?_)
    clear hK K
    try simp only [Act.put, List.setIfInBounds_toArray, List.set_cons_zero, List.set_cons_succ]
    refine wpAnyH_ready (rs := [4]) (by kernel_rfl) (by simp) ?_
    refine AllReadyH.cons (o := { dst := some 53, op := Op.call { callee := Callee.value (Operand.func 58), args := #[Operand.tmp 50, Operand.tmp 52], argTypes := #[36, 5] }, type := 4, pos := "ref.go:116", after := #[{ on := 1, ground := Ground.data }, { on := 3, ground := Ground.data }], guard := none }) rfl (fun K hK => ?_) AllReadyH.nil
    go_simp
    refine (J.out wc.drew _ rfl).mono ?_; rintro e w5 ⟨rfl, hb⟩
    replace PD := Lib.hid (And.intro (PD.out.1.after hb) (PD.out.2.after hb))
    clear hb
    go_wp2_with fail
    refine hK.out _ _ (H.out _ _ PD.out) (fun hHeld => ?_)
    clear hK K
    try simp only [Act.put, List.setIfInBounds_toArray, List.set_cons_zero, List.set_cons_succ]
    refine wpAnyH_take (i := 5) (oi := { dst := some 54, op := Op.move (Operand.tmp 53), type := 4, pos := "ref.go:116", after := #[{ on := 4, ground := Ground.data }, { on := 4, ground := Ground.chain }], guard := none }) (v := ?_) rfl (by kernel_rfl) (by kernel_rfl) (by kernel_rfl) (fun _ _ _ h => h) (Or.inl ⟨by rfl, ?_⟩) (by assumption) ?_
    rotate_left 1
    · intro w hSw; (try dsimp only at hSw); go_simp; try (with_reducible rfl)
    try simp only [Act.put, List.setIfInBounds_toArray, List.set_cons_zero, List.set_cons_succ]
    refine wpAnyH_take (i := 6) (oi := { dst := some 55, op := Op.load 24 (Operand.tmp 1), type := 24, pos := "ref.go:116", after := #[{ on := 5, ground := Ground.guard }], guard := some (5, true) }) (v := undef) rfl (by kernel_rfl) (by kernel_rfl) (by kernel_rfl) (fun _ _ _ h => h) (Or.inr ⟨by rfl, rfl⟩) (by assumption) ?_
    try simp only [Act.put, List.setIfInBounds_toArray, List.set_cons_zero, List.set_cons_succ]
    refine wpAnyH_take (i := 7) (oi := { dst := some 56, op := Op.fieldAddr 26 (Operand.tmp 5) 3, type := 0, pos := "ref.go:116", after := #[{ on := 5, ground := Ground.guard }], guard := some (5, true) }) (v := undef) rfl (by kernel_rfl) (by kernel_rfl) (by kernel_rfl) (fun _ _ _ h => h) (Or.inr ⟨by rfl, rfl⟩) (by assumption) ?_
    try simp only [Act.put, List.setIfInBounds_toArray, List.set_cons_zero, List.set_cons_succ]
    refine wpAnyH_take (i := 8) (oi := { dst := some 57, op := Op.load 4 (Operand.tmp 56), type := 4, pos := "ref.go:116", after := #[{ on := 7, ground := Ground.data }, { on := 5, ground := Ground.guard }], guard := some (5, true) }) (v := undef) rfl (by kernel_rfl) (by kernel_rfl) (by kernel_rfl) (fun _ _ _ h => h) (Or.inr ⟨by rfl, rfl⟩) (by assumption) ?_
    try simp only [Act.put, List.setIfInBounds_toArray, List.set_cons_zero, List.set_cons_succ]
    refine wpAnyH_take (i := 9) (oi := { dst := some 58, op := Op.fieldAddr 26 (Operand.tmp 5) 3, type := 0, pos := "ref.go:116", after := #[{ on := 5, ground := Ground.guard }], guard := some (5, true) }) (v := undef) rfl (by kernel_rfl) (by kernel_rfl) (by kernel_rfl) (fun _ _ _ h => h) (Or.inr ⟨by rfl, rfl⟩) (by assumption) ?_
    try simp only [Act.put, List.setIfInBounds_toArray, List.set_cons_zero, List.set_cons_succ]
    refine wpAnyH_take (i := 10) (oi := { dst := some 59, op := Op.load 4 (Operand.tmp 58), type := 4, pos := "ref.go:116", after := #[{ on := 9, ground := Ground.data }, { on := 5, ground := Ground.guard }], guard := some (5, true) }) (v := undef) rfl (by kernel_rfl) (by kernel_rfl) (by kernel_rfl) (fun _ _ _ h => h) (Or.inr ⟨by rfl, rfl⟩) (by assumption) ?_
    try simp only [Act.put, List.setIfInBounds_toArray, List.set_cons_zero, List.set_cons_succ]
    refine wpAnyH_take (i := 11) (oi := { dst := some 60, op := Op.unOp UnOp.not 4 (Operand.tmp 59), type := 4, pos := "ref.go:116", after := #[{ on := 10, ground := Ground.data }, { on := 5, ground := Ground.guard }], guard := some (5, true) }) (v := undef) rfl (by kernel_rfl) (by kernel_rfl) (by kernel_rfl) (fun _ _ _ h => h) (Or.inr ⟨by rfl, rfl⟩) (by assumption) ?_
    try simp only [Act.put, List.setIfInBounds_toArray, List.set_cons_zero, List.set_cons_succ]
    refine wpAnyH_take (i := 12) (oi := { dst := some 61, op := Op.call { callee := Callee.value (Operand.func 61), args := #[Operand.tmp 55, Operand.tmp 57, Operand.const (Value.bool true), Operand.tmp 60], argTypes := #[24, 4, 4, 4] }, type := 4, pos := "ref.go:116", after := #[{ on := 6, ground := Ground.data }, { on := 8, ground := Ground.data }, { on := 11, ground := Ground.data }, { on := 5, ground := Ground.chain }, { on := 5, ground := Ground.guard }], guard := some (5, true) }) (v := undef) rfl (by kernel_rfl) (by kernel_rfl) (by kernel_rfl) (fun _ _ _ h => h) (Or.inr ⟨by rfl, rfl⟩) (by assumption) ?_
    try simp only [Act.put, List.setIfInBounds_toArray, List.set_cons_zero, List.set_cons_succ]
    refine wpAnyH_take (i := 13) (oi := { dst := some 62, op := Op.pick (Operand.tmp 54) (Operand.tmp 61) (Operand.const (Value.bool false)), type := 4, pos := "ref.go:116", after := #[{ on := 5, ground := Ground.data }, { on := 12, ground := Ground.data }, { on := 14, ground := Ground.gcOnly Departure.lateStores }], guard := none }) (v := ?_) rfl (by kernel_rfl) (by kernel_rfl) (by kernel_rfl) (fun _ _ _ h => h) (Or.inl ⟨by rfl, ?_⟩) (by assumption) ?_
    rotate_left 1
    · intro w hSw; (try dsimp only at hSw); go_simp; try (with_reducible rfl)
    try simp only [Act.put, List.setIfInBounds_toArray, List.set_cons_zero, List.set_cons_succ]
    obtain ⟨f0, f1, f2, f3, f4, f5⟩ := PD.out.1.2.2.free
    obtain ⟨z0, z1, z2, z3, z4, z5⟩ := PD.out.1.2.2.cells
    refine wpAnyH_ready (rs := [14]) (by kernel_rfl) (by simp) ?_
    refine AllReadyH.cons (o := { dst := none, op := Op.store 26 (Operand.tmp 2) (Operand.tmp 49), type := 0, pos := "ref.go:116", after := #[{ on := 0, ground := Ground.data }, { on := 12, ground := Ground.chain }, { on := 0, ground := Ground.phase }, { on := 1, ground := Ground.textOnly Departure.lateStores }, { on := 2, ground := Ground.textOnly Departure.lateStores }, { on := 3, ground := Ground.textOnly Departure.lateStores }, { on := 4, ground := Ground.textOnly Departure.lateStoresUnsure }, { on := 5, ground := Ground.textOnly Departure.lateStores }, { on := 6, ground := Ground.textOnly Departure.lateStores }, { on := 7, ground := Ground.textOnly Departure.lateStores }, { on := 8, ground := Ground.textOnly Departure.lateStores }, { on := 9, ground := Ground.textOnly Departure.lateStores }, { on := 10, ground := Ground.textOnly Departure.lateStores }, { on := 11, ground := Ground.textOnly Departure.lateStores }, { on := 12, ground := Ground.textOnly Departure.lateStoresUnsure }, { on := 13, ground := Ground.textOnly Departure.lateStores }], guard := none }) rfl (fun K hK => ?_) AllReadyH.nil
    go_simp
    replace PD := Lib.hid (And.intro (PD.out.1.set (⟨10, oo, wi, re, false, 0⟩ : Wh)) (PD.out.2.whs (k := w.heap.size + 1) (⟨10, oo, wi, re, false, 0⟩ : Wh) (by omega)))
    clear f0 f1 f2 f3 f4 f5 z0 z1 z2 z3 z4 z5
    refine hK.out _ _ (H.out _ _ PD.out) (fun hHeld => ?_)
    clear hK K
    try simp only [Act.put, List.setIfInBounds_toArray, List.set_cons_zero, List.set_cons_succ]
    refine wpAnyH_take (i := 15) (oi := { dst := some 3, op := Op.assign (Operand.tmp 62), type := 4, pos := "ref.go:116", after := #[{ on := 13, ground := Ground.data }, { on := 14, ground := Ground.chain }, { on := 0, ground := Ground.phase }, { on := 1, ground := Ground.phase }, { on := 2, ground := Ground.phase }, { on := 3, ground := Ground.phase }, { on := 4, ground := Ground.phase }, { on := 5, ground := Ground.phase }, { on := 6, ground := Ground.phase }, { on := 7, ground := Ground.phase }, { on := 8, ground := Ground.phase }, { on := 9, ground := Ground.phase }, { on := 10, ground := Ground.phase }, { on := 11, ground := Ground.phase }, { on := 12, ground := Ground.phase }, { on := 13, ground := Ground.phase }, { on := 14, ground := Ground.phase }], guard := none }) (v := ?_) rfl (by kernel_rfl) (by kernel_rfl) (by kernel_rfl) (fun _ _ _ h => h) (Or.inl ⟨by rfl, ?_⟩) (by assumption) ?_
    rotate_left 1
    · intro w hSw; (try dsimp only at hSw); go_simp; try (with_reducible rfl)
    try simp only [Act.put, List.setIfInBounds_toArray, List.set_cons_zero, List.set_cons_succ]
    refine wpAnyH_done (by kernel_rfl) ?_ _
    have BB := Lib.hid PD.out.1.1
    obtain ⟨z0, z1, z2, z3, z4, z5⟩ := PD.out.1.2.2.cells
    clear H PD
    go_wp2_with fail
    exact bodyPost_ret (v := .tuple #[whV (⟨10, oo, wi, re, false, 0⟩ : Wh), .bool false]) (by simp [results, Try.results32, go_sem, z0, z1, z2, z3, z4, z5]) rfl ⟨rfl, BB.out⟩

set_option maxRecDepth 100000 in
set_option maxHeartbeats 8000000 in
theorem r7_what_branch6_yes (x : Ins) (l1 : decide (10 < x.dst) = false) (l2 : decide (10 < x.src) = false) (o1 : 0 ≤ x.op) (o2 : x.op ≤ 255) (b : Bool) (c4 : (x.op % 8 == 4) = false) (c7 : (x.op % 8 == 7) = false) (c5 : (x.op % 8 == 5) = false) (c6 : (x.op % 8 == 6) = true) (oo : Int) (wi re : Bool) (e1 : x.op / 16 * 16 = oo) (e2 : (x.op % 8 == 5) = wi) (e3 : (x.op / 8 % 2 == 1) = re) (w : World)
    (K : Hid (∀ w g, g = w.heap.size → Calls Try.prog 58 #[.slice (some ⟨g, 0, none⟩) 8 8, .int .u8 x.op] (w.alloc (.cells #[.int .u8 212, .int .u8 220, .int .u8 215, .int .u8 24, .int .u8 5, .int .u8 6, .int .u8 133, .int .u8 149] 5)) (Gives (.bool false) w)))
    (J : Hid (∀ w g, g = w.heap.size → Calls Try.prog 58 #[.slice (some ⟨g, 0, none⟩) 11 11, .int .u8 oo] (w.alloc (.cells #[.int .u8 16, .int .u8 32, .int .u8 48, .int .u8 64, .int .u8 80, .int .u8 96, .int .u8 112, .int .u8 160, .int .u8 176, .int .u8 192, .int .u8 208] 5)) (Gives (.bool true) w)))
    (C : Hid (∀ w, Calls Try.prog 61 #[iV x, .bool re, .bool true, .bool (!re)] w (Gives (.bool b) w))) :
    Calls Try.prog 32 #[iV x] w (Gives (.tuple #[whV (⟨10, oo, wi, re, false, 0⟩ : Wh), .bool b]) w) := by
  have E1 := Lib.hid e1
  have E2 := Lib.hid e2
  have E3 := Lib.hid e3
  clear e1 e2 e3
  have P := Lib.hid (IDuo.new x Wh.zero w)
  go_enter Try.func32, Try.ntmps32
  go_wp2_with fail
  refine (K.out _ _ (by simp)).mono ?_
  rintro e w1 ⟨rfl, b1⟩
  have Q := Lib.hid (P.out.after b1)
  clear P b1
  obtain ⟨p0, p1, p2, p3, p4⟩ := Q.out.2.1.cells
  go_upto_region 12 with fail
  go_cut [5] (fun s wx => ∃ gb, s = .pointer (some ⟨gb, 0, none⟩) ∧ w.heap.size + 1 < gb ∧ Hid (IDuo x Wh.zero w wx ∧ whB gb (⟨10, oo, wi, re, false, 0⟩ : Wh) wx))
  case first =>
    have kq := Q.out.2.2.lt
    go_wp2_with fail
    go_meet
    rw [← E1.out, ← E2.out, ← E3.out]
    exact ⟨_, rfl, kq, Lib.hid ⟨Q.out.after (below_alloc (Below.refl _ _) _), by rw [c5]; exact whB.new _ _ rfl⟩⟩
  case rest =>
    clear Q p0 p1 p2 p3 p4
    obtain ⟨gb, rfl, kq, Q⟩ := hcut
    go_upto_region 13 with fail
    have PD := Lib.hid (And.intro (Q.out.1.after (Below.drew (Below.refl _ _))) (Q.out.2.after (Below.drew (Below.refl _ _))))
    have H : Hid (∀ v wx, IDuo x v w wx ∧ whB gb (⟨10, oo, wi, re, false, 0⟩ : Wh) wx → (wx.cell? ⟨w.heap.size, 0, none⟩ = some (.int .u8 x.op) ∧ wx.cell? ⟨w.heap.size, 1, none⟩ = some (.int .u8 x.dst) ∧ wx.cell? ⟨w.heap.size, 2, none⟩ = some (.int .u8 x.src) ∧ wx.cell? ⟨w.heap.size, 3, none⟩ = some (.int .i16 x.off) ∧ wx.cell? ⟨w.heap.size, 4, none⟩ = some (.int .i32 x.imm)) ∧ (wx.cell? ⟨gb, 0, none⟩ = some (.int .u8 (⟨10, oo, wi, re, false, 0⟩ : Wh).kind) ∧ wx.cell? ⟨gb, 1, none⟩ = some (.int .u8 (⟨10, oo, wi, re, false, 0⟩ : Wh).op) ∧ wx.cell? ⟨gb, 2, none⟩ = some (.bool (⟨10, oo, wi, re, false, 0⟩ : Wh).wide) ∧ wx.cell? ⟨gb, 3, none⟩ = some (.bool (⟨10, oo, wi, re, false, 0⟩ : Wh).reg) ∧ wx.cell? ⟨gb, 4, none⟩ = some (.bool (⟨10, oo, wi, re, false, 0⟩ : Wh).signed) ∧ wx.cell? ⟨gb, 5, none⟩ = some (.int .i64 (⟨10, oo, wi, re, false, 0⟩ : Wh).size))) := Lib.hid fun v wx hx => ⟨hx.1.2.1.cells, hx.2.cells⟩
    refine wp_region_held_drew (S := (fun w' => (w'.cell? ⟨w.heap.size, 0, none⟩ = some (.int .u8 x.op) ∧ w'.cell? ⟨w.heap.size, 1, none⟩ = some (.int .u8 x.dst) ∧ w'.cell? ⟨w.heap.size, 2, none⟩ = some (.int .u8 x.src) ∧ w'.cell? ⟨w.heap.size, 3, none⟩ = some (.int .i16 x.off) ∧ w'.cell? ⟨w.heap.size, 4, none⟩ = some (.int .i32 x.imm)) ∧ (w'.cell? ⟨gb, 0, none⟩ = some (.int .u8 (⟨10, oo, wi, re, false, 0⟩ : Wh).kind) ∧ w'.cell? ⟨gb, 1, none⟩ = some (.int .u8 (⟨10, oo, wi, re, false, 0⟩ : Wh).op) ∧ w'.cell? ⟨gb, 2, none⟩ = some (.bool (⟨10, oo, wi, re, false, 0⟩ : Wh).wide) ∧ w'.cell? ⟨gb, 3, none⟩ = some (.bool (⟨10, oo, wi, re, false, 0⟩ : Wh).reg) ∧ w'.cell? ⟨gb, 4, none⟩ = some (.bool (⟨10, oo, wi, re, false, 0⟩ : Wh).signed) ∧ w'.cell? ⟨gb, 5, none⟩ = some (.int .i64 (⟨10, oo, wi, re, false, 0⟩ : Wh).size)))) (by kernel_rfl) (H.out _ _ PD.out) (fun hHeld => ?_)
    refine wpAnyH_take (i := 0) (oi := { dst := some 49, op := Op.load 26 (Operand.tmp 5), type := 26, pos := "ref.go:116", after := #[], guard := none }) (v := ?_) rfl (by kernel_rfl) (by kernel_rfl) (by kernel_rfl) (fun _ _ _ h => h) (Or.inl ⟨by rfl, ?_⟩) (by assumption) ?_
    rotate_left 1
    · intro w hSw; (try dsimp only at hSw); go_simp; try (with_reducible rfl)
    try simp only [Act.put, List.setIfInBounds_toArray, List.set_cons_zero, List.set_cons_succ]
    refine wpAnyH_take (i := 2) (oi := { dst := some 51, op := Op.fieldAddr 26 (Operand.tmp 5) 1, type := 0, pos := "ref.go:116", after := #[], guard := none }) (v := ?_) rfl (by kernel_rfl) (by kernel_rfl) (by kernel_rfl) (fun _ _ _ h => h) (Or.inl ⟨by rfl, ?_⟩) (by assumption) ?_
    rotate_left 1
    · intro w hSw; (try dsimp only at hSw); go_simp; try (with_reducible rfl)
    try simp only [Act.put, List.setIfInBounds_toArray, List.set_cons_zero, List.set_cons_succ]
    refine wpAnyH_take (i := 3) (oi := { dst := some 52, op := Op.load 5 (Operand.tmp 51), type := 5, pos := "ref.go:116", after := #[{ on := 2, ground := Ground.data }], guard := none }) (v := ?_) rfl (by kernel_rfl) (by kernel_rfl) (by kernel_rfl) (fun _ _ _ h => h) (Or.inl ⟨by rfl, ?_⟩) (by assumption) ?_
    rotate_left 1
    · intro w hSw; (try dsimp only at hSw); go_simp; try (with_reducible rfl)
    try simp only [Act.put, List.setIfInBounds_toArray, List.set_cons_zero, List.set_cons_succ]
    refine wpAnyH_ready (rs := [1]) (by kernel_rfl) (by simp) ?_
    refine AllReadyH.cons (o := { dst := some 50, op := Op.buildSlice 36 11 #[(0, Operand.const (Value.int IntKind.u8 16)), (1, Operand.const (Value.int IntKind.u8 32)), (2, Operand.const (Value.int IntKind.u8 48)), (3, Operand.const (Value.int IntKind.u8 64)), (4, Operand.const (Value.int IntKind.u8 80)), (5, Operand.const (Value.int IntKind.u8 96)), (6, Operand.const (Value.int IntKind.u8 112)), (7, Operand.const (Value.int IntKind.u8 160)), (8, Operand.const (Value.int IntKind.u8 176)), (9, Operand.const (Value.int IntKind.u8 192)), (10, Operand.const (Value.int IntKind.u8 208))], type := 36, pos := "ref.go:116", after := #[], guard := none }) rfl (fun K hK => ?_) AllReadyH.nil
    go_simp
    have PE := Lib.hid (And.intro ((Q.out.1.after (below_alloc (Below.refl _ _) (.cells #[.int .u8 16, .int .u8 32, .int .u8 48, .int .u8 64, .int .u8 80, .int .u8 96, .int .u8 112, .int .u8 160, .int .u8 176, .int .u8 192, .int .u8 208] 5))).after (Below.drew (Below.refl _ _))) ((Q.out.2.after (below_alloc (Below.refl _ _) (.cells #[.int .u8 16, .int .u8 32, .int .u8 48, .int .u8 64, .int .u8 80, .int .u8 96, .int .u8 112, .int .u8 160, .int .u8 176, .int .u8 192, .int .u8 208] 5))).after (Below.drew (Below.refl _ _))))
    refine hK.out _ _ (H.out _ _ PE.out) (fun hHeld => ?_)
    clear hK K
    try simp only [Act.put, List.setIfInBounds_toArray, List.set_cons_zero, List.set_cons_succ]
    refine wpAnyH_ready (rs := [4]) (by kernel_rfl) (by simp) ?_
    refine AllReadyH.cons (o := { dst := some 53, op := Op.call { callee := Callee.value (Operand.func 58), args := #[Operand.tmp 50, Operand.tmp 52], argTypes := #[36, 5] }, type := 4, pos := "ref.go:116", after := #[{ on := 1, ground := Ground.data }, { on := 3, ground := Ground.data }], guard := none }) rfl (fun K hK => ?_) AllReadyH.nil
    go_simp
    refine (J.out wc.drew _ rfl).mono ?_; rintro e w5 ⟨rfl, hb⟩
    replace PD := Lib.hid (And.intro (PD.out.1.after hb) (PD.out.2.after hb))
    clear hb
    go_wp2_with fail
    refine hK.out _ _ (H.out _ _ PD.out) (fun hHeld => ?_)
    clear hK K
    try simp only [Act.put, List.setIfInBounds_toArray, List.set_cons_zero, List.set_cons_succ]
    refine wpAnyH_take (i := 5) (oi := { dst := some 54, op := Op.move (Operand.tmp 53), type := 4, pos := "ref.go:116", after := #[{ on := 4, ground := Ground.data }, { on := 4, ground := Ground.chain }], guard := none }) (v := ?_) rfl (by kernel_rfl) (by kernel_rfl) (by kernel_rfl) (fun _ _ _ h => h) (Or.inl ⟨by rfl, ?_⟩) (by assumption) ?_
    rotate_left 1
    · intro w hSw; (try dsimp only at hSw); go_simp; try (with_reducible rfl)
    try simp only [Act.put, List.setIfInBounds_toArray, List.set_cons_zero, List.set_cons_succ]
    refine wpAnyH_take (i := 6) (oi := { dst := some 55, op := Op.load 24 (Operand.tmp 1), type := 24, pos := "ref.go:116", after := #[{ on := 5, ground := Ground.guard }], guard := some (5, true) }) (v := ?_) rfl (by kernel_rfl) (by kernel_rfl) (by kernel_rfl) (fun _ _ _ h => h) (Or.inl ⟨by rfl, ?_⟩) (by assumption) ?_
    rotate_left 1
    · intro w hSw; (try dsimp only at hSw); go_simp; try (with_reducible rfl)
    try simp only [Act.put, List.setIfInBounds_toArray, List.set_cons_zero, List.set_cons_succ]
    refine wpAnyH_take (i := 7) (oi := { dst := some 56, op := Op.fieldAddr 26 (Operand.tmp 5) 3, type := 0, pos := "ref.go:116", after := #[{ on := 5, ground := Ground.guard }], guard := some (5, true) }) (v := ?_) rfl (by kernel_rfl) (by kernel_rfl) (by kernel_rfl) (fun _ _ _ h => h) (Or.inl ⟨by rfl, ?_⟩) (by assumption) ?_
    rotate_left 1
    · intro w hSw; (try dsimp only at hSw); go_simp; try (with_reducible rfl)
    try simp only [Act.put, List.setIfInBounds_toArray, List.set_cons_zero, List.set_cons_succ]
    refine wpAnyH_take (i := 8) (oi := { dst := some 57, op := Op.load 4 (Operand.tmp 56), type := 4, pos := "ref.go:116", after := #[{ on := 7, ground := Ground.data }, { on := 5, ground := Ground.guard }], guard := some (5, true) }) (v := ?_) rfl (by kernel_rfl) (by kernel_rfl) (by kernel_rfl) (fun _ _ _ h => h) (Or.inl ⟨by rfl, ?_⟩) (by assumption) ?_
    rotate_left 1
    · intro w hSw; (try dsimp only at hSw); go_simp; try (with_reducible rfl)
    try simp only [Act.put, List.setIfInBounds_toArray, List.set_cons_zero, List.set_cons_succ]
    refine wpAnyH_take (i := 9) (oi := { dst := some 58, op := Op.fieldAddr 26 (Operand.tmp 5) 3, type := 0, pos := "ref.go:116", after := #[{ on := 5, ground := Ground.guard }], guard := some (5, true) }) (v := ?_) rfl (by kernel_rfl) (by kernel_rfl) (by kernel_rfl) (fun _ _ _ h => h) (Or.inl ⟨by rfl, ?_⟩) (by assumption) ?_
    rotate_left 1
    · intro w hSw; (try dsimp only at hSw); go_simp; try (with_reducible rfl)
    try simp only [Act.put, List.setIfInBounds_toArray, List.set_cons_zero, List.set_cons_succ]
    refine wpAnyH_take (i := 10) (oi := { dst := some 59, op := Op.load 4 (Operand.tmp 58), type := 4, pos := "ref.go:116", after := #[{ on := 9, ground := Ground.data }, { on := 5, ground := Ground.guard }], guard := some (5, true) }) (v := ?_) rfl (by kernel_rfl) (by kernel_rfl) (by kernel_rfl) (fun _ _ _ h => h) (Or.inl ⟨by rfl, ?_⟩) (by assumption) ?_
    rotate_left 1
    · intro w hSw; (try dsimp only at hSw); go_simp; try (with_reducible rfl)
    try simp only [Act.put, List.setIfInBounds_toArray, List.set_cons_zero, List.set_cons_succ]
    refine wpAnyH_take (i := 11) (oi := { dst := some 60, op := Op.unOp UnOp.not 4 (Operand.tmp 59), type := 4, pos := "ref.go:116", after := #[{ on := 10, ground := Ground.data }, { on := 5, ground := Ground.guard }], guard := some (5, true) }) (v := ?_) rfl (by kernel_rfl) (by kernel_rfl) (by kernel_rfl) (fun _ _ _ h => h) (Or.inl ⟨by rfl, ?_⟩) (by assumption) ?_
    rotate_left 1
    · intro w hSw; (try dsimp only at hSw); go_simp; try (with_reducible rfl)
    try simp only [Act.put, List.setIfInBounds_toArray, List.set_cons_zero, List.set_cons_succ]
    refine wpAnyH_ready (rs := [12]) (by kernel_rfl) (by simp) ?_
    refine AllReadyH.cons (o := { dst := some 61, op := Op.call { callee := Callee.value (Operand.func 61), args := #[Operand.tmp 55, Operand.tmp 57, Operand.const (Value.bool true), Operand.tmp 60], argTypes := #[24, 4, 4, 4] }, type := 4, pos := "ref.go:116", after := #[{ on := 6, ground := Ground.data }, { on := 8, ground := Ground.data }, { on := 11, ground := Ground.data }, { on := 5, ground := Ground.chain }, { on := 5, ground := Ground.guard }], guard := some (5, true) }) rfl (fun K hK => ?_) AllReadyH.nil
    go_simp
    refine (C.out _).mono ?_; rintro e w6 ⟨rfl, hb⟩
    replace PD := Lib.hid (And.intro (PD.out.1.after hb) (PD.out.2.after hb))
    clear hb
    go_wp2_with fail
    refine hK.out _ _ (H.out _ _ PD.out) (fun hHeld => ?_)
    clear hK K
    try simp only [Act.put, List.setIfInBounds_toArray, List.set_cons_zero, List.set_cons_succ]
    refine wpAnyH_take (i := 13) (oi := { dst := some 62, op := Op.pick (Operand.tmp 54) (Operand.tmp 61) (Operand.const (Value.bool false)), type := 4, pos := "ref.go:116", after := #[{ on := 5, ground := Ground.data }, { on := 12, ground := Ground.data }, { on := 14, ground := Ground.gcOnly Departure.lateStores }], guard := none }) (v := ?_) rfl (by kernel_rfl) (by kernel_rfl) (by kernel_rfl) (fun _ _ _ h => h) (Or.inl ⟨by rfl, ?_⟩) (by assumption) ?_
    rotate_left 1
    · intro w hSw; (try dsimp only at hSw); go_simp; try (with_reducible rfl)
    try simp only [Act.put, List.setIfInBounds_toArray, List.set_cons_zero, List.set_cons_succ]
    obtain ⟨f0, f1, f2, f3, f4, f5⟩ := PD.out.1.2.2.free
    obtain ⟨z0, z1, z2, z3, z4, z5⟩ := PD.out.1.2.2.cells
    refine wpAnyH_ready (rs := [14]) (by kernel_rfl) (by simp) ?_
    refine AllReadyH.cons (o := { dst := none, op := Op.store 26 (Operand.tmp 2) (Operand.tmp 49), type := 0, pos := "ref.go:116", after := #[{ on := 0, ground := Ground.data }, { on := 12, ground := Ground.chain }, { on := 0, ground := Ground.phase }, { on := 1, ground := Ground.textOnly Departure.lateStores }, { on := 2, ground := Ground.textOnly Departure.lateStores }, { on := 3, ground := Ground.textOnly Departure.lateStores }, { on := 4, ground := Ground.textOnly Departure.lateStoresUnsure }, { on := 5, ground := Ground.textOnly Departure.lateStores }, { on := 6, ground := Ground.textOnly Departure.lateStores }, { on := 7, ground := Ground.textOnly Departure.lateStores }, { on := 8, ground := Ground.textOnly Departure.lateStores }, { on := 9, ground := Ground.textOnly Departure.lateStores }, { on := 10, ground := Ground.textOnly Departure.lateStores }, { on := 11, ground := Ground.textOnly Departure.lateStores }, { on := 12, ground := Ground.textOnly Departure.lateStoresUnsure }, { on := 13, ground := Ground.textOnly Departure.lateStores }], guard := none }) rfl (fun K hK => ?_) AllReadyH.nil
    go_simp
    replace PD := Lib.hid (And.intro (PD.out.1.set (⟨10, oo, wi, re, false, 0⟩ : Wh)) (PD.out.2.whs (k := w.heap.size + 1) (⟨10, oo, wi, re, false, 0⟩ : Wh) (by omega)))
    clear f0 f1 f2 f3 f4 f5 z0 z1 z2 z3 z4 z5
    refine hK.out _ _ (H.out _ _ PD.out) (fun hHeld => ?_)
    clear hK K
    try simp only [Act.put, List.setIfInBounds_toArray, List.set_cons_zero, List.set_cons_succ]
    refine wpAnyH_take (i := 15) (oi := { dst := some 3, op := Op.assign (Operand.tmp 62), type := 4, pos := "ref.go:116", after := #[{ on := 13, ground := Ground.data }, { on := 14, ground := Ground.chain }, { on := 0, ground := Ground.phase }, { on := 1, ground := Ground.phase }, { on := 2, ground := Ground.phase }, { on := 3, ground := Ground.phase }, { on := 4, ground := Ground.phase }, { on := 5, ground := Ground.phase }, { on := 6, ground := Ground.phase }, { on := 7, ground := Ground.phase }, { on := 8, ground := Ground.phase }, { on := 9, ground := Ground.phase }, { on := 10, ground := Ground.phase }, { on := 11, ground := Ground.phase }, { on := 12, ground := Ground.phase }, { on := 13, ground := Ground.phase }, { on := 14, ground := Ground.phase }], guard := none }) (v := ?_) rfl (by kernel_rfl) (by kernel_rfl) (by kernel_rfl) (fun _ _ _ h => h) (Or.inl ⟨by rfl, ?_⟩) (by assumption) ?_
    rotate_left 1
    · intro w hSw; (try dsimp only at hSw); go_simp; try (with_reducible rfl)
    try simp only [Act.put, List.setIfInBounds_toArray, List.set_cons_zero, List.set_cons_succ]
    refine wpAnyH_done (by kernel_rfl) ?_ _
    have BB := Lib.hid PD.out.1.1
    obtain ⟨z0, z1, z2, z3, z4, z5⟩ := PD.out.1.2.2.cells
    clear H PD
    go_wp2_with fail
    exact bodyPost_ret (v := .tuple #[whV (⟨10, oo, wi, re, false, 0⟩ : Wh), .bool b]) (by simp [results, Try.results32, go_sem, z0, z1, z2, z3, z4, z5]) rfl ⟨rfl, BB.out⟩

set_option maxRecDepth 100000 in
set_option maxHeartbeats 8000000 in
theorem r7_What_no (x : Ins) (v : Wh) (w : World)
    (C : Hid (∀ w, Calls Try.prog 32 #[iV x] w (Gives (.tuple #[whV v, .bool false]) w))) :
    Calls Try.prog 13 #[iV x] w (Gives (.tuple #[whV Wh.zero, .bool false]) w) := by
  have P := Lib.hid (IDuo.new x Wh.zero w)
  go_enter Try.func13, Try.ntmps13
  go_wp2_with fail
  refine (C.out _).mono ?_
  rintro e w8 ⟨rfl, b5⟩
  have Q := Lib.hid (P.out.after b5)
  clear b5 P
  obtain ⟨f0, f1, f2, f3, f4, f5⟩ := Q.out.2.2.free
  obtain ⟨z0, z1, z2, z3, z4, z5⟩ := Q.out.2.2.cells
  have k2 := Q.out.2.2.lt
  have BB := Lib.hid (below_alloc (Q.out.set Wh.zero).1 (.cells (whCells v) 26))
  go_wp2_with fail
  exact bodyPost_ret (v := .tuple #[whV Wh.zero, .bool false]) (by simp [results, Try.results13, go_sem, z0, z1, z2, z3, z4, z5, k2, Wh.zero]) rfl ⟨rfl, BB.out⟩

set_option maxRecDepth 100000 in
set_option maxHeartbeats 8000000 in
theorem r7_What_yes (x : Ins) (v : Wh) (w : World)
    (C : Hid (∀ w, Calls Try.prog 32 #[iV x] w (Gives (.tuple #[whV v, .bool true]) w))) :
    Calls Try.prog 13 #[iV x] w (Gives (.tuple #[whV v, .bool true]) w) := by
  have P := Lib.hid (IDuo.new x Wh.zero w)
  go_enter Try.func13, Try.ntmps13
  go_wp2_with fail
  refine (C.out _).mono ?_
  rintro e w8 ⟨rfl, b5⟩
  have Q := Lib.hid (P.out.after b5)
  clear b5 P
  obtain ⟨f0, f1, f2, f3, f4, f5⟩ := Q.out.2.2.free
  obtain ⟨z0, z1, z2, z3, z4, z5⟩ := Q.out.2.2.cells
  have k2 := Q.out.2.2.lt
  have BB := Lib.hid (below_alloc (Q.out.set v).1 (.cells (whCells v) 26))
  go_wp2_with fail
  exact bodyPost_ret (v := .tuple #[whV v, .bool true]) (by simp [results, Try.results13, go_sem, z0, z1, z2, z3, z4, z5, k2]) rfl ⟨rfl, BB.out⟩

end Go.Proofs.Ytplndcjmbgkcjaa
