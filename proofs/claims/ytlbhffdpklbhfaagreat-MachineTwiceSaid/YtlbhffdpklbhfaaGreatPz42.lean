/-
  Texts, one behind the other: Code7.
  Conditions: those that each theorem states.
-/
import Derived.Deep.RegionHeld3
import Derived.IntWalk
import Derived.Test.YtlbhffdpklbhfaaGreatPz24
import Derived.Test.YtlbhffdpklbhfaaGreatPz41
namespace Go.Proofs.YtlbhffdpklbhfaaGreat
open Go.RowKit
set_option maxRecDepth 100000
set_option linter.unusedVariables false
set_option linter.unusedSimpArgs false
set_option maxRecDepth 100000 in
set_option maxHeartbeats 1000000 in
theorem c7_whole (l : List Ins) (A : Option Addr) (c k : Nat) (w : World) (hl : l.length ≤ 100000) (h : InsS w A l) (hk : k < l.length) (hx : (iAt l k).ok) :
    Calls Tryz.prog 43 #[.slice A l.length c, .int .i64 (k : Int)] w (Gives (.bool (!bad1 l k)) w) := by
  rw [whole_eq]
  have C := Lib.hid (c7_What _ hx)
  have W := Lib.hid (c7_wide (iAt l k))
  have IP := Lib.hid fun w => c7_isPlace l A c (k + 1) w hl
  have IH := Lib.hid fun kd => c7_isHalf kd (iAt l (k + 1))
  have HI := Lib.hid h
  have ep : inL l ((k : Int) + 1) = decide (k + 1 < l.length) := by
    unfold inL
    rw [decide_eq_true (by omega), Bool.true_and]
    by_cases hh : k + 1 < l.length
    · rw [decide_eq_true hh, decide_eq_true (by omega)]
    · rw [decide_eq_false hh, decide_eq_false (by omega)]
  rw [ep] at IP
  clear ep
  obtain ⟨g, o, rfl, hg, hc⟩ := h.at_ hk
  clear h hx
  have HC := Lib.hid hc
  clear hc
  have HK : Hid (k + 1 < l.length → ∀ u, Below w.heap.size w u → InsAt u g (o + (k + 1) * 5) (iAt l (k + 1))) := Lib.hid fun h1 u hu => by
    obtain ⟨g', o', e', hg', hc'⟩ := HI.out.at_ h1
    injection e' with e'
    injection e' with e1 e2
    subst e1
    subst e2
    exact hc'.after hu hg'
  clear HI
  have hkk : (k : Int) < (l.length : Int) := by omega
  have hk0 : (0 : Int) ≤ k := by omega
  generalize wOf (iAt l k) = v at *
  generalize wOk (iAt l k) = ok at *
  generalize iAt l (k + 1) = y at *
  generalize iAt l k = x at *
  cases ok
  · rw [Bool.false_and]
    go_enter Tryz.func43, Tryz.ntmps43
    obtain ⟨a0, a1, a2, a3, a4⟩ := HC.out
    go_wp2_with fail
    clear a0 a1 a2 a3 a4
    refine (C.out _).mono ?_
    rintro e w5 ⟨rfl, b5⟩
    have hg5 : g < w5.heap.size := Nat.lt_of_lt_of_le hg b5.size
    obtain ⟨c0, c1, c2, c3, c4⟩ := HC.out.after (below_alloc b5 (.cells (whCells v) 96)) hg
    obtain ⟨q0, q1, q2, q3, q4⟩ := HC.out.after b5 hg
    have V := Lib.hid (below_alloc b5 (.cells (whCells v) 96))
    clear b5
    go_wp2_with fail
    go_ret
    exact ⟨rfl, V.out⟩
  rw [Bool.true_and]
  cases h24 : (x.op == 24)
  · rw [Bool.not_false, Bool.true_or]
    rw [h24] at W
    go_enter Tryz.func43, Tryz.ntmps43
    obtain ⟨a0, a1, a2, a3, a4⟩ := HC.out
    go_wp2_with fail
    clear a0 a1 a2 a3 a4
    refine (C.out _).mono ?_
    rintro e w5 ⟨rfl, b5⟩
    have hg5 : g < w5.heap.size := Nat.lt_of_lt_of_le hg b5.size
    obtain ⟨c0, c1, c2, c3, c4⟩ := HC.out.after (below_alloc b5 (.cells (whCells v) 96)) hg
    obtain ⟨q0, q1, q2, q3, q4⟩ := HC.out.after b5 hg
    have V := Lib.hid (below_alloc b5 (.cells (whCells v) 96))
    have VB := Lib.hid (whB.new w5 v rfl)
    clear b5
    have hz : g < (w5.alloc (.cells (whCells v) 96)).heap.size := by simp; omega
    go_wp2_with fail
    refine (W.out _).mono ?_
    rintro e w6 ⟨rfl, b6⟩
    replace VB := Lib.hid (VB.out.after b6)
    replace V := Lib.hid (below_next' V.out b6)
    clear b6 c0 c1 c2 c3 c4 q0 q1 q2 q3 q4 hg5 hz
    obtain ⟨v0, v1, v2, v3, v4, v5⟩ := VB.out.cells
    go_wp2_with fail
    go_ret
    exact ⟨rfl, V.out⟩
  rw [Bool.not_true, Bool.false_or]
  rw [h24] at W
  by_cases h1 : k + 1 < l.length
  rotate_left 1
  · rw [decide_eq_false h1, Bool.false_and]
    rw [decide_eq_false h1] at IP
    clear h1
    clear HK
    go_enter Tryz.func43, Tryz.ntmps43
    obtain ⟨a0, a1, a2, a3, a4⟩ := HC.out
    go_wp2_with fail
    clear a0 a1 a2 a3 a4
    refine (C.out _).mono ?_
    rintro e w5 ⟨rfl, b5⟩
    have hg5 : g < w5.heap.size := Nat.lt_of_lt_of_le hg b5.size
    obtain ⟨c0, c1, c2, c3, c4⟩ := HC.out.after (below_alloc b5 (.cells (whCells v) 96)) hg
    obtain ⟨q0, q1, q2, q3, q4⟩ := HC.out.after b5 hg
    have V := Lib.hid (below_alloc b5 (.cells (whCells v) 96))
    have VB := Lib.hid (whB.new w5 v rfl)
    clear b5
    have hz : g < (w5.alloc (.cells (whCells v) 96)).heap.size := by simp; omega
    go_wp2_with fail
    refine (W.out _).mono ?_
    rintro e w6 ⟨rfl, b6⟩
    replace VB := Lib.hid (VB.out.after b6)
    replace V := Lib.hid (below_next' V.out b6)
    clear b6 c0 c1 c2 c3 c4 q0 q1 q2 q3 q4 hg5 hz
    have k3 := VB.out.lt
    go_wp2_with fail
    generalize w5.heap.size = gb at *
    generalize hw6 : w6 = wS at *
    clear hw6
    have PQ := Lib.hid (And.intro (below_next' V.out (Below.drew (Below.refl _ _))) (VB.out.after (Below.drew (Below.refl _ _))))
    have H : Hid (∀ wx, Below w.heap.size w wx ∧ whB gb v wx → wx.cell? ⟨gb, 0, none⟩ = some (.int .u8 v.kind) ∧ wx.cell? ⟨gb, 1, none⟩ = some (.int .u8 v.op) ∧ wx.cell? ⟨gb, 2, none⟩ = some (.bool v.wide) ∧ wx.cell? ⟨gb, 3, none⟩ = some (.bool v.reg) ∧ wx.cell? ⟨gb, 4, none⟩ = some (.bool v.signed) ∧ wx.cell? ⟨gb, 5, none⟩ = some (.int .i64 v.size)) := Lib.hid fun wx hx => hx.2.cells
    have s1 : IntKind.i64.wrap ((k : Int) + 1) = (k : Int) + 1 := IntWalk.i64_in _ (by omega)
    have s2 : (0 : Int) ≤ (k : Int) + 1 := by omega
    have s3 : ((k : Int) + 1).toNat = k + 1 := by omega
    clear hk hl
    refine wp_region_held_drew (S := (fun w' => w'.cell? ⟨gb, 0, none⟩ = some (.int .u8 v.kind) ∧ w'.cell? ⟨gb, 1, none⟩ = some (.int .u8 v.op) ∧ w'.cell? ⟨gb, 2, none⟩ = some (.bool v.wide) ∧ w'.cell? ⟨gb, 3, none⟩ = some (.bool v.reg) ∧ w'.cell? ⟨gb, 4, none⟩ = some (.bool v.signed) ∧ w'.cell? ⟨gb, 5, none⟩ = some (.int .i64 v.size))) (by kernel_rfl) (H.out _ PQ.out) (fun hHeld => ?_)
    refine wpAnyH_take (i := 0) (oi := { dst := some 26, op := Op.move (Operand.tmp 0), type := _, pos := _, after := _, guard := none }) (v := ?_) rfl (by kernel_rfl) (by kernel_rfl) (by kernel_rfl) (fun _ _ _ h => h) (Or.inl ⟨by rfl, ?_⟩) (by assumption) ?_
    rotate_left 1
    · intro w hSw; (try dsimp only at hSw); go_simp; try (with_reducible rfl)
    try simp only [Act.put, List.setIfInBounds_toArray, List.set_cons_zero, List.set_cons_succ]
    refine wpAnyH_take (i := 1) (oi := { dst := some 27, op := Op.move (Operand.tmp 1), type := _, pos := _, after := _, guard := none }) (v := ?_) rfl (by kernel_rfl) (by kernel_rfl) (by kernel_rfl) (fun _ _ _ h => h) (Or.inl ⟨by rfl, ?_⟩) (by assumption) ?_
    rotate_left 1
    · intro w hSw; (try dsimp only at hSw); go_simp; try (with_reducible rfl)
    try simp only [Act.put, List.setIfInBounds_toArray, List.set_cons_zero, List.set_cons_succ]
    refine wpAnyH_take (i := 2) (oi := { dst := some 28, op := Op.binOp BinOp.add 3 (Operand.tmp 27) (Operand.const (Value.int IntKind.i64 1)) 3, type := _, pos := _, after := _, guard := none }) (v := ?_) rfl (by kernel_rfl) (by kernel_rfl) (by kernel_rfl) (fun _ _ _ h => h) (Or.inl ⟨by rfl, ?_⟩) (by assumption) ?_
    rotate_left 1
    · intro w hSw; (try dsimp only at hSw); go_simp; try (with_reducible rfl)
    try simp only [Act.put, List.setIfInBounds_toArray, List.set_cons_zero, List.set_cons_succ]
    refine wpAnyH_ready (rs := [3]) (by kernel_rfl) (by simp) ?_
    refine AllReadyH.cons (o := { dst := some 29, op := Op.call { callee := Callee.value (Operand.func 88), args := #[Operand.tmp 26, Operand.tmp 28], argTypes := #[22, 3] }, type := _, pos := _, after := _, guard := none }) rfl (fun K hK => ?_) AllReadyH.nil
    go_simp
    refine (IP.out _).mono ?_; rintro e w7 ⟨rfl, hb⟩
    replace PQ := Lib.hid (And.intro (below_next' PQ.out.1 hb) (PQ.out.2.after hb))
    clear hb
    go_wp2_with fail
    refine hK.out _ _ (H.out _ PQ.out) (fun hHeld => ?_)
    clear hK K
    try simp only [Act.put, List.setIfInBounds_toArray, List.set_cons_zero, List.set_cons_succ]
    refine wpAnyH_take (i := 4) (oi := { dst := some 30, op := Op.move (Operand.tmp 29), type := _, pos := _, after := _, guard := none }) (v := ?_) rfl (by kernel_rfl) (by kernel_rfl) (by kernel_rfl) (fun _ _ _ h => h) (Or.inl ⟨by rfl, ?_⟩) (by assumption) ?_
    rotate_left 1
    · intro w hSw; (try dsimp only at hSw); go_simp; try (with_reducible rfl)
    try simp only [Act.put, List.setIfInBounds_toArray, List.set_cons_zero, List.set_cons_succ]
    refine wpAnyH_take (i := 5) (oi := { dst := some 31, op := Op.fieldAddr 96 (Operand.tmp 5) 0, type := _, pos := _, after := _, guard := some (4, true) }) (v := undef) rfl (by kernel_rfl) (by kernel_rfl) (by kernel_rfl) (fun _ _ _ h => h) (Or.inr ⟨by rfl, rfl⟩) (by assumption) ?_
    try simp only [Act.put, List.setIfInBounds_toArray, List.set_cons_zero, List.set_cons_succ]
    refine wpAnyH_take (i := 6) (oi := { dst := some 32, op := Op.load 5 (Operand.tmp 31), type := _, pos := _, after := _, guard := some (4, true) }) (v := undef) rfl (by kernel_rfl) (by kernel_rfl) (by kernel_rfl) (fun _ _ _ h => h) (Or.inr ⟨by rfl, rfl⟩) (by assumption) ?_
    try simp only [Act.put, List.setIfInBounds_toArray, List.set_cons_zero, List.set_cons_succ]
    refine wpAnyH_take (i := 7) (oi := { dst := some 33, op := Op.move (Operand.tmp 0), type := _, pos := _, after := _, guard := some (4, true) }) (v := undef) rfl (by kernel_rfl) (by kernel_rfl) (by kernel_rfl) (fun _ _ _ h => h) (Or.inr ⟨by rfl, rfl⟩) (by assumption) ?_
    try simp only [Act.put, List.setIfInBounds_toArray, List.set_cons_zero, List.set_cons_succ]
    refine wpAnyH_take (i := 8) (oi := { dst := some 34, op := Op.move (Operand.tmp 1), type := _, pos := _, after := _, guard := some (4, true) }) (v := undef) rfl (by kernel_rfl) (by kernel_rfl) (by kernel_rfl) (fun _ _ _ h => h) (Or.inr ⟨by rfl, rfl⟩) (by assumption) ?_
    try simp only [Act.put, List.setIfInBounds_toArray, List.set_cons_zero, List.set_cons_succ]
    refine wpAnyH_take (i := 9) (oi := { dst := some 35, op := Op.binOp BinOp.add 3 (Operand.tmp 34) (Operand.const (Value.int IntKind.i64 1)) 3, type := _, pos := _, after := _, guard := some (4, true) }) (v := undef) rfl (by kernel_rfl) (by kernel_rfl) (by kernel_rfl) (fun _ _ _ h => h) (Or.inr ⟨by rfl, rfl⟩) (by assumption) ?_
    try simp only [Act.put, List.setIfInBounds_toArray, List.set_cons_zero, List.set_cons_succ]
    refine wpAnyH_take (i := 10) (oi := { dst := some 36, op := Op.indexAddr 22 (Operand.tmp 33) (Operand.tmp 35), type := _, pos := _, after := _, guard := some (4, true) }) (v := undef) rfl (by kernel_rfl) (by kernel_rfl) (by kernel_rfl) (fun _ _ _ h => h) (Or.inr ⟨by rfl, rfl⟩) (by assumption) ?_
    try simp only [Act.put, List.setIfInBounds_toArray, List.set_cons_zero, List.set_cons_succ]
    refine wpAnyH_take (i := 11) (oi := { dst := some 37, op := Op.load 63 (Operand.tmp 36), type := _, pos := _, after := _, guard := some (4, true) }) (v := undef) rfl (by kernel_rfl) (by kernel_rfl) (by kernel_rfl) (fun _ _ _ h => h) (Or.inr ⟨by rfl, rfl⟩) (by assumption) ?_
    try simp only [Act.put, List.setIfInBounds_toArray, List.set_cons_zero, List.set_cons_succ]
    refine wpAnyH_take (i := 12) (oi := { dst := some 38, op := Op.call { callee := Callee.value (Operand.func 89), args := #[Operand.tmp 32, Operand.tmp 37], argTypes := #[5, 63] }, type := _, pos := _, after := _, guard := some (4, true) }) (v := undef) rfl (by kernel_rfl) (by kernel_rfl) (by kernel_rfl) (fun _ _ _ h => h) (Or.inr ⟨by rfl, rfl⟩) (by assumption) ?_
    try simp only [Act.put, List.setIfInBounds_toArray, List.set_cons_zero, List.set_cons_succ]
    refine wpAnyH_take (i := 13) (oi := { dst := some 39, op := Op.pick (Operand.tmp 30) (Operand.tmp 38) (Operand.const (Value.bool false)), type := _, pos := _, after := _, guard := none }) (v := ?_) rfl (by kernel_rfl) (by kernel_rfl) (by kernel_rfl) (fun _ _ _ h => h) (Or.inl ⟨by rfl, ?_⟩) (by assumption) ?_
    rotate_left 1
    · intro w hSw; (try dsimp only at hSw); go_simp; try (with_reducible rfl)
    try simp only [Act.put, List.setIfInBounds_toArray, List.set_cons_zero, List.set_cons_succ]
    refine wpAnyH_take (i := 14) (oi := { dst := some 4, op := Op.assign (Operand.tmp 39), type := _, pos := _, after := _, guard := none }) (v := ?_) rfl (by kernel_rfl) (by kernel_rfl) (by kernel_rfl) (fun _ _ _ h => h) (Or.inl ⟨by rfl, ?_⟩) (by assumption) ?_
    rotate_left 1
    · intro w hSw; (try dsimp only at hSw); go_simp; try (with_reducible rfl)
    try simp only [Act.put, List.setIfInBounds_toArray, List.set_cons_zero, List.set_cons_succ]
    refine wpAnyH_done (by kernel_rfl) ?_ _
    have BB := Lib.hid PQ.out.1
    clear H PQ
    go_wp2_with fail
    go_ret
    exact ⟨rfl, BB.out⟩
  · rw [decide_eq_true h1, Bool.true_and]
    rw [decide_eq_true h1] at IP
    have HY := Lib.hid (HK.out h1)
    have hkk1 : (k : Int) + 1 < (l.length : Int) := by omega
    clear HK
    go_enter Tryz.func43, Tryz.ntmps43
    obtain ⟨a0, a1, a2, a3, a4⟩ := HC.out
    go_wp2_with fail
    clear a0 a1 a2 a3 a4
    refine (C.out _).mono ?_
    rintro e w5 ⟨rfl, b5⟩
    have hg5 : g < w5.heap.size := Nat.lt_of_lt_of_le hg b5.size
    obtain ⟨c0, c1, c2, c3, c4⟩ := HC.out.after (below_alloc b5 (.cells (whCells v) 96)) hg
    obtain ⟨q0, q1, q2, q3, q4⟩ := HC.out.after b5 hg
    have V := Lib.hid (below_alloc b5 (.cells (whCells v) 96))
    have VB := Lib.hid (whB.new w5 v rfl)
    clear b5
    have hz : g < (w5.alloc (.cells (whCells v) 96)).heap.size := by simp; omega
    go_wp2_with fail
    refine (W.out _).mono ?_
    rintro e w6 ⟨rfl, b6⟩
    replace VB := Lib.hid (VB.out.after b6)
    replace V := Lib.hid (below_next' V.out b6)
    clear b6 c0 c1 c2 c3 c4 q0 q1 q2 q3 q4 hg5 hz
    have k3 := VB.out.lt
    go_wp2_with fail
    generalize w5.heap.size = gb at *
    generalize hw6 : w6 = wS at *
    clear hw6
    have PQ := Lib.hid (And.intro (below_next' V.out (Below.drew (Below.refl _ _))) (VB.out.after (Below.drew (Below.refl _ _))))
    have H : Hid (∀ wx, Below w.heap.size w wx ∧ whB gb v wx → (wx.cell? ⟨gb, 0, none⟩ = some (.int .u8 v.kind) ∧ wx.cell? ⟨gb, 1, none⟩ = some (.int .u8 v.op) ∧ wx.cell? ⟨gb, 2, none⟩ = some (.bool v.wide) ∧ wx.cell? ⟨gb, 3, none⟩ = some (.bool v.reg) ∧ wx.cell? ⟨gb, 4, none⟩ = some (.bool v.signed) ∧ wx.cell? ⟨gb, 5, none⟩ = some (.int .i64 v.size)) ∧ (wx.cell? ⟨g, o + (k + 1) * 5, none⟩ = some (.int .u8 y.op) ∧ wx.cell? ⟨g, o + (k + 1) * 5 + 1, none⟩ = some (.int .u8 y.dst) ∧ wx.cell? ⟨g, o + (k + 1) * 5 + 2, none⟩ = some (.int .u8 y.src) ∧ wx.cell? ⟨g, o + (k + 1) * 5 + 3, none⟩ = some (.int .i16 y.off) ∧ wx.cell? ⟨g, o + (k + 1) * 5 + 4, none⟩ = some (.int .i32 y.imm))) := Lib.hid fun wx hx => ⟨hx.2.cells, HY.out _ hx.1⟩
    have s1 : IntKind.i64.wrap ((k : Int) + 1) = (k : Int) + 1 := IntWalk.i64_in _ (by omega)
    have s2 : (0 : Int) ≤ (k : Int) + 1 := by omega
    have s3 : ((k : Int) + 1).toNat = k + 1 := by omega
    clear hk hl
    clear h1
    refine wp_region_held_drew (S := (fun w' => (w'.cell? ⟨gb, 0, none⟩ = some (.int .u8 v.kind) ∧ w'.cell? ⟨gb, 1, none⟩ = some (.int .u8 v.op) ∧ w'.cell? ⟨gb, 2, none⟩ = some (.bool v.wide) ∧ w'.cell? ⟨gb, 3, none⟩ = some (.bool v.reg) ∧ w'.cell? ⟨gb, 4, none⟩ = some (.bool v.signed) ∧ w'.cell? ⟨gb, 5, none⟩ = some (.int .i64 v.size)) ∧ (w'.cell? ⟨g, o + (k + 1) * 5, none⟩ = some (.int .u8 y.op) ∧ w'.cell? ⟨g, o + (k + 1) * 5 + 1, none⟩ = some (.int .u8 y.dst) ∧ w'.cell? ⟨g, o + (k + 1) * 5 + 2, none⟩ = some (.int .u8 y.src) ∧ w'.cell? ⟨g, o + (k + 1) * 5 + 3, none⟩ = some (.int .i16 y.off) ∧ w'.cell? ⟨g, o + (k + 1) * 5 + 4, none⟩ = some (.int .i32 y.imm)))) (by kernel_rfl) (H.out _ PQ.out) (fun hHeld => ?_)
    refine wpAnyH_take (i := 0) (oi := { dst := some 26, op := Op.move (Operand.tmp 0), type := _, pos := _, after := _, guard := none }) (v := ?_) rfl (by kernel_rfl) (by kernel_rfl) (by kernel_rfl) (fun _ _ _ h => h) (Or.inl ⟨by rfl, ?_⟩) (by assumption) ?_
    rotate_left 1
    · intro w hSw; (try dsimp only at hSw); go_simp; try (with_reducible rfl)
    try simp only [Act.put, List.setIfInBounds_toArray, List.set_cons_zero, List.set_cons_succ]
    refine wpAnyH_take (i := 1) (oi := { dst := some 27, op := Op.move (Operand.tmp 1), type := _, pos := _, after := _, guard := none }) (v := ?_) rfl (by kernel_rfl) (by kernel_rfl) (by kernel_rfl) (fun _ _ _ h => h) (Or.inl ⟨by rfl, ?_⟩) (by assumption) ?_
    rotate_left 1
    · intro w hSw; (try dsimp only at hSw); go_simp; try (with_reducible rfl)
    try simp only [Act.put, List.setIfInBounds_toArray, List.set_cons_zero, List.set_cons_succ]
    refine wpAnyH_take (i := 2) (oi := { dst := some 28, op := Op.binOp BinOp.add 3 (Operand.tmp 27) (Operand.const (Value.int IntKind.i64 1)) 3, type := _, pos := _, after := _, guard := none }) (v := ?_) rfl (by kernel_rfl) (by kernel_rfl) (by kernel_rfl) (fun _ _ _ h => h) (Or.inl ⟨by rfl, ?_⟩) (by assumption) ?_
    rotate_left 1
    · intro w hSw; (try dsimp only at hSw); go_simp; try (with_reducible rfl)
    try simp only [Act.put, List.setIfInBounds_toArray, List.set_cons_zero, List.set_cons_succ]
    refine wpAnyH_ready (rs := [3]) (by kernel_rfl) (by simp) ?_
    refine AllReadyH.cons (o := { dst := some 29, op := Op.call { callee := Callee.value (Operand.func 88), args := #[Operand.tmp 26, Operand.tmp 28], argTypes := #[22, 3] }, type := _, pos := _, after := _, guard := none }) rfl (fun K hK => ?_) AllReadyH.nil
    go_simp
    refine (IP.out _).mono ?_; rintro e w7 ⟨rfl, hb⟩
    replace PQ := Lib.hid (And.intro (below_next' PQ.out.1 hb) (PQ.out.2.after hb))
    clear hb
    go_wp2_with fail
    refine hK.out _ _ (H.out _ PQ.out) (fun hHeld => ?_)
    clear hK K
    try simp only [Act.put, List.setIfInBounds_toArray, List.set_cons_zero, List.set_cons_succ]
    refine wpAnyH_take (i := 4) (oi := { dst := some 30, op := Op.move (Operand.tmp 29), type := _, pos := _, after := _, guard := none }) (v := ?_) rfl (by kernel_rfl) (by kernel_rfl) (by kernel_rfl) (fun _ _ _ h => h) (Or.inl ⟨by rfl, ?_⟩) (by assumption) ?_
    rotate_left 1
    · intro w hSw; (try dsimp only at hSw); go_simp; try (with_reducible rfl)
    try simp only [Act.put, List.setIfInBounds_toArray, List.set_cons_zero, List.set_cons_succ]
    refine wpAnyH_take (i := 5) (oi := { dst := some 31, op := Op.fieldAddr 96 (Operand.tmp 5) 0, type := _, pos := _, after := _, guard := some (4, true) }) (v := ?_) rfl (by kernel_rfl) (by kernel_rfl) (by kernel_rfl) (fun _ _ _ h => h) (Or.inl ⟨by rfl, ?_⟩) (by assumption) ?_
    rotate_left 1
    · intro w hSw; (try dsimp only at hSw); go_simp; try (with_reducible rfl)
    try simp only [Act.put, List.setIfInBounds_toArray, List.set_cons_zero, List.set_cons_succ]
    refine wpAnyH_take (i := 6) (oi := { dst := some 32, op := Op.load 5 (Operand.tmp 31), type := _, pos := _, after := _, guard := some (4, true) }) (v := ?_) rfl (by kernel_rfl) (by kernel_rfl) (by kernel_rfl) (fun _ _ _ h => h) (Or.inl ⟨by rfl, ?_⟩) (by assumption) ?_
    rotate_left 1
    · intro w hSw; (try dsimp only at hSw); go_simp; try (with_reducible rfl)
    try simp only [Act.put, List.setIfInBounds_toArray, List.set_cons_zero, List.set_cons_succ]
    refine wpAnyH_take (i := 7) (oi := { dst := some 33, op := Op.move (Operand.tmp 0), type := _, pos := _, after := _, guard := some (4, true) }) (v := ?_) rfl (by kernel_rfl) (by kernel_rfl) (by kernel_rfl) (fun _ _ _ h => h) (Or.inl ⟨by rfl, ?_⟩) (by assumption) ?_
    rotate_left 1
    · intro w hSw; (try dsimp only at hSw); go_simp; try (with_reducible rfl)
    try simp only [Act.put, List.setIfInBounds_toArray, List.set_cons_zero, List.set_cons_succ]
    refine wpAnyH_take (i := 8) (oi := { dst := some 34, op := Op.move (Operand.tmp 1), type := _, pos := _, after := _, guard := some (4, true) }) (v := ?_) rfl (by kernel_rfl) (by kernel_rfl) (by kernel_rfl) (fun _ _ _ h => h) (Or.inl ⟨by rfl, ?_⟩) (by assumption) ?_
    rotate_left 1
    · intro w hSw; (try dsimp only at hSw); go_simp; try (with_reducible rfl)
    try simp only [Act.put, List.setIfInBounds_toArray, List.set_cons_zero, List.set_cons_succ]
    refine wpAnyH_take (i := 9) (oi := { dst := some 35, op := Op.binOp BinOp.add 3 (Operand.tmp 34) (Operand.const (Value.int IntKind.i64 1)) 3, type := _, pos := _, after := _, guard := some (4, true) }) (v := ?_) rfl (by kernel_rfl) (by kernel_rfl) (by kernel_rfl) (fun _ _ _ h => h) (Or.inl ⟨by rfl, ?_⟩) (by assumption) ?_
    rotate_left 1
    · intro w hSw; (try dsimp only at hSw); go_simp; try (with_reducible rfl)
    try simp only [Act.put, List.setIfInBounds_toArray, List.set_cons_zero, List.set_cons_succ]
    refine wpAnyH_take (i := 10) (oi := { dst := some 36, op := Op.indexAddr 22 (Operand.tmp 33) (Operand.tmp 35), type := _, pos := _, after := _, guard := some (4, true) }) (v := ?_) rfl (by kernel_rfl) (by kernel_rfl) (by kernel_rfl) (fun _ _ _ h => h) (Or.inl ⟨by rfl, ?_⟩) (by assumption) ?_
    rotate_left 1
    · intro w hSw; (try dsimp only at hSw); go_simp; try (with_reducible rfl)
    try simp only [Act.put, List.setIfInBounds_toArray, List.set_cons_zero, List.set_cons_succ]
    refine wpAnyH_take (i := 11) (oi := { dst := some 37, op := Op.load 63 (Operand.tmp 36), type := _, pos := _, after := _, guard := some (4, true) }) (v := ?_) rfl (by kernel_rfl) (by kernel_rfl) (by kernel_rfl) (fun _ _ _ h => h) (Or.inl ⟨by rfl, ?_⟩) (by assumption) ?_
    rotate_left 1
    · intro w hSw; (try dsimp only at hSw); go_simp; try (with_reducible rfl)
    try simp only [Act.put, List.setIfInBounds_toArray, List.set_cons_zero, List.set_cons_succ]
    refine wpAnyH_ready (rs := [12]) (by kernel_rfl) (by simp) ?_
    refine AllReadyH.cons (o := { dst := some 38, op := Op.call { callee := Callee.value (Operand.func 89), args := #[Operand.tmp 32, Operand.tmp 37], argTypes := #[5, 63] }, type := _, pos := _, after := _, guard := some (4, true) }) rfl (fun K hK => ?_) AllReadyH.nil
    go_simp
    refine (IH.out _ _).mono ?_; rintro e w8 ⟨rfl, hb⟩
    replace PQ := Lib.hid (And.intro (below_next' PQ.out.1 hb) (PQ.out.2.after hb))
    clear hb
    go_wp2_with fail
    refine hK.out _ _ (H.out _ PQ.out) (fun hHeld => ?_)
    clear hK K
    try simp only [Act.put, List.setIfInBounds_toArray, List.set_cons_zero, List.set_cons_succ]
    refine wpAnyH_take (i := 13) (oi := { dst := some 39, op := Op.pick (Operand.tmp 30) (Operand.tmp 38) (Operand.const (Value.bool false)), type := _, pos := _, after := _, guard := none }) (v := ?_) rfl (by kernel_rfl) (by kernel_rfl) (by kernel_rfl) (fun _ _ _ h => h) (Or.inl ⟨by rfl, ?_⟩) (by assumption) ?_
    rotate_left 1
    · intro w hSw; (try dsimp only at hSw); go_simp; try (with_reducible rfl)
    try simp only [Act.put, List.setIfInBounds_toArray, List.set_cons_zero, List.set_cons_succ]
    refine wpAnyH_take (i := 14) (oi := { dst := some 4, op := Op.assign (Operand.tmp 39), type := _, pos := _, after := _, guard := none }) (v := ?_) rfl (by kernel_rfl) (by kernel_rfl) (by kernel_rfl) (fun _ _ _ h => h) (Or.inl ⟨by rfl, ?_⟩) (by assumption) ?_
    rotate_left 1
    · intro w hSw; (try dsimp only at hSw); go_simp; try (with_reducible rfl)
    try simp only [Act.put, List.setIfInBounds_toArray, List.set_cons_zero, List.set_cons_succ]
    refine wpAnyH_done (by kernel_rfl) ?_ _
    have BB := Lib.hid PQ.out.1
    clear H PQ
    go_wp2_with fail
    go_ret
    exact ⟨rfl, BB.out⟩
set_option maxRecDepth 100000 in
set_option maxHeartbeats 1000000 in
theorem c7_lands (l : List Ins) (A : Option Addr) (c k : Nat) (g c' : Nat) (w : World) (hl : l.length ≤ 100000) (h : InsS w A l) (hk : k < l.length) (hx : OkAll l) (hb : bB g (sts false l) w) :
    Calls Tryz.prog 44 #[.slice A l.length c, .slice (some ⟨g, 0, none⟩) l.length c', .int .i64 (k : Int)] w (Gives (.bool (!bad2 l k)) w) := by
  have Jm := Lib.hid (c7_jumps _ (hx k hk))
  have HT := Lib.hid fun w h => c7_Target l A c k w hl h hx
  have HI := Lib.hid h
  have HB := Lib.hid hb
  have hgb := hb.lt
  obtain ⟨gi, oi, rfl, hg, hc⟩ := h.at_ hk
  clear h hb
  have HC := Lib.hid hc
  clear hc
  have hkk : (k : Int) < (l.length : Int) := by omega
  have hk0 : (0 : Int) ≤ k := by omega
  unfold bad2
  have e1 : tgOk l k = (jumpy (iAt l k) && inL l (toOf (iAt l k) k)) := by
    unfold tgOk inL
    rw [decide_eq_true (by omega), decide_eq_true (by omega), show ((k : Int)).toNat = k by omega]
    rfl
  have e2 : tgOf l k = if (jumpy (iAt l k) && inL l (toOf (iAt l k) k)) then toOf (iAt l k) k else 0 := by
    unfold tgOf
    rw [e1, show ((k : Int)).toNat = k by omega]
  rw [e1, e2] at HT
  clear e1 e2
  have HS : Hid (∀ t : Int, inL l t = true → ∃ m : Nat, t = m ∧ (m : Int) < (l.length : Int) ∧ ∀ u, Below w.heap.size w u → u.cell? ⟨g, m, none⟩ = some (.bool (stAt l m))) := Lib.hid fun t ht => by
    have hb : 0 ≤ t ∧ t < (l.length : Int) := by
      unfold inL at ht
      simpa using ht
    refine ⟨t.toNat, by omega, by omega, fun u hu => ?_⟩
    exact ((HB.out.after hu).cell (stAt_get (by omega)))
  clear HB hx
  generalize jumpy (iAt l k) = j at *
  generalize toOf (iAt l k) k = t at *
  generalize iAt l k = x at *
  cases j
  · rw [Bool.false_and]
    go_enter Tryz.func44, Tryz.ntmps44
    obtain ⟨a0, a1, a2, a3, a4⟩ := HC.out
    go_wp2_with fail
    clear a0 a1 a2 a3 a4
    refine (Jm.out _).mono ?_
    rintro e w5 ⟨rfl, b5⟩
    have V := Lib.hid b5
    clear b5
    go_wp2_with fail
    go_ret
    exact ⟨rfl, V.out⟩
  rw [Bool.true_and]
  cases hi : inL l t
  · rw [hi] at HT
    rw [Bool.false_and]
    clear hi
    go_enter Tryz.func44, Tryz.ntmps44
    obtain ⟨a0, a1, a2, a3, a4⟩ := HC.out
    go_wp2_with fail
    clear a0 a1 a2 a3 a4
    refine (Jm.out _).mono ?_
    rintro e w5 ⟨rfl, b5⟩
    have V := Lib.hid b5
    clear b5
    go_wp2_with fail
    refine (HT.out _ (HI.out.after V.out)).mono ?_
    rintro e w6 ⟨rfl, b6⟩
    replace V := Lib.hid (below_next' V.out b6)
    clear b6
    go_wp2_with fail
    go_ret
    exact ⟨rfl, V.out⟩
  · rw [hi] at HT
    obtain ⟨m, rfl, hm, hu⟩ := HS.out t hi
    rw [Bool.true_and, show ((m : Int)).toNat = m by omega]
    have HU := Lib.hid hu
    clear hu hi HS
    have hm0 : (0 : Int) ≤ m := by omega
    generalize stAt l m = b at *
    go_enter Tryz.func44, Tryz.ntmps44
    obtain ⟨a0, a1, a2, a3, a4⟩ := HC.out
    go_wp2_with fail
    clear a0 a1 a2 a3 a4
    refine (Jm.out _).mono ?_
    rintro e w5 ⟨rfl, b5⟩
    have V := Lib.hid b5
    clear b5
    go_wp2_with fail
    refine (HT.out _ (HI.out.after V.out)).mono ?_
    rintro e w6 ⟨rfl, b6⟩
    replace V := Lib.hid (below_next' V.out b6)
    clear b6
    have d0 := HU.out _ V.out
    go_wp2_with fail
    go_ret
    exact ⟨by cases b <;> rfl, V.out⟩
set_option maxRecDepth 100000 in
set_option maxHeartbeats 1000000 in
theorem c7_last (l : List Ins) (g c : Nat) (w : World) (hl : l.length ≤ 100000) (h0 : 0 < l.length) (hb : bB g (sts false l) w) :
    Calls Tryz.prog 45 #[.slice (some ⟨g, 0, none⟩) l.length c] w (Gives (.int .i64 (lst l 0 0 : Nat)) w) := by
  obtain ⟨e1, _, e2, _⟩ := lst_zero h0
  have hf := Lib.hid (begins_at (begins_zero l) h0)
  have hc := hb.cell (stAt_get (l := l) (k := l.length - 1) (by omega))
  generalize hm : l.length = n at *
  obtain ⟨m, rfl⟩ : ∃ m, n = m + 1 := ⟨n - 1, by omega⟩
  rw [show m + 1 - 1 = m by omega] at *
  have hcast : ((m + 1 : Nat) : Int) = (m : Int) + 1 := by omega
  rw [e1] at e2 ⊢
  clear hb e1 hm
  have s0 : (0 : Int) ≤ m := by omega
  cases hs : stAt l m
  · rw [hs] at hc e2
    rw [if_neg Bool.false_ne_true] at e2 ⊢
    have e3 : ((m + 1 - 2 : Nat) : Int) = (m : Int) - 1 := by
      by_cases hm0 : m = 0
      · subst hm0
        rw [hf.out] at hs
        exact absurd hs (by simp)
      · omega
    rw [e3]
    clear e3 e2 hs
    go_enter Tryz.func45, Tryz.ntmps45
    go_wp2_with fail
    go_ret
    exact ⟨by go_num, Below.refl _ _⟩
  · rw [hs] at hc
    rw [if_pos rfl]
    clear hs e2
    go_enter Tryz.func45, Tryz.ntmps45
    go_wp2_with fail
    go_ret
    exact ⟨by go_num, Below.refl _ _⟩
end Go.Proofs.YtlbhffdpklbhfaaGreat
