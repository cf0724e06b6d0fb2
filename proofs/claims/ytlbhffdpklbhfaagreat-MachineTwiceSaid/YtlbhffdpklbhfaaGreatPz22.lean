/-
  Texts, one behind the other: Code3b.
  Conditions: those that each theorem states.
-/
import Derived.Deep.RegionHeld3
import Derived.Deep.DeepCutAuto
import Derived.Deep.CutBlock
import Derived.Test.YtlbhffdpklbhfaaGreatPz18
namespace Go.Proofs.YtlbhffdpklbhfaaGreat
open Go.RowKit
set_option maxRecDepth 100000
set_option linter.unusedVariables false
set_option linter.unusedSimpArgs false
theorem jump_ways (h : Int) (e1 : inB [16, 80, 64, 32, 48, 160, 176, 96, 112, 192, 208] h = true) : ((h == 16) = true) ∨ ((h == 16) = false ∧ (h == 80) = true) ∨ ((h == 16) = false ∧ (h == 80) = false ∧ (h == 64) = true) ∨ ((h == 16) = false ∧ (h == 80) = false ∧ (h == 64) = false ∧ (h == 32) = true) ∨ ((h == 16) = false ∧ (h == 80) = false ∧ (h == 64) = false ∧ (h == 32) = false ∧ (h == 48) = true) ∨ ((h == 16) = false ∧ (h == 80) = false ∧ (h == 64) = false ∧ (h == 32) = false ∧ (h == 48) = false ∧ (h == 160) = true) ∨ ((h == 16) = false ∧ (h == 80) = false ∧ (h == 64) = false ∧ (h == 32) = false ∧ (h == 48) = false ∧ (h == 160) = false ∧ (h == 176) = true) ∨ ((h == 16) = false ∧ (h == 80) = false ∧ (h == 64) = false ∧ (h == 32) = false ∧ (h == 48) = false ∧ (h == 160) = false ∧ (h == 176) = false ∧ (h == 96) = true) ∨ ((h == 16) = false ∧ (h == 80) = false ∧ (h == 64) = false ∧ (h == 32) = false ∧ (h == 48) = false ∧ (h == 160) = false ∧ (h == 176) = false ∧ (h == 96) = false ∧ (h == 112) = true) ∨ ((h == 16) = false ∧ (h == 80) = false ∧ (h == 64) = false ∧ (h == 32) = false ∧ (h == 48) = false ∧ (h == 160) = false ∧ (h == 176) = false ∧ (h == 96) = false ∧ (h == 112) = false ∧ (h == 192) = true) ∨ ((h == 16) = false ∧ (h == 80) = false ∧ (h == 64) = false ∧ (h == 32) = false ∧ (h == 48) = false ∧ (h == 160) = false ∧ (h == 176) = false ∧ (h == 96) = false ∧ (h == 112) = false ∧ (h == 192) = false ∧ (h == 208) = true) := by
  have hh : h = 16 ∨ h = 80 ∨ h = 64 ∨ h = 32 ∨ h = 48 ∨ h = 160 ∨ h = 176 ∨ h = 96 ∨ h = 112 ∨ h = 192 ∨ h = 208 := by
    simp [inB] at e1
    omega
  rcases hh with rfl | rfl | rfl | rfl | rfl | rfl | rfl | rfl | rfl | rfl | rfl <;> simp
set_option maxRecDepth 100000 in
set_option maxHeartbeats 1000000 in
theorem c7_branch_no (x : Ins) (h c sc s1 s2 : Int) (b r : Bool) (e0 : (c == 5) = b) (q1 : bits .or .u8 2 sc = s1) (q2 : bits .or .u8 s1 8 = s2) (e1 : inB [16, 80, 64, 32, 48, 160, 176, 96, 112, 192, 208] h = false)
    (C2 : Hid (∀ w, Calls Tryz.prog 144 #[iV x] w (Gives (.int .u8 c) w)))
    (C1 : Hid (∀ w, Calls Tryz.prog 149 #[iV x] w (Gives (.int .u8 h) w)))
    (C3 : Hid (∀ w, Calls Tryz.prog 181 #[iV x] w (Gives (.bool r) w)))
    (C5 : Hid (∀ w, Calls Tryz.prog 183 #[iV x] w (Gives (.int .u8 sc) w))) (w : World) :
    Calls Tryz.prog 153 #[iV x] w (Gives (.tuple #[whV Wh.zero, .int .u8 0]) w) := by
  have n16 : (h == 16) = false := by cases hh : (h == 16); rfl; rw [beq_iff_eq.mp hh] at e1; exact absurd e1 (by decide)
  have n80 : (h == 80) = false := by cases hh : (h == 80); rfl; rw [beq_iff_eq.mp hh] at e1; exact absurd e1 (by decide)
  have n64 : (h == 64) = false := by cases hh : (h == 64); rfl; rw [beq_iff_eq.mp hh] at e1; exact absurd e1 (by decide)
  have n32 : (h == 32) = false := by cases hh : (h == 32); rfl; rw [beq_iff_eq.mp hh] at e1; exact absurd e1 (by decide)
  have n48 : (h == 48) = false := by cases hh : (h == 48); rfl; rw [beq_iff_eq.mp hh] at e1; exact absurd e1 (by decide)
  have n160 : (h == 160) = false := by cases hh : (h == 160); rfl; rw [beq_iff_eq.mp hh] at e1; exact absurd e1 (by decide)
  have n176 : (h == 176) = false := by cases hh : (h == 176); rfl; rw [beq_iff_eq.mp hh] at e1; exact absurd e1 (by decide)
  have n96 : (h == 96) = false := by cases hh : (h == 96); rfl; rw [beq_iff_eq.mp hh] at e1; exact absurd e1 (by decide)
  have n112 : (h == 112) = false := by cases hh : (h == 112); rfl; rw [beq_iff_eq.mp hh] at e1; exact absurd e1 (by decide)
  have n192 : (h == 192) = false := by cases hh : (h == 192); rfl; rw [beq_iff_eq.mp hh] at e1; exact absurd e1 (by decide)
  have n208 : (h == 208) = false := by cases hh : (h == 208); rfl; rw [beq_iff_eq.mp hh] at e1; exact absurd e1 (by decide)
  clear e1
  have P : Hid (IDuo x Wh.zero w ((w.alloc (.cells #[.int .u8 x.op, .int .u8 x.dst, .int .u8 x.src, .int .i16 x.off, .int .i32 x.imm] 63)).alloc (.cells #[.int .u8 0, .int .u8 0, .bool false, .bool false, .bool false, .int .i64 0] 96))) := Lib.hid (IDuo.new x Wh.zero w)
  go_enter Tryz.func153, Tryz.ntmps153
  go_wp2_with fail
  refine (C1.out _).mono ?_
  rintro e w4 ⟨rfl, hb⟩
  have Q := Lib.hid (P.out.after hb)
  clear hb
  obtain ⟨p0, p1, p2, p3, p4⟩ := Q.out.2.1.cells
  have k1 := Q.out.2.1.lt
  obtain ⟨f0, f1, f2, f3, f4, f5⟩ := Q.out.2.2.free
  obtain ⟨z0, z1, z2, z3, z4, z5⟩ := Q.out.2.2.cells
  have k2 := Q.out.2.2.lt
  have BB := Lib.hid (Q.out.set Wh.zero).1
  go_wp2_with fail
  exact bodyPost_ret (v := .tuple #[whV Wh.zero, .int .u8 0]) (by simp [results, Tryz.results153, go_sem, z0, z1, z2, z3, z4, z5, k2, Wh.zero]) rfl ⟨rfl, BB.out⟩
set_option maxRecDepth 100000 in
set_option maxHeartbeats 20000000 in
theorem c7_branch_yes (x : Ins) (h c sc s1 s2 : Int) (b r : Bool) (e0 : (c == 5) = b) (q1 : bits .or .u8 2 sc = s1) (q2 : bits .or .u8 s1 8 = s2) (e1 : inB [16, 80, 64, 32, 48, 160, 176, 96, 112, 192, 208] h = true)
    (C2 : Hid (∀ w, Calls Tryz.prog 144 #[iV x] w (Gives (.int .u8 c) w)))
    (C1 : Hid (∀ w, Calls Tryz.prog 149 #[iV x] w (Gives (.int .u8 h) w)))
    (C3 : Hid (∀ w, Calls Tryz.prog 181 #[iV x] w (Gives (.bool r) w)))
    (C5 : Hid (∀ w, Calls Tryz.prog 183 #[iV x] w (Gives (.int .u8 sc) w))) (w : World) :
    Calls Tryz.prog 153 #[iV x] w (Gives (.tuple #[whV (⟨10, h, b, r, false, 0⟩ : Wh), .int .u8 s2]) w) := by
  have hh := jump_ways h e1
  clear e1
  rcases hh with n16 | ⟨n16, n80⟩ | ⟨n16, n80, n64⟩ | ⟨n16, n80, n64, n32⟩ | ⟨n16, n80, n64, n32, n48⟩ | ⟨n16, n80, n64, n32, n48, n160⟩ | ⟨n16, n80, n64, n32, n48, n160, n176⟩ | ⟨n16, n80, n64, n32, n48, n160, n176, n96⟩ | ⟨n16, n80, n64, n32, n48, n160, n176, n96, n112⟩ | ⟨n16, n80, n64, n32, n48, n160, n176, n96, n112, n192⟩ | ⟨n16, n80, n64, n32, n48, n160, n176, n96, n112, n192, n208⟩
  all_goals
    have P : Hid (IDuo x Wh.zero w ((w.alloc (.cells #[.int .u8 x.op, .int .u8 x.dst, .int .u8 x.src, .int .i16 x.off, .int .i32 x.imm] 63)).alloc (.cells #[.int .u8 0, .int .u8 0, .bool false, .bool false, .bool false, .int .i64 0] 96))) := Lib.hid (IDuo.new x Wh.zero w)
    go_enter Tryz.func153, Tryz.ntmps153
    go_wp2_with fail
    refine (C1.out _).mono ?_
    rintro e w4 ⟨rfl, hb⟩
    have Q := Lib.hid (P.out.after hb)
    clear hb
    obtain ⟨p0, p1, p2, p3, p4⟩ := Q.out.2.1.cells
    have k1 := Q.out.2.1.lt
    generalize hk : w4 = wS at *
    clear hk
    go_upto_region 13 with fail
    go_cut [4] (fun sl wx => ∃ gb, sl = .pointer (some ⟨gb, 0, none⟩) ∧ w.heap.size + 1 < gb ∧ Hid (IDuo x Wh.zero w wx ∧ whB gb (⟨10, h, b, r, false, 0⟩ : Wh) wx))
    case first =>
      skip
      have PQ := Lib.hid (Q.out.after (Below.drew (Below.refl _ _)))
      have H : Hid (∀ v wx, IDuo x v w wx → wx.cell? ⟨w.heap.size, 0, none⟩ = some (.int .u8 x.op) ∧ wx.cell? ⟨w.heap.size, 1, none⟩ = some (.int .u8 x.dst) ∧ wx.cell? ⟨w.heap.size, 2, none⟩ = some (.int .u8 x.src) ∧ wx.cell? ⟨w.heap.size, 3, none⟩ = some (.int .i16 x.off) ∧ wx.cell? ⟨w.heap.size, 4, none⟩ = some (.int .i32 x.imm)) := Lib.hid fun v wx hx => hx.2.1.cells
      refine wp_region_held_drew (S := (fun w' => w'.cell? ⟨w.heap.size, 0, none⟩ = some (.int .u8 x.op) ∧ w'.cell? ⟨w.heap.size, 1, none⟩ = some (.int .u8 x.dst) ∧ w'.cell? ⟨w.heap.size, 2, none⟩ = some (.int .u8 x.src) ∧ w'.cell? ⟨w.heap.size, 3, none⟩ = some (.int .i16 x.off) ∧ w'.cell? ⟨w.heap.size, 4, none⟩ = some (.int .i32 x.imm))) (by kernel_rfl) (H.out _ _ PQ.out) (fun hHeld => ?_)
      refine wpAnyH_take (i := 0) (oi := { dst := some 19, op := Op.load 63 (Operand.tmp 1), type := _, pos := _, after := _, guard := none }) (v := ?_) rfl (by kernel_rfl) (by kernel_rfl) (by kernel_rfl) (fun _ _ _ h => h) (Or.inl ⟨by rfl, ?_⟩) (by assumption) ?_
      rotate_left 1
      · intro w hSw; (try dsimp only at hSw); go_simp; try (with_reducible rfl)
      try simp only [Act.put, List.setIfInBounds_toArray, List.set_cons_zero, List.set_cons_succ]
      refine wpAnyH_take (i := 2) (oi := { dst := some 21, op := Op.load 63 (Operand.tmp 1), type := _, pos := _, after := _, guard := none }) (v := ?_) rfl (by kernel_rfl) (by kernel_rfl) (by kernel_rfl) (fun _ _ _ h => h) (Or.inl ⟨by rfl, ?_⟩) (by assumption) ?_
      rotate_left 1
      · intro w hSw; (try dsimp only at hSw); go_simp; try (with_reducible rfl)
      try simp only [Act.put, List.setIfInBounds_toArray, List.set_cons_zero, List.set_cons_succ]
      refine wpAnyH_take (i := 5) (oi := { dst := some 24, op := Op.load 63 (Operand.tmp 1), type := _, pos := _, after := _, guard := none }) (v := ?_) rfl (by kernel_rfl) (by kernel_rfl) (by kernel_rfl) (fun _ _ _ h => h) (Or.inl ⟨by rfl, ?_⟩) (by assumption) ?_
      rotate_left 1
      · intro w hSw; (try dsimp only at hSw); go_simp; try (with_reducible rfl)
      try simp only [Act.put, List.setIfInBounds_toArray, List.set_cons_zero, List.set_cons_succ]
      refine wpAnyH_ready (rs := [1, 8]) (by kernel_rfl) (by simp) ?_
      refine AllReadyH.cons (o := { dst := some 20, op := Op.call { callee := Callee.value (Operand.func 149), args := #[Operand.tmp 19], argTypes := #[63] }, type := _, pos := _, after := _, guard := none }) rfl (fun K hK => ?_) (AllReadyH.cons (o := { dst := some 4, op := Op.alloc 96, type := _, pos := _, after := _, guard := none }) rfl (fun K hK => ?_) AllReadyH.nil)
      · skip
        go_simp
        refine (C1.out _).mono ?_; rintro e w5 ⟨rfl, hb⟩
        replace PQ := Lib.hid (PQ.out.after hb)
        clear hb
        go_wp2_with fail
        refine hK.out _ _ (H.out _ _ PQ.out) (fun hHeld => ?_)
        clear hK K
        try simp only [Act.put, List.setIfInBounds_toArray, List.set_cons_zero, List.set_cons_succ]
        refine wpAnyH_ready (rs := [3, 8]) (by kernel_rfl) (by simp) ?_
        refine AllReadyH.cons (o := { dst := some 22, op := Op.call { callee := Callee.value (Operand.func 144), args := #[Operand.tmp 21], argTypes := #[63] }, type := _, pos := _, after := _, guard := none }) rfl (fun K hK => ?_) (AllReadyH.cons (o := { dst := some 4, op := Op.alloc 96, type := _, pos := _, after := _, guard := none }) rfl (fun K hK => ?_) AllReadyH.nil)
        · skip
          go_simp
          refine (C2.out _).mono ?_; rintro e w6 ⟨rfl, hb⟩
          replace PQ := Lib.hid (PQ.out.after hb)
          clear hb
          go_wp2_with fail
          refine hK.out _ _ (H.out _ _ PQ.out) (fun hHeld => ?_)
          clear hK K
          try simp only [Act.put, List.setIfInBounds_toArray, List.set_cons_zero, List.set_cons_succ]
          refine wpAnyH_take (i := 4) (oi := { dst := some 23, op := Op.binOp BinOp.eql 5 (Operand.tmp 22) (Operand.const (Value.int IntKind.u8 5)) 5, type := _, pos := _, after := _, guard := none }) (v := ?_) rfl (by kernel_rfl) (by kernel_rfl) (by kernel_rfl) (fun _ _ _ h => h) (Or.inl ⟨by rfl, ?_⟩) (by assumption) ?_
          rotate_left 1
          · intro w hSw; (try dsimp only at hSw); go_simp; try (with_reducible rfl)
          try simp only [Act.put, List.setIfInBounds_toArray, List.set_cons_zero, List.set_cons_succ]
          refine wpAnyH_ready (rs := [6, 8]) (by kernel_rfl) (by simp) ?_
          refine AllReadyH.cons (o := { dst := some 25, op := Op.call { callee := Callee.value (Operand.func 181), args := #[Operand.tmp 24], argTypes := #[63] }, type := _, pos := _, after := _, guard := none }) rfl (fun K hK => ?_) (AllReadyH.cons (o := { dst := some 4, op := Op.alloc 96, type := _, pos := _, after := _, guard := none }) rfl (fun K hK => ?_) AllReadyH.nil)
          · skip
            go_simp
            refine (C3.out _).mono ?_; rintro e w7 ⟨rfl, hb⟩
            replace PQ := Lib.hid (PQ.out.after hb)
            clear hb
            go_wp2_with fail
            refine hK.out _ _ (H.out _ _ PQ.out) (fun hHeld => ?_)
            clear hK K
            try simp only [Act.put, List.setIfInBounds_toArray, List.set_cons_zero, List.set_cons_succ]
            refine wpAnyH_take (i := 7) (oi := { dst := some 26, op := Op.build 96 #[(0, Operand.const (Value.int IntKind.u8 10)), (1, Operand.tmp 20), (2, Operand.tmp 23), (3, Operand.tmp 25)], type := _, pos := _, after := _, guard := none }) (v := ?_) rfl (by kernel_rfl) (by kernel_rfl) (by kernel_rfl) (fun _ _ _ h => h) (Or.inl ⟨by rfl, ?_⟩) (by assumption) ?_
            rotate_left 1
            · intro w hSw; (try dsimp only at hSw); go_simp; try (with_reducible rfl)
            try simp only [Act.put, List.setIfInBounds_toArray, List.set_cons_zero, List.set_cons_succ]
            refine wpAnyH_ready (rs := [8]) (by kernel_rfl) (by simp) ?_
            refine AllReadyH.cons (o := { dst := some 4, op := Op.alloc 96, type := _, pos := _, after := _, guard := none }) rfl (fun K hK => ?_) AllReadyH.nil
            go_simp
            have KG := PQ.out.2.2.lt
            have PR := PQ
            have PB : Hid (whB w7.heap.size Wh.zero _) := Lib.hid (whB.new w7 Wh.zero rfl)
            replace PQ := Lib.hid (PQ.out.after (below_alloc (Below.refl _ _) (.cells #[.int .u8 0, .int .u8 0, .bool false, .bool false, .bool false, .int .i64 0] 96)))
            refine hK.out _ _ (H.out _ _ PQ.out) (fun hHeld => ?_)
            clear hK K
            try simp only [Act.put, List.setIfInBounds_toArray, List.set_cons_zero, List.set_cons_succ]
            refine wpAnyH_ready (rs := [9]) (by kernel_rfl) (by simp) ?_
            refine AllReadyH.cons (o := { dst := none, op := Op.store 96 (Operand.tmp 4) (Operand.tmp 26), type := _, pos := _, after := _, guard := none }) rfl (fun K hK => ?_) AllReadyH.nil
            go_simp
            replace PB : Hid (whB w7.heap.size (⟨10, h, b, r, false, 0⟩ : Wh) _) := Lib.hid (whB.new w7 (⟨10, h, b, r, false, 0⟩ : Wh) rfl)
            replace PQ := Lib.hid (PR.out.after (below_alloc (Below.refl _ _) (.cells (whCells (⟨10, h, b, r, false, 0⟩ : Wh)) 96)))
            refine hK.out _ _ (H.out _ _ PQ.out) (fun hHeld => ?_)
            clear hK K
            try simp only [Act.put, List.setIfInBounds_toArray, List.set_cons_zero, List.set_cons_succ]
            refine wpAnyH_done (by kernel_rfl) ?_ _
            go_wp2_with fail
            go_meet
            exact ⟨_, rfl, KG, Lib.hid ⟨PQ.out, PB.out⟩⟩
          · skip
            go_simp
            have KG := PQ.out.2.2.lt
            have PR := PQ
            have PB : Hid (whB w6.heap.size Wh.zero _) := Lib.hid (whB.new w6 Wh.zero rfl)
            replace PQ := Lib.hid (PQ.out.after (below_alloc (Below.refl _ _) (.cells #[.int .u8 0, .int .u8 0, .bool false, .bool false, .bool false, .int .i64 0] 96)))
            refine hK.out _ _ (H.out _ _ PQ.out) (fun hHeld => ?_)
            clear hK K
            try simp only [Act.put, List.setIfInBounds_toArray, List.set_cons_zero, List.set_cons_succ]
            refine wpAnyH_ready (rs := [6]) (by kernel_rfl) (by simp) ?_
            refine AllReadyH.cons (o := { dst := some 25, op := Op.call { callee := Callee.value (Operand.func 181), args := #[Operand.tmp 24], argTypes := #[63] }, type := _, pos := _, after := _, guard := none }) rfl (fun K hK => ?_) AllReadyH.nil
            go_simp
            refine (C3.out _).mono ?_; rintro e w7 ⟨rfl, hb⟩
            replace PQ := Lib.hid (PQ.out.after hb)
            replace PB := Lib.hid (PB.out.after hb)
            clear hb
            go_wp2_with fail
            refine hK.out _ _ (H.out _ _ PQ.out) (fun hHeld => ?_)
            clear hK K
            try simp only [Act.put, List.setIfInBounds_toArray, List.set_cons_zero, List.set_cons_succ]
            refine wpAnyH_take (i := 7) (oi := { dst := some 26, op := Op.build 96 #[(0, Operand.const (Value.int IntKind.u8 10)), (1, Operand.tmp 20), (2, Operand.tmp 23), (3, Operand.tmp 25)], type := _, pos := _, after := _, guard := none }) (v := ?_) rfl (by kernel_rfl) (by kernel_rfl) (by kernel_rfl) (fun _ _ _ h => h) (Or.inl ⟨by rfl, ?_⟩) (by assumption) ?_
            rotate_left 1
            · intro w hSw; (try dsimp only at hSw); go_simp; try (with_reducible rfl)
            try simp only [Act.put, List.setIfInBounds_toArray, List.set_cons_zero, List.set_cons_succ]
            refine wpAnyH_ready (rs := [9]) (by kernel_rfl) (by simp) ?_
            refine AllReadyH.cons (o := { dst := none, op := Op.store 96 (Operand.tmp 4) (Operand.tmp 26), type := _, pos := _, after := _, guard := none }) rfl (fun K hK => ?_) AllReadyH.nil
            obtain ⟨f0, f1, f2, f3, f4, f5⟩ := PB.out.free
            obtain ⟨z0, z1, z2, z3, z4, z5⟩ := PB.out.cells
            go_simp
            replace PQ := Lib.hid (iduo_whs' PQ.out (⟨10, h, b, r, false, 0⟩ : Wh) KG)
            replace PB := Lib.hid (PB.out.set (⟨10, h, b, r, false, 0⟩ : Wh))
            clear f0 f1 f2 f3 f4 f5 z0 z1 z2 z3 z4 z5
            refine hK.out _ _ (H.out _ _ PQ.out) (fun hHeld => ?_)
            clear hK K
            try simp only [Act.put, List.setIfInBounds_toArray, List.set_cons_zero, List.set_cons_succ]
            refine wpAnyH_done (by kernel_rfl) ?_ _
            go_wp2_with fail
            go_meet
            exact ⟨_, rfl, KG, Lib.hid ⟨PQ.out, PB.out⟩⟩
        · skip
          go_simp
          have KG := PQ.out.2.2.lt
          have PR := PQ
          have PB : Hid (whB w5.heap.size Wh.zero _) := Lib.hid (whB.new w5 Wh.zero rfl)
          replace PQ := Lib.hid (PQ.out.after (below_alloc (Below.refl _ _) (.cells #[.int .u8 0, .int .u8 0, .bool false, .bool false, .bool false, .int .i64 0] 96)))
          refine hK.out _ _ (H.out _ _ PQ.out) (fun hHeld => ?_)
          clear hK K
          try simp only [Act.put, List.setIfInBounds_toArray, List.set_cons_zero, List.set_cons_succ]
          refine wpAnyH_ready (rs := [3]) (by kernel_rfl) (by simp) ?_
          refine AllReadyH.cons (o := { dst := some 22, op := Op.call { callee := Callee.value (Operand.func 144), args := #[Operand.tmp 21], argTypes := #[63] }, type := _, pos := _, after := _, guard := none }) rfl (fun K hK => ?_) AllReadyH.nil
          go_simp
          refine (C2.out _).mono ?_; rintro e w6 ⟨rfl, hb⟩
          replace PQ := Lib.hid (PQ.out.after hb)
          replace PB := Lib.hid (PB.out.after hb)
          clear hb
          go_wp2_with fail
          refine hK.out _ _ (H.out _ _ PQ.out) (fun hHeld => ?_)
          clear hK K
          try simp only [Act.put, List.setIfInBounds_toArray, List.set_cons_zero, List.set_cons_succ]
          refine wpAnyH_take (i := 4) (oi := { dst := some 23, op := Op.binOp BinOp.eql 5 (Operand.tmp 22) (Operand.const (Value.int IntKind.u8 5)) 5, type := _, pos := _, after := _, guard := none }) (v := ?_) rfl (by kernel_rfl) (by kernel_rfl) (by kernel_rfl) (fun _ _ _ h => h) (Or.inl ⟨by rfl, ?_⟩) (by assumption) ?_
          rotate_left 1
          · intro w hSw; (try dsimp only at hSw); go_simp; try (with_reducible rfl)
          try simp only [Act.put, List.setIfInBounds_toArray, List.set_cons_zero, List.set_cons_succ]
          refine wpAnyH_ready (rs := [6]) (by kernel_rfl) (by simp) ?_
          refine AllReadyH.cons (o := { dst := some 25, op := Op.call { callee := Callee.value (Operand.func 181), args := #[Operand.tmp 24], argTypes := #[63] }, type := _, pos := _, after := _, guard := none }) rfl (fun K hK => ?_) AllReadyH.nil
          go_simp
          refine (C3.out _).mono ?_; rintro e w7 ⟨rfl, hb⟩
          replace PQ := Lib.hid (PQ.out.after hb)
          replace PB := Lib.hid (PB.out.after hb)
          clear hb
          go_wp2_with fail
          refine hK.out _ _ (H.out _ _ PQ.out) (fun hHeld => ?_)
          clear hK K
          try simp only [Act.put, List.setIfInBounds_toArray, List.set_cons_zero, List.set_cons_succ]
          refine wpAnyH_take (i := 7) (oi := { dst := some 26, op := Op.build 96 #[(0, Operand.const (Value.int IntKind.u8 10)), (1, Operand.tmp 20), (2, Operand.tmp 23), (3, Operand.tmp 25)], type := _, pos := _, after := _, guard := none }) (v := ?_) rfl (by kernel_rfl) (by kernel_rfl) (by kernel_rfl) (fun _ _ _ h => h) (Or.inl ⟨by rfl, ?_⟩) (by assumption) ?_
          rotate_left 1
          · intro w hSw; (try dsimp only at hSw); go_simp; try (with_reducible rfl)
          try simp only [Act.put, List.setIfInBounds_toArray, List.set_cons_zero, List.set_cons_succ]
          refine wpAnyH_ready (rs := [9]) (by kernel_rfl) (by simp) ?_
          refine AllReadyH.cons (o := { dst := none, op := Op.store 96 (Operand.tmp 4) (Operand.tmp 26), type := _, pos := _, after := _, guard := none }) rfl (fun K hK => ?_) AllReadyH.nil
          obtain ⟨f0, f1, f2, f3, f4, f5⟩ := PB.out.free
          obtain ⟨z0, z1, z2, z3, z4, z5⟩ := PB.out.cells
          go_simp
          replace PQ := Lib.hid (iduo_whs' PQ.out (⟨10, h, b, r, false, 0⟩ : Wh) KG)
          replace PB := Lib.hid (PB.out.set (⟨10, h, b, r, false, 0⟩ : Wh))
          clear f0 f1 f2 f3 f4 f5 z0 z1 z2 z3 z4 z5
          refine hK.out _ _ (H.out _ _ PQ.out) (fun hHeld => ?_)
          clear hK K
          try simp only [Act.put, List.setIfInBounds_toArray, List.set_cons_zero, List.set_cons_succ]
          refine wpAnyH_done (by kernel_rfl) ?_ _
          go_wp2_with fail
          go_meet
          exact ⟨_, rfl, KG, Lib.hid ⟨PQ.out, PB.out⟩⟩
      · skip
        go_simp
        have KG := PQ.out.2.2.lt
        have PR := PQ
        have PB : Hid (whB wS.heap.size Wh.zero _) := Lib.hid (whB.new wS.drew Wh.zero rfl)
        replace PQ := Lib.hid (PQ.out.after (below_alloc (Below.refl _ _) (.cells #[.int .u8 0, .int .u8 0, .bool false, .bool false, .bool false, .int .i64 0] 96)))
        refine hK.out _ _ (H.out _ _ PQ.out) (fun hHeld => ?_)
        clear hK K
        try simp only [Act.put, List.setIfInBounds_toArray, List.set_cons_zero, List.set_cons_succ]
        refine wpAnyH_ready (rs := [1]) (by kernel_rfl) (by simp) ?_
        refine AllReadyH.cons (o := { dst := some 20, op := Op.call { callee := Callee.value (Operand.func 149), args := #[Operand.tmp 19], argTypes := #[63] }, type := _, pos := _, after := _, guard := none }) rfl (fun K hK => ?_) AllReadyH.nil
        go_simp
        refine (C1.out _).mono ?_; rintro e w5 ⟨rfl, hb⟩
        replace PQ := Lib.hid (PQ.out.after hb)
        replace PB := Lib.hid (PB.out.after hb)
        clear hb
        go_wp2_with fail
        refine hK.out _ _ (H.out _ _ PQ.out) (fun hHeld => ?_)
        clear hK K
        try simp only [Act.put, List.setIfInBounds_toArray, List.set_cons_zero, List.set_cons_succ]
        refine wpAnyH_ready (rs := [3]) (by kernel_rfl) (by simp) ?_
        refine AllReadyH.cons (o := { dst := some 22, op := Op.call { callee := Callee.value (Operand.func 144), args := #[Operand.tmp 21], argTypes := #[63] }, type := _, pos := _, after := _, guard := none }) rfl (fun K hK => ?_) AllReadyH.nil
        go_simp
        refine (C2.out _).mono ?_; rintro e w6 ⟨rfl, hb⟩
        replace PQ := Lib.hid (PQ.out.after hb)
        replace PB := Lib.hid (PB.out.after hb)
        clear hb
        go_wp2_with fail
        refine hK.out _ _ (H.out _ _ PQ.out) (fun hHeld => ?_)
        clear hK K
        try simp only [Act.put, List.setIfInBounds_toArray, List.set_cons_zero, List.set_cons_succ]
        refine wpAnyH_take (i := 4) (oi := { dst := some 23, op := Op.binOp BinOp.eql 5 (Operand.tmp 22) (Operand.const (Value.int IntKind.u8 5)) 5, type := _, pos := _, after := _, guard := none }) (v := ?_) rfl (by kernel_rfl) (by kernel_rfl) (by kernel_rfl) (fun _ _ _ h => h) (Or.inl ⟨by rfl, ?_⟩) (by assumption) ?_
        rotate_left 1
        · intro w hSw; (try dsimp only at hSw); go_simp; try (with_reducible rfl)
        try simp only [Act.put, List.setIfInBounds_toArray, List.set_cons_zero, List.set_cons_succ]
        refine wpAnyH_ready (rs := [6]) (by kernel_rfl) (by simp) ?_
        refine AllReadyH.cons (o := { dst := some 25, op := Op.call { callee := Callee.value (Operand.func 181), args := #[Operand.tmp 24], argTypes := #[63] }, type := _, pos := _, after := _, guard := none }) rfl (fun K hK => ?_) AllReadyH.nil
        go_simp
        refine (C3.out _).mono ?_; rintro e w7 ⟨rfl, hb⟩
        replace PQ := Lib.hid (PQ.out.after hb)
        replace PB := Lib.hid (PB.out.after hb)
        clear hb
        go_wp2_with fail
        refine hK.out _ _ (H.out _ _ PQ.out) (fun hHeld => ?_)
        clear hK K
        try simp only [Act.put, List.setIfInBounds_toArray, List.set_cons_zero, List.set_cons_succ]
        refine wpAnyH_take (i := 7) (oi := { dst := some 26, op := Op.build 96 #[(0, Operand.const (Value.int IntKind.u8 10)), (1, Operand.tmp 20), (2, Operand.tmp 23), (3, Operand.tmp 25)], type := _, pos := _, after := _, guard := none }) (v := ?_) rfl (by kernel_rfl) (by kernel_rfl) (by kernel_rfl) (fun _ _ _ h => h) (Or.inl ⟨by rfl, ?_⟩) (by assumption) ?_
        rotate_left 1
        · intro w hSw; (try dsimp only at hSw); go_simp; try (with_reducible rfl)
        try simp only [Act.put, List.setIfInBounds_toArray, List.set_cons_zero, List.set_cons_succ]
        refine wpAnyH_ready (rs := [9]) (by kernel_rfl) (by simp) ?_
        refine AllReadyH.cons (o := { dst := none, op := Op.store 96 (Operand.tmp 4) (Operand.tmp 26), type := _, pos := _, after := _, guard := none }) rfl (fun K hK => ?_) AllReadyH.nil
        obtain ⟨f0, f1, f2, f3, f4, f5⟩ := PB.out.free
        obtain ⟨z0, z1, z2, z3, z4, z5⟩ := PB.out.cells
        go_simp
        replace PQ := Lib.hid (iduo_whs' PQ.out (⟨10, h, b, r, false, 0⟩ : Wh) KG)
        replace PB := Lib.hid (PB.out.set (⟨10, h, b, r, false, 0⟩ : Wh))
        clear f0 f1 f2 f3 f4 f5 z0 z1 z2 z3 z4 z5
        refine hK.out _ _ (H.out _ _ PQ.out) (fun hHeld => ?_)
        clear hK K
        try simp only [Act.put, List.setIfInBounds_toArray, List.set_cons_zero, List.set_cons_succ]
        refine wpAnyH_done (by kernel_rfl) ?_ _
        go_wp2_with fail
        go_meet
        exact ⟨_, rfl, KG, Lib.hid ⟨PQ.out, PB.out⟩⟩
    case rest =>
      clear P Q
      obtain ⟨gb, rfl, kg, Q⟩ := hcut
      go_upto_region 14 with fail
      have PQ := Lib.hid (And.intro (Q.out.1.after (Below.drew (Below.refl _ _))) (Q.out.2.after (Below.drew (Below.refl _ _))))
      have H : Hid (∀ v wx, IDuo x v w wx ∧ whB gb (⟨10, h, b, r, false, 0⟩ : Wh) wx → (wx.cell? ⟨w.heap.size, 0, none⟩ = some (.int .u8 x.op) ∧ wx.cell? ⟨w.heap.size, 1, none⟩ = some (.int .u8 x.dst) ∧ wx.cell? ⟨w.heap.size, 2, none⟩ = some (.int .u8 x.src) ∧ wx.cell? ⟨w.heap.size, 3, none⟩ = some (.int .i16 x.off) ∧ wx.cell? ⟨w.heap.size, 4, none⟩ = some (.int .i32 x.imm)) ∧ (wx.cell? ⟨gb, 0, none⟩ = some (.int .u8 (⟨10, h, b, r, false, 0⟩ : Wh).kind) ∧ wx.cell? ⟨gb, 1, none⟩ = some (.int .u8 (⟨10, h, b, r, false, 0⟩ : Wh).op) ∧ wx.cell? ⟨gb, 2, none⟩ = some (.bool (⟨10, h, b, r, false, 0⟩ : Wh).wide) ∧ wx.cell? ⟨gb, 3, none⟩ = some (.bool (⟨10, h, b, r, false, 0⟩ : Wh).reg) ∧ wx.cell? ⟨gb, 4, none⟩ = some (.bool (⟨10, h, b, r, false, 0⟩ : Wh).signed) ∧ wx.cell? ⟨gb, 5, none⟩ = some (.int .i64 (⟨10, h, b, r, false, 0⟩ : Wh).size))) := Lib.hid fun v wx hx => ⟨hx.1.2.1.cells, hx.2.cells⟩
      refine wp_region_held_drew (S := (fun w' => (w'.cell? ⟨w.heap.size, 0, none⟩ = some (.int .u8 x.op) ∧ w'.cell? ⟨w.heap.size, 1, none⟩ = some (.int .u8 x.dst) ∧ w'.cell? ⟨w.heap.size, 2, none⟩ = some (.int .u8 x.src) ∧ w'.cell? ⟨w.heap.size, 3, none⟩ = some (.int .i16 x.off) ∧ w'.cell? ⟨w.heap.size, 4, none⟩ = some (.int .i32 x.imm)) ∧ (w'.cell? ⟨gb, 0, none⟩ = some (.int .u8 (⟨10, h, b, r, false, 0⟩ : Wh).kind) ∧ w'.cell? ⟨gb, 1, none⟩ = some (.int .u8 (⟨10, h, b, r, false, 0⟩ : Wh).op) ∧ w'.cell? ⟨gb, 2, none⟩ = some (.bool (⟨10, h, b, r, false, 0⟩ : Wh).wide) ∧ w'.cell? ⟨gb, 3, none⟩ = some (.bool (⟨10, h, b, r, false, 0⟩ : Wh).reg) ∧ w'.cell? ⟨gb, 4, none⟩ = some (.bool (⟨10, h, b, r, false, 0⟩ : Wh).signed) ∧ w'.cell? ⟨gb, 5, none⟩ = some (.int .i64 (⟨10, h, b, r, false, 0⟩ : Wh).size)))) (by kernel_rfl) (H.out _ _ PQ.out) (fun hHeld => ?_)
      refine wpAnyH_take (i := 0) (oi := { dst := some 27, op := Op.load 96 (Operand.tmp 4), type := _, pos := _, after := _, guard := none }) (v := ?_) rfl (by kernel_rfl) (by kernel_rfl) (by kernel_rfl) (fun _ _ _ h => h) (Or.inl ⟨by rfl, ?_⟩) (by assumption) ?_
      rotate_left 1
      · intro w hSw; (try dsimp only at hSw); go_simp; try (with_reducible rfl)
      try simp only [Act.put, List.setIfInBounds_toArray, List.set_cons_zero, List.set_cons_succ]
      refine wpAnyH_take (i := 1) (oi := { dst := some 28, op := Op.load 63 (Operand.tmp 1), type := _, pos := _, after := _, guard := none }) (v := ?_) rfl (by kernel_rfl) (by kernel_rfl) (by kernel_rfl) (fun _ _ _ h => h) (Or.inl ⟨by rfl, ?_⟩) (by assumption) ?_
      rotate_left 1
      · intro w hSw; (try dsimp only at hSw); go_simp; try (with_reducible rfl)
      try simp only [Act.put, List.setIfInBounds_toArray, List.set_cons_zero, List.set_cons_succ]
      refine wpAnyH_ready (rs := [2]) (by kernel_rfl) (by simp) ?_
      refine AllReadyH.cons (o := { dst := some 29, op := Op.call { callee := Callee.value (Operand.func 183), args := #[Operand.tmp 28], argTypes := #[63] }, type := _, pos := _, after := _, guard := none }) rfl (fun K hK => ?_) AllReadyH.nil
      go_simp
      refine (C5.out _).mono ?_; rintro e w9 ⟨rfl, hb⟩
      replace PQ := Lib.hid (And.intro (PQ.out.1.after hb) (PQ.out.2.after hb))
      clear hb
      go_wp2_with fail
      refine hK.out _ _ (H.out _ _ PQ.out) (fun hHeld => ?_)
      clear hK K
      try simp only [Act.put, List.setIfInBounds_toArray, List.set_cons_zero, List.set_cons_succ]
      refine wpAnyH_take (i := 3) (oi := { dst := some 30, op := Op.binOp BinOp.or 169 (Operand.const (Value.int IntKind.u8 2)) (Operand.tmp 29) 169, type := _, pos := _, after := _, guard := none }) (v := ?_) rfl (by kernel_rfl) (by kernel_rfl) (by kernel_rfl) (fun _ _ _ h => h) (Or.inl ⟨by rfl, ?_⟩) (by assumption) ?_
      rotate_left 1
      · intro w hSw; (try dsimp only at hSw); go_simp; try (with_reducible rfl)
      try simp only [Act.put, List.setIfInBounds_toArray, List.set_cons_zero, List.set_cons_succ]
      refine wpAnyH_take (i := 4) (oi := { dst := some 31, op := Op.binOp BinOp.or 169 (Operand.tmp 30) (Operand.const (Value.int IntKind.u8 8)) 169, type := _, pos := _, after := _, guard := none }) (v := ?_) rfl (by kernel_rfl) (by kernel_rfl) (by kernel_rfl) (fun _ _ _ h => h) (Or.inl ⟨by rfl, ?_⟩) (by assumption) ?_
      rotate_left 1
      · intro w hSw; (try dsimp only at hSw); go_simp; try (with_reducible rfl)
      try simp only [Act.put, List.setIfInBounds_toArray, List.set_cons_zero, List.set_cons_succ]
      obtain ⟨f0, f1, f2, f3, f4, f5⟩ := PQ.out.1.2.2.free
      obtain ⟨z0, z1, z2, z3, z4, z5⟩ := PQ.out.1.2.2.cells
      refine wpAnyH_ready (rs := [5]) (by kernel_rfl) (by simp) ?_
      refine AllReadyH.cons (o := { dst := none, op := Op.store 96 (Operand.tmp 2) (Operand.tmp 27), type := _, pos := _, after := _, guard := none }) rfl (fun K hK => ?_) AllReadyH.nil
      go_simp
      replace PQ := Lib.hid (And.intro (PQ.out.1.set (⟨10, h, b, r, false, 0⟩ : Wh)) (PQ.out.2.whs (k := w.heap.size + 1) (⟨10, h, b, r, false, 0⟩ : Wh) (by omega)))
      clear f0 f1 f2 f3 f4 f5 z0 z1 z2 z3 z4 z5
      refine hK.out _ _ (H.out _ _ PQ.out) (fun hHeld => ?_)
      clear hK K
      try simp only [Act.put, List.setIfInBounds_toArray, List.set_cons_zero, List.set_cons_succ]
      refine wpAnyH_take (i := 6) (oi := { dst := some 3, op := Op.assign (Operand.tmp 31), type := _, pos := _, after := _, guard := none }) (v := ?_) rfl (by kernel_rfl) (by kernel_rfl) (by kernel_rfl) (fun _ _ _ h => h) (Or.inl ⟨by rfl, ?_⟩) (by assumption) ?_
      rotate_left 1
      · intro w hSw; (try dsimp only at hSw); go_simp; try (with_reducible rfl)
      try simp only [Act.put, List.setIfInBounds_toArray, List.set_cons_zero, List.set_cons_succ]
      refine wpAnyH_done (by kernel_rfl) ?_ _
      have BB := Lib.hid PQ.out.1.1
      obtain ⟨z0, z1, z2, z3, z4, z5⟩ := PQ.out.1.2.2.cells
      have k2 := PQ.out.1.2.2.lt
      clear H PQ Q
      go_wp2_with fail
      exact bodyPost_ret (v := .tuple #[whV (⟨10, h, b, r, false, 0⟩ : Wh), .int .u8 s2]) (by simp [results, Tryz.results153, go_sem, z0, z1, z2, z3, z4, z5, k2, Wh.zero]) rfl ⟨rfl, BB.out⟩
theorem c7_branch (x : Ins) (hx : x.ok) (w : World) : Calls Tryz.prog 153 #[iV x] w (Gives (.tuple #[whV (tBranch x).1, .int .u8 (tBranch x).2]) w) := by
  have C1 := Lib.hid (c7_high x hx)
  have C2 := Lib.hid (c7_class x hx)
  have C3 := Lib.hid (c7_reg x hx)
  have C5 := Lib.hid (c7_second x hx)
  have q : ∃ s1 s2, bits .or .u8 2 (secF x) = s1 ∧ bits .or .u8 s1 8 = s2 ∧ 10 + secF x = s2 := by
    unfold secF
    split
    · exact ⟨_, _, rfl, rfl, by decide +kernel⟩
    · exact ⟨_, _, rfl, rfl, by decide +kernel⟩
  obtain ⟨s1, s2, q1, q2, q3⟩ := q
  unfold tBranch
  rw [q3]
  clear q3
  unfold brW
  generalize secF x = sc at *
  generalize x.op / 16 * 16 = h at *
  generalize (x.op / 8 % 2 == 1) = r at *
  cases h5 : (x.op % 8 == 5)
  all_goals
    generalize x.op % 8 = c at *
    cases hi : inB [16, 80, 64, 32, 48, 160, 176, 96, 112, 192, 208] h
    · exact c7_branch_no x h c sc s1 s2 _ r h5 q1 q2 hi C2 C1 C3 C5 w
    · exact c7_branch_yes x h c sc s1 s2 _ r h5 q1 q2 hi C2 C1 C3 C5 w
end Go.Proofs.YtlbhffdpklbhfaaGreat
