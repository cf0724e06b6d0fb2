/-
  The statement StatePlays: for every row of acts, place and size, the law returns true, and its arguments read as they did.
  Conditions: none beyond the row's own.
-/
import Derived.Deep.RegionHeld
import Derived.Test.YtdgckjkdimnpoaaMl12

namespace Go.Proofs.Ytdgckjkdimnpoaa
open Go Go.RowKit
set_option maxRecDepth 100000
set_option linter.unusedVariables false
set_option linter.unusedSimpArgs false

set_option maxHeartbeats 16000000 in
theorem splays_walk (A : Option Addr) (c : Nat) (l : List Sa) (off size : Int) (w : World) (hl : SaS w A l) (hv : ∀ k, saIn (saAt l k)) (hc : l.length ≤ c) (hm : c ≤ maxLen) (h1 : -9223372036854775808 ≤ off ∧ off ≤ 9223372036854775807) (h2 : -9223372036854775808 ≤ size ∧ size ≤ 9223372036854775807) : Calls Try.prog 4 #[.slice A l.length c, .int .i64 off, .int .i64 size] w (Gives (.bool true) w) := by
  have SH := Lib.hid l13_shown
  have F1 : Hid (∀ w, Calls Try.prog 11 #[] w (Gives (stV (saF l 0)) w)) := Lib.hid sp_first
  have F2 : Hid (∀ w, Calls Try.prog 12 #[] w (Gives (stV (saF l 0)) w)) := Lib.hid sr_first
  have GE := Lib.hid fun w => sp_Get (saM l) off size w (saM_in hv) h1
  have RG := Lib.hid fun w => sr_Get (saM l) off size w (saM_in hv) h1
  have FU := Lib.hid fun w => sp_Full (saM l) off size w (saM_in hv) h1 h2
  have RF := Lib.hid fun w => sr_Full (saM l) off size w (saM_in hv)
  have MU : Hid (saM l = saF l (min l.length 100)) := Lib.hid rfl
  have IN := Lib.hid (saF_in hv)
  generalize getY (saM l) off size = VM at *
  generalize getE (saM l) off size = EM at *
  generalize full (saM l) off size = RM at *
  have HL := Lib.hid hl
  have HV := Lib.hid hv
  clear hl hv h1 h2
  obtain ⟨n, hn⟩ : ∃ n, n = l.length := ⟨_, rfl⟩
  rw [← hn] at MU hc ⊢
  replace hn := Lib.hid hn
  have hn63 : (n : Int) ≤ 9223372036854775807 := by unfold maxLen at hm; omega
  clear hc hm
  go_enter Try.func4, Try.ntmps4
  go_wp2_with fail
  refine (SH.out _).mono ?_; rintro e w1 ⟨rfl, b1⟩
  have X := Lib.hid (Blks.none_ b1)
  clear b1 SH
  go_wp2_with fail
  refine (F1.out _).mono ?_; rintro e w2 ⟨rfl, b2⟩
  replace X := Lib.hid (X.out.after b2)
  clear b2 F1
  have hgp := Lib.hid X.out.1.size
  replace X := Lib.hid ((X.out.new Try.zeroCells36 36).row (by have := hgp.out; omega) (by have := hgp.out; simp <;> omega) (stC (saF l 0)))
  have N2 : Hid (stB w2.heap.size stZ (w2.alloc (.cells Try.zeroCells36 36))) := Lib.hid (stB.newz w2 rfl)
  go_upto_region 3 with (refine st_store rfl _ _ rfl rfl rfl N2.out ?_)
  clear N2
  generalize (w2.alloc (.cells Try.zeroCells36 36)).setRow w2.heap.size (stC (saF l 0)) = wx at *
  generalize w2.heap.size = gp at *
  go_wp2_with fail
  refine (F2.out _).mono ?_; rintro e w3 ⟨rfl, b3⟩
  replace X := Lib.hid (X.out.after b3)
  clear b3 F2
  have hgr := Lib.hid (Blk.lt (X.out.get (g := gp) (cs := stC (saF l 0)) (t := 36) (by simp)))
  replace X := Lib.hid ((X.out.new Try.zeroCells36 36).row (by have := hgp.out; have := hgr.out; omega) (by have := hgp.out; have := hgr.out; simp <;> omega) (stC (saF l 0)))
  have N2 : Hid (stB w3.heap.size stZ (w3.alloc (.cells Try.zeroCells36 36))) := Lib.hid (stB.newz w3 rfl)
  go_upto_region 4 with (refine st_store rfl _ _ rfl rfl rfl N2.out ?_)
  clear N2
  generalize (w3.alloc (.cells Try.zeroCells36 36)).setRow w3.heap.size (stC (saF l 0)) = wx at *
  generalize w3.heap.size = gr at *
  go_wp2_with fail
  go_loopw [29] (fun iv wr => ∃ j : Nat, iv = .int .i64 j ∧ j ≤ n ∧ j ≤ 100 ∧ Hid (Blks w [(gr, stC (saF l j), 36), (gp, stC (saF l j), 36)] wr)) (fun iv wr => n - (intOf iv).toNat)
  case atStart => exact ⟨0, rfl, by omega, by omega, X⟩
  case round =>
    obtain ⟨j, rfl, hj, hj100, V⟩ := hrel
    have j0 : (0 : Int) ≤ (j : Int) := by omega
    have j5 : (j : Int) ≤ 100 := by omega
    clear X
    by_cases hlt : (j : Int) < (n : Int)
    · obtain ⟨ga0, oa, rfl, hg0, hra⟩ := HL.out (by rw [← hn.out]; omega)
      rw [← hn.out] at hra
      have RJ0 := hra j (by omega)
      have RW : Hid (wr.rangeAt ga0 (oa + j * 10) (saL (saAt l j))) := Lib.hid fun i v hi => by
        rw [V.out.1.cell (p := ⟨ga0, oa + j * 10 + i, none⟩) hg0]
        exact RJ0 i v hi
      have X := Lib.hid (V.out.new (saC (saAt l j)) 43)
      have hga := Lib.hid (Blk.lt (V.out.get (g := gr) (cs := stC (saF l j)) (t := 36) (by simp)))
      have AJ := Lib.hid (HV.out j)
      have SJ := Lib.hid (IN.out j)
      have SJ1 := Lib.hid (IN.out (j + 1))
      have NX : Hid (saF l (j + 1) = saN (saF l j) (saAt l j)) := Lib.hid rfl
      clear RJ0 hra hg0
      generalize saAt l j = a at *
      by_cases h100 : (100 : Int) ≤ (j : Int)
      · have je : j = 100 := by omega
        have M0 : Hid (saM l = saF l j) := Lib.hid (by rw [MU.out, show min n 100 = j by omega])
        rw [← M0.out] at X
        clear NX SJ SJ1 AJ MU M0 je
        go_upto_region 22 with (first | (refine sa_load rfl _ rfl rfl RW.out ?_) | fail)
        clear V RW
        generalize wr.alloc (.cells (saC a) 43) = w3 at *
        replace X := Lib.hid (X.out.pick (l' := [(gr, stC (saM l), 36), (gp, stC (saM l), 36)]) (by simp))
        have LS : Hid (stB gp (saM l) w3) := Lib.hid (X.out.get (g := gp) (cs := stC (saM l)) (t := 36) (by simp))
        go_wp2_with (first | (refine st_load rfl _ rfl rfl LS.out ?_) | fail)
        refine (GE.out _).mono ?_; rintro e w4 ⟨rfl, b4⟩
        have Y := Lib.hid ((X.out.after b4).new (vCells VM) 30)
        clear b4 LS GE
        go_upto_region 23 with fail
        generalize w4.alloc (.cells (vCells VM) 30) = wx at *
        generalize w4.heap.size = gv at *
        have LS : Hid (stB gr (saM l) wx) := Lib.hid (Y.out.get (g := gr) (cs := stC (saM l)) (t := 36) (by simp))
        go_wp2_with (first | (refine st_load rfl _ rfl rfl LS.out ?_) | fail)
        refine (RG.out _).mono ?_; rintro e w5 ⟨rfl, b5⟩
        replace Y := Lib.hid ((Y.out.after b5).new (vCells VM) 30)
        clear b5 LS RG
        go_upto_region 24 with fail
        generalize w5.alloc (.cells (vCells VM) 30) = wx at *
        generalize w5.heap.size = gx at *
        replace Y := Lib.hid (Y.out.after (Below.drew (Below.refl _ _)))
        refine wp_region_held_drew (S := (fun u => Blks w [(gx, vCells VM, 30), (gv, vCells VM, 30), (gr, stC (saM l), 36), (gp, stC (saM l), 36)] u)) (by kernel_rfl) Y.out (fun hHeld => ?_)
        generalize wx.drew = wd at *
        refine wpAnyH_take (i := 0) (oi := { dst := some 148, op := Op.move (Operand.tmp 7), type := 4, pos := "law.go:79", after := #[], guard := none }) (v := ?_) rfl (by kernel_rfl) (by kernel_rfl) (by kernel_rfl) (fun _ _ _ h => h) (Or.inl ⟨by rfl, ?_⟩) (by first | exact hHeld | assumption) ?_
        rotate_left 1
        · intro w hSw; (try dsimp only at hSw); go_simp; try (with_reducible rfl)
        try simp only [Act.put, List.setIfInBounds_toArray, List.set_cons_zero, List.set_cons_succ]
        refine wpAnyH_take (i := 1) (oi := { dst := some 149, op := Op.move (Operand.tmp 148), type := 4, pos := "law.go:79", after := #[{ on := 0, ground := Ground.data }], guard := none }) (v := ?_) rfl (by kernel_rfl) (by kernel_rfl) (by kernel_rfl) (fun _ _ _ h => h) (Or.inl ⟨by rfl, ?_⟩) (by first | exact hHeld | assumption) ?_
        rotate_left 1
        · intro w hSw; (try dsimp only at hSw); go_simp; try (with_reducible rfl)
        try simp only [Act.put, List.setIfInBounds_toArray, List.set_cons_zero, List.set_cons_succ]
        refine wpAnyH_take (i := 2) (oi := { dst := some 150, op := Op.load 30 (Operand.tmp 20), type := 30, pos := "law.go:79", after := #[{ on := 1, ground := Ground.guard }], guard := some (1, true) }) rfl (by kernel_rfl) (by kernel_rfl) (by kernel_rfl) (fun _ _ _ h => h) (vl_yield (by kernel_rfl) _ rfl (g := gv) (v := VM) rfl (fun u hu => vBlk_range (hu.get (g := gv) (cs := vCells VM) (t := 30) (by simp)))) (by exact hHeld) ?_
        try simp only [Act.put, List.setIfInBounds_toArray, List.set_cons_zero, List.set_cons_succ]
        refine wpAnyH_take (i := 3) (oi := { dst := some 151, op := Op.load 30 (Operand.tmp 22), type := 30, pos := "law.go:79", after := #[{ on := 1, ground := Ground.guard }], guard := some (1, true) }) rfl (by kernel_rfl) (by kernel_rfl) (by kernel_rfl) (fun _ _ _ h => h) (vl_yield (by kernel_rfl) _ rfl (g := gx) (v := VM) rfl (fun u hu => vBlk_range (hu.get (g := gx) (cs := vCells VM) (t := 30) (by simp)))) (by exact hHeld) ?_
        try simp only [Act.put, List.setIfInBounds_toArray, List.set_cons_zero, List.set_cons_succ]
        refine wpAnyH_take (i := 4) (oi := { dst := some 152, op := Op.binOp BinOp.eql 30 (Operand.tmp 150) (Operand.tmp 151) 30, type := 4, pos := "law.go:79", after := #[{ on := 2, ground := Ground.data }, { on := 3, ground := Ground.data }, { on := 1, ground := Ground.guard }], guard := some (1, true) }) rfl (by kernel_rfl) (by kernel_rfl) (by kernel_rfl) (fun _ _ _ h => h) (yields_value (by kernel_rfl) (x_val_eq (X := VM) rfl rfl rfl)) (by exact hHeld) ?_
        try simp only [Act.put, List.setIfInBounds_toArray, List.set_cons_zero, List.set_cons_succ]
        refine wpAnyH_take (i := 5) (oi := { dst := some 153, op := Op.pick (Operand.tmp 149) (Operand.tmp 152) (Operand.const (Value.bool false)), type := 4, pos := "law.go:79", after := #[{ on := 1, ground := Ground.data }, { on := 4, ground := Ground.data }], guard := none }) (v := ?_) rfl (by kernel_rfl) (by kernel_rfl) (by kernel_rfl) (fun _ _ _ h => h) (Or.inl ⟨by rfl, ?_⟩) (by first | exact hHeld | assumption) ?_
        rotate_left 1
        · intro w hSw; (try dsimp only at hSw); go_simp; try (with_reducible rfl)
        try simp only [Act.put, List.setIfInBounds_toArray, List.set_cons_zero, List.set_cons_succ]
        refine wpAnyH_take (i := 6) (oi := { dst := some 154, op := Op.move (Operand.tmp 153), type := 4, pos := "law.go:79", after := #[{ on := 5, ground := Ground.data }, { on := 1, ground := Ground.chain }], guard := none }) (v := ?_) rfl (by kernel_rfl) (by kernel_rfl) (by kernel_rfl) (fun _ _ _ h => h) (Or.inl ⟨by rfl, ?_⟩) (by first | exact hHeld | assumption) ?_
        rotate_left 1
        · intro w hSw; (try dsimp only at hSw); go_simp; try (with_reducible rfl)
        try simp only [Act.put, List.setIfInBounds_toArray, List.set_cons_zero, List.set_cons_succ]
        refine wpAnyH_take (i := 7) (oi := { dst := some 155, op := Op.move (Operand.tmp 21), type := 44, pos := "law.go:79", after := #[{ on := 6, ground := Ground.guard }], guard := some (6, true) }) (v := ?_) rfl (by kernel_rfl) (by kernel_rfl) (by kernel_rfl) (fun _ _ _ h => h) (Or.inl ⟨by rfl, ?_⟩) (by first | exact hHeld | assumption) ?_
        rotate_left 1
        · intro w hSw; (try dsimp only at hSw); go_simp; try (with_reducible rfl)
        try simp only [Act.put, List.setIfInBounds_toArray, List.set_cons_zero, List.set_cons_succ]
        refine wpAnyH_take (i := 8) (oi := { dst := some 156, op := Op.move (Operand.tmp 23), type := 44, pos := "law.go:79", after := #[{ on := 6, ground := Ground.guard }], guard := some (6, true) }) (v := ?_) rfl (by kernel_rfl) (by kernel_rfl) (by kernel_rfl) (fun _ _ _ h => h) (Or.inl ⟨by rfl, ?_⟩) (by first | exact hHeld | assumption) ?_
        rotate_left 1
        · intro w hSw; (try dsimp only at hSw); go_simp; try (with_reducible rfl)
        try simp only [Act.put, List.setIfInBounds_toArray, List.set_cons_zero, List.set_cons_succ]
        refine wpAnyH_take (i := 9) (oi := { dst := some 157, op := Op.binOp BinOp.eql 44 (Operand.tmp 155) (Operand.tmp 156) 44, type := 4, pos := "law.go:79", after := #[{ on := 7, ground := Ground.data }, { on := 8, ground := Ground.data }, { on := 6, ground := Ground.guard }], guard := some (6, true) }) (v := ?_) rfl (by kernel_rfl) (by kernel_rfl) (by kernel_rfl) (fun _ _ _ h => h) (Or.inl ⟨by rfl, ?_⟩) (by first | exact hHeld | assumption) ?_
        rotate_left 1
        · intro w hSw; (try dsimp only at hSw); go_simp; try (with_reducible rfl)
        try simp only [Act.put, List.setIfInBounds_toArray, List.set_cons_zero, List.set_cons_succ]
        refine wpAnyH_take (i := 10) (oi := { dst := some 158, op := Op.pick (Operand.tmp 154) (Operand.tmp 157) (Operand.const (Value.bool false)), type := 4, pos := "law.go:79", after := #[{ on := 6, ground := Ground.data }, { on := 9, ground := Ground.data }], guard := none }) (v := ?_) rfl (by kernel_rfl) (by kernel_rfl) (by kernel_rfl) (fun _ _ _ h => h) (Or.inl ⟨by rfl, ?_⟩) (by first | exact hHeld | assumption) ?_
        rotate_left 1
        · intro w hSw; (try dsimp only at hSw); go_simp; try (with_reducible rfl)
        try simp only [Act.put, List.setIfInBounds_toArray, List.set_cons_zero, List.set_cons_succ]
        refine wpAnyH_take (i := 11) (oi := { dst := some 159, op := Op.move (Operand.tmp 158), type := 4, pos := "law.go:79", after := #[{ on := 10, ground := Ground.data }, { on := 6, ground := Ground.chain }], guard := none }) (v := ?_) rfl (by kernel_rfl) (by kernel_rfl) (by kernel_rfl) (fun _ _ _ h => h) (Or.inl ⟨by rfl, ?_⟩) (by first | exact hHeld | assumption) ?_
        rotate_left 1
        · intro w hSw; (try dsimp only at hSw); go_simp; try (with_reducible rfl)
        try simp only [Act.put, List.setIfInBounds_toArray, List.set_cons_zero, List.set_cons_succ]
        refine wpAnyH_take (i := 12) (oi := { dst := some 160, op := Op.load 36 (Operand.tmp 8), type := 36, pos := "law.go:79", after := #[{ on := 11, ground := Ground.guard }], guard := some (11, true) }) rfl (by kernel_rfl) (by kernel_rfl) (by kernel_rfl) (fun _ _ _ h => h) (st_yield (by kernel_rfl) _ rfl (g := gp) (X := (saM l)) rfl (fun u hu => (hu.get (g := gp) (cs := stC (saM l)) (t := 36) (by simp)))) (by exact hHeld) ?_
        try simp only [Act.put, List.setIfInBounds_toArray, List.set_cons_zero, List.set_cons_succ]
        refine wpAnyH_take (i := 13) (oi := { dst := some 161, op := Op.move (Operand.tmp 1), type := 3, pos := "law.go:79", after := #[{ on := 11, ground := Ground.guard }], guard := some (11, true) }) (v := ?_) rfl (by kernel_rfl) (by kernel_rfl) (by kernel_rfl) (fun _ _ _ h => h) (Or.inl ⟨by rfl, ?_⟩) (by first | exact hHeld | assumption) ?_
        rotate_left 1
        · intro w hSw; (try dsimp only at hSw); go_simp; try (with_reducible rfl)
        try simp only [Act.put, List.setIfInBounds_toArray, List.set_cons_zero, List.set_cons_succ]
        refine wpAnyH_take (i := 14) (oi := { dst := some 162, op := Op.move (Operand.tmp 2), type := 3, pos := "law.go:79", after := #[{ on := 11, ground := Ground.guard }], guard := some (11, true) }) (v := ?_) rfl (by kernel_rfl) (by kernel_rfl) (by kernel_rfl) (fun _ _ _ h => h) (Or.inl ⟨by rfl, ?_⟩) (by first | exact hHeld | assumption) ?_
        rotate_left 1
        · intro w hSw; (try dsimp only at hSw); go_simp; try (with_reducible rfl)
        try simp only [Act.put, List.setIfInBounds_toArray, List.set_cons_zero, List.set_cons_succ]
        refine wpAnyH_take (i := 16) (oi := { dst := some 164, op := Op.load 36 (Operand.tmp 9), type := 36, pos := "law.go:79", after := #[{ on := 11, ground := Ground.guard }], guard := some (11, true) }) rfl (by kernel_rfl) (by kernel_rfl) (by kernel_rfl) (fun _ _ _ h => h) (st_yield (by kernel_rfl) _ rfl (g := gr) (X := (saM l)) rfl (fun u hu => (hu.get (g := gr) (cs := stC (saM l)) (t := 36) (by simp)))) (by exact hHeld) ?_
        try simp only [Act.put, List.setIfInBounds_toArray, List.set_cons_zero, List.set_cons_succ]
        refine wpAnyH_take (i := 17) (oi := { dst := some 165, op := Op.move (Operand.tmp 1), type := 3, pos := "law.go:79", after := #[{ on := 11, ground := Ground.guard }], guard := some (11, true) }) (v := ?_) rfl (by kernel_rfl) (by kernel_rfl) (by kernel_rfl) (fun _ _ _ h => h) (Or.inl ⟨by rfl, ?_⟩) (by first | exact hHeld | assumption) ?_
        rotate_left 1
        · intro w hSw; (try dsimp only at hSw); go_simp; try (with_reducible rfl)
        try simp only [Act.put, List.setIfInBounds_toArray, List.set_cons_zero, List.set_cons_succ]
        refine wpAnyH_take (i := 18) (oi := { dst := some 166, op := Op.move (Operand.tmp 2), type := 3, pos := "law.go:79", after := #[{ on := 11, ground := Ground.guard }], guard := some (11, true) }) (v := ?_) rfl (by kernel_rfl) (by kernel_rfl) (by kernel_rfl) (fun _ _ _ h => h) (Or.inl ⟨by rfl, ?_⟩) (by first | exact hHeld | assumption) ?_
        rotate_left 1
        · intro w hSw; (try dsimp only at hSw); go_simp; try (with_reducible rfl)
        try simp only [Act.put, List.setIfInBounds_toArray, List.set_cons_zero, List.set_cons_succ]
        refine wpAnyH_ready (rs := [15]) (by kernel_rfl) (by simp) ?_
        refine AllReadyH.cons (o := { dst := some 163, op := Op.call { callee := Callee.value (Operand.func 23), args := #[Operand.tmp 160, Operand.tmp 161, Operand.tmp 162], argTypes := #[36, 3, 3] }, type := 4, pos := "law.go:79", after := #[{ on := 12, ground := Ground.data }, { on := 13, ground := Ground.data }, { on := 14, ground := Ground.data }, { on := 11, ground := Ground.chain }, { on := 11, ground := Ground.guard }], guard := some (11, true) }) rfl (fun K hK => ?_) AllReadyH.nil
        go_simp
        refine (FU.out _).mono ?_; rintro e u1 ⟨rfl, b1⟩
        replace Y := Lib.hid (Y.out.after b1)
        clear b1
        go_wp2_with fail
        refine hK.out _ _ Y.out (fun hHeld => ?_)
        clear hK K
        try simp only [Act.put, List.setIfInBounds_toArray, List.set_cons_zero, List.set_cons_succ]
        refine wpAnyH_ready (rs := [19]) (by kernel_rfl) (by simp) ?_
        refine AllReadyH.cons (o := { dst := some 167, op := Op.call { callee := Callee.value (Operand.func 24), args := #[Operand.tmp 164, Operand.tmp 165, Operand.tmp 166], argTypes := #[36, 3, 3] }, type := 4, pos := "law.go:79", after := #[{ on := 16, ground := Ground.data }, { on := 17, ground := Ground.data }, { on := 18, ground := Ground.data }, { on := 15, ground := Ground.chain }, { on := 11, ground := Ground.guard }], guard := some (11, true) }) rfl (fun K hK => ?_) AllReadyH.nil
        go_simp
        refine (RF.out _).mono ?_; rintro e u1 ⟨rfl, b1⟩
        replace Y := Lib.hid (Y.out.after b1)
        clear b1
        go_wp2_with fail
        refine hK.out _ _ Y.out (fun hHeld => ?_)
        clear hK K
        try simp only [Act.put, List.setIfInBounds_toArray, List.set_cons_zero, List.set_cons_succ]
        refine wpAnyH_take (i := 20) (oi := { dst := some 168, op := Op.binOp BinOp.eql 4 (Operand.tmp 163) (Operand.tmp 167) 4, type := 4, pos := "law.go:79", after := #[{ on := 15, ground := Ground.data }, { on := 19, ground := Ground.data }, { on := 11, ground := Ground.guard }], guard := some (11, true) }) (v := ?_) rfl (by kernel_rfl) (by kernel_rfl) (by kernel_rfl) (fun _ _ _ h => h) (Or.inl ⟨by rfl, ?_⟩) (by first | exact hHeld | assumption) ?_
        rotate_left 1
        · intro w hSw; (try dsimp only at hSw); go_simp; try (with_reducible rfl)
        try simp only [Act.put, List.setIfInBounds_toArray, List.set_cons_zero, List.set_cons_succ]
        refine wpAnyH_take (i := 21) (oi := { dst := some 169, op := Op.pick (Operand.tmp 159) (Operand.tmp 168) (Operand.const (Value.bool false)), type := 4, pos := "law.go:79", after := #[{ on := 11, ground := Ground.data }, { on := 20, ground := Ground.data }], guard := none }) (v := ?_) rfl (by kernel_rfl) (by kernel_rfl) (by kernel_rfl) (fun _ _ _ h => h) (Or.inl ⟨by rfl, ?_⟩) (by first | exact hHeld | assumption) ?_
        rotate_left 1
        · intro w hSw; (try dsimp only at hSw); go_simp; try (with_reducible rfl)
        try simp only [Act.put, List.setIfInBounds_toArray, List.set_cons_zero, List.set_cons_succ]
        refine wpAnyH_take (i := 22) (oi := { dst := some 6, op := Op.assign (Operand.tmp 169), type := 4, pos := "law.go:79", after := #[{ on := 21, ground := Ground.data }, { on := 19, ground := Ground.chain }, { on := 0, ground := Ground.phase }, { on := 1, ground := Ground.phase }, { on := 2, ground := Ground.phase }, { on := 3, ground := Ground.phase }, { on := 4, ground := Ground.phase }, { on := 5, ground := Ground.phase }, { on := 6, ground := Ground.phase }, { on := 7, ground := Ground.phase }, { on := 8, ground := Ground.phase }, { on := 9, ground := Ground.phase }, { on := 10, ground := Ground.phase }, { on := 11, ground := Ground.phase }, { on := 12, ground := Ground.phase }, { on := 13, ground := Ground.phase }, { on := 14, ground := Ground.phase }, { on := 15, ground := Ground.phase }, { on := 16, ground := Ground.phase }, { on := 17, ground := Ground.phase }, { on := 18, ground := Ground.phase }, { on := 19, ground := Ground.phase }, { on := 20, ground := Ground.phase }, { on := 21, ground := Ground.phase }], guard := none }) (v := ?_) rfl (by kernel_rfl) (by kernel_rfl) (by kernel_rfl) (fun _ _ _ h => h) (Or.inl ⟨by rfl, ?_⟩) (by first | exact hHeld | assumption) ?_
        rotate_left 1
        · intro w hSw; (try dsimp only at hSw); go_simp; try (with_reducible rfl)
        try simp only [Act.put, List.setIfInBounds_toArray, List.set_cons_zero, List.set_cons_succ]
        refine wpAnyH_done (by kernel_rfl) ?_ _
        go_wp2_with fail
        go_ret
        exact ⟨rfl, Y.out.1⟩
      · have PU := Lib.hid fun w => sp_Put (saF l j) a.o a.z a.v w SJ.out AJ.out.2.2.2 AJ.out.2.1
        have RP := Lib.hid fun w => sr_Put (saF l j) a.o a.z a.v w SJ.out AJ.out.2.2.2 AJ.out.2.1
        have SE := Lib.hid fun w => sp_set (saF l j) a.o a.v w SJ.out AJ.out.2.2.2
        have RS := Lib.hid fun w => sr_set (saF l j) a.o a.v w SJ.out AJ.out.2.2.2
        have GJ := Lib.hid fun w => sp_Get (saF l (j + 1)) a.o a.z w SJ1.out AJ.out.2.1
        have RJ := Lib.hid fun w => sr_Get (saF l (j + 1)) a.o a.z w SJ1.out AJ.out.2.1
        have FJ := Lib.hid fun w => sp_Full (saF l (j + 1)) a.o a.z w SJ1.out AJ.out.2.1 AJ.out.2.2.1
        have RFJ := Lib.hid fun w => sr_Full (saF l (j + 1)) a.o a.z w SJ1.out
        obtain ⟨b, hbk⟩ : ∃ b, b = isSet a := ⟨_, rfl⟩
        have hk : (a.k.tmod 4 == 3) = b := by rw [hbk]; unfold isSet; rw [Int.tmod_eq_emod_of_nonneg AJ.out.1.1]
        have P1 : Hid (b = true → saE (saF l j) a = setE (saF l j) a.o a.v ∧ saT (saF l j) a = setX (saF l j) a.o a.v) := Lib.hid fun h => saE_set (by rw [← hbk]; exact h)
        have P2 : Hid (b = false → saE (saF l j) a = putE (saF l j) a.o a.z a.v ∧ saT (saF l j) a = putY (saF l j) a.o a.z a.v) := Lib.hid fun h => saE_put (by rw [← hbk]; exact h)
        have Q1 : Hid (saE (saF l j) a = 0 → saF l (j + 1) = saT (saF l j) a) := Lib.hid fun h => by rw [NX.out]; exact saN_yes h
        have Q2 : Hid (¬ saE (saF l j) a = 0 → saF l (j + 1) = saF l j) := Lib.hid fun h => by rw [NX.out]; exact saN_no h
        clear NX hbk SJ SJ1 AJ GE RG FU RF MU
        generalize getY (saF l (j + 1)) a.o a.z = VJ at *
        generalize getE (saF l (j + 1)) a.o a.z = EJ at *
        generalize full (saF l (j + 1)) a.o a.z = RJJ at *
        generalize hS1 : saF l (j + 1) = S1 at *
        replace hS1 := Lib.hid hS1
        generalize saE (saF l j) a = EE at *
        generalize saT (saF l j) a = TT at *
        generalize putE (saF l j) a.o a.z a.v = E1 at *
        generalize putY (saF l j) a.o a.z a.v = T1 at *
        generalize setE (saF l j) a.o a.v = E2 at *
        generalize setX (saF l j) a.o a.v = T2 at *
        generalize saF l j = S0 at *
        go_upto_region 8 with (first | (refine sa_load rfl _ rfl rfl RW.out ?_) | fail)
        clear V RW
        generalize wr.alloc (.cells (saC a) 43) = w3 at *
        generalize wr.heap.size = ga at *
        have LS : Hid (stB gp S0 w3) := Lib.hid (X.out.get (g := gp) (cs := stC S0) (t := 36) (by simp))
        obtain ⟨c0, c1, c2, c3, c4, c5, c6, c7, c8, c9⟩ := saB_cells (X.out.get (g := ga) (cs := saC a) (t := 43) (by simp))
        go_wp2_with (first | (refine st_load rfl _ rfl rfl LS.out ?_) | fail)
        refine (PU.out _).mono ?_; rintro e w4 ⟨rfl, b4⟩
        replace X := Lib.hid (X.out.after b4)
        clear b4 LS PU c0 c1 c2 c3 c4 c5 c6 c7 c8 c9
        have hgt := Lib.hid (Blk.lt (X.out.get (g := ga) (cs := saC a) (t := 43) (by simp)))
        replace X := Lib.hid ((X.out.new Try.zeroCells36 36).row (by have := hgp.out; have := hgr.out; have := hga.out; have := hgt.out; omega) (by have := hgp.out; have := hgr.out; have := hga.out; have := hgt.out; simp <;> omega) (stC T1))
        have N2 : Hid (stB w4.heap.size stZ (w4.alloc (.cells Try.zeroCells36 36))) := Lib.hid (stB.newz w4 rfl)
        go_upto_region 9 with (refine st_store rfl _ _ rfl rfl rfl N2.out ?_)
        clear N2
        generalize (w4.alloc (.cells Try.zeroCells36 36)).setRow w4.heap.size (stC T1) = w5 at *
        generalize w4.heap.size = gt at *
        have LS : Hid (stB gr S0 w5) := Lib.hid (X.out.get (g := gr) (cs := stC S0) (t := 36) (by simp))
        obtain ⟨c0, c1, c2, c3, c4, c5, c6, c7, c8, c9⟩ := saB_cells (X.out.get (g := ga) (cs := saC a) (t := 43) (by simp))
        go_wp2_with (first | (refine st_load rfl _ rfl rfl LS.out ?_) | fail)
        refine (RP.out _).mono ?_; rintro e w6 ⟨rfl, b6⟩
        replace X := Lib.hid (X.out.after b6)
        clear b6 LS RP c0 c1 c2 c3 c4 c5 c6 c7 c8 c9
        have hgu := Lib.hid (Blk.lt (X.out.get (g := gt) (cs := stC T1) (t := 36) (by simp)))
        replace X := Lib.hid ((X.out.new Try.zeroCells36 36).row (by have := hgp.out; have := hgr.out; have := hga.out; have := hgt.out; have := hgu.out; omega) (by have := hgp.out; have := hgr.out; have := hga.out; have := hgt.out; have := hgu.out; simp <;> omega) (stC T1))
        have N2 : Hid (stB w6.heap.size stZ (w6.alloc (.cells Try.zeroCells36 36))) := Lib.hid (stB.newz w6 rfl)
        go_upto_region 10 with (refine st_store rfl _ _ rfl rfl rfl N2.out ?_)
        clear N2
        generalize (w6.alloc (.cells Try.zeroCells36 36)).setRow w6.heap.size (stC T1) = w7 at *
        generalize w6.heap.size = gu at *
        obtain ⟨c0, c1, c2, c3, c4, c5, c6, c7, c8, c9⟩ := saB_cells (X.out.get (g := ga) (cs := saC a) (t := 43) (by simp))
        cases b
        · skip
          clear P1 SE RS
          go_upto_region 13 with fail
          clear c0 c1 c2 c3 c4 c5 c6 c7 c8 c9
          have LT : Hid (stB gt T1 w7) := Lib.hid (X.out.get (g := gt) (cs := stC T1) (t := 36) (by simp))
          have LU : Hid (stB gu T1 w7) := Lib.hid (X.out.get (g := gu) (cs := stC T1) (t := 36) (by simp))
          go_upto_region 15 with (first | (refine st_load_w (by kernel_rfl) _ rfl (g := gt) rfl LT.out ?_) | (refine st_load_w (by kernel_rfl) _ rfl (g := gu) rfl LU.out ?_) | (refine wpList_value_w (by kernel_rfl) (x_st_ne (X := T1) rfl rfl rfl) ?_) | fail)
          clear LT LU
          cases hE : (E1 == 0)
          · skip
            have e0 : ¬ E1 = 0 := by simpa using hE
            have eS : S1 = S0 := Q2.out (by rw [(P2.out (by trivial)).1]; exact e0)
            have Y : Hid (Blks w [(ga, saC a, 43), (gr, stC S1, 36), (gp, stC S1, 36)] w7) := Lib.hid (by rw [eS]; exact X.out.pick (by simp))
            clear e0 eS X
            go_upto_region 17 with fail
            generalize w7 = wy at *
            have LS : Hid (stB gp S1 wy) := Lib.hid (Y.out.get (g := gp) (cs := stC S1) (t := 36) (by simp))
            obtain ⟨c0, c1, c2, c3, c4, c5, c6, c7, c8, c9⟩ := saB_cells (Y.out.get (g := ga) (cs := saC a) (t := 43) (by simp))
            go_wp2_with (first | (refine st_load rfl _ rfl rfl LS.out ?_) | fail)
            refine (GJ.out _).mono ?_; rintro e w8 ⟨rfl, b8⟩
            replace Y := Lib.hid ((Y.out.after b8).new (vCells VJ) 30)
            clear b8 LS GJ c0 c1 c2 c3 c4 c5 c6 c7 c8 c9
            go_upto_region 18 with fail
            generalize w8.alloc (.cells (vCells VJ) 30) = wz at *
            generalize w8.heap.size = gv at *
            have LS : Hid (stB gr S1 wz) := Lib.hid (Y.out.get (g := gr) (cs := stC S1) (t := 36) (by simp))
            obtain ⟨c0, c1, c2, c3, c4, c5, c6, c7, c8, c9⟩ := saB_cells (Y.out.get (g := ga) (cs := saC a) (t := 43) (by simp))
            go_wp2_with (first | (refine st_load rfl _ rfl rfl LS.out ?_) | fail)
            refine (RJ.out _).mono ?_; rintro e w9 ⟨rfl, b9⟩
            replace Y := Lib.hid ((Y.out.after b9).new (vCells VJ) 30)
            clear b9 LS RJ c0 c1 c2 c3 c4 c5 c6 c7 c8 c9
            go_upto_region 19 with fail
            generalize w9.alloc (.cells (vCells VJ) 30) = wz at *
            generalize w9.heap.size = gx at *
            replace Y := Lib.hid (Y.out.after (Below.drew (Below.refl _ _)))
            refine wp_region_held_drew (S := (fun u => Blks w [(gx, vCells VJ, 30), (gv, vCells VJ, 30), (ga, saC a, 43), (gr, stC S1, 36), (gp, stC S1, 36)] u)) (by kernel_rfl) Y.out (fun hHeld => ?_)
            generalize wz.drew = wd at *
            refine wpAnyH_take (i := 0) (oi := { dst := some 110, op := Op.load 30 (Operand.tmp 16), type := 30, pos := "law.go:73", after := #[], guard := none }) rfl (by kernel_rfl) (by kernel_rfl) (by kernel_rfl) (fun _ _ _ h => h) (vl_yield (by kernel_rfl) _ rfl (g := gv) (v := VJ) rfl (fun u hu => vBlk_range (hu.get (g := gv) (cs := vCells VJ) (t := 30) (by simp)))) (by exact hHeld) ?_
            try simp only [Act.put, List.setIfInBounds_toArray, List.set_cons_zero, List.set_cons_succ]
            refine wpAnyH_take (i := 1) (oi := { dst := some 111, op := Op.load 30 (Operand.tmp 18), type := 30, pos := "law.go:73", after := #[], guard := none }) rfl (by kernel_rfl) (by kernel_rfl) (by kernel_rfl) (fun _ _ _ h => h) (vl_yield (by kernel_rfl) _ rfl (g := gx) (v := VJ) rfl (fun u hu => vBlk_range (hu.get (g := gx) (cs := vCells VJ) (t := 30) (by simp)))) (by exact hHeld) ?_
            try simp only [Act.put, List.setIfInBounds_toArray, List.set_cons_zero, List.set_cons_succ]
            refine wpAnyH_take (i := 2) (oi := { dst := some 112, op := Op.binOp BinOp.neq 30 (Operand.tmp 110) (Operand.tmp 111) 30, type := 4, pos := "law.go:73", after := #[{ on := 0, ground := Ground.data }, { on := 1, ground := Ground.data }], guard := none }) rfl (by kernel_rfl) (by kernel_rfl) (by kernel_rfl) (fun _ _ _ h => h) (yields_value (by kernel_rfl) (x_val_ne (X := VJ) rfl rfl rfl)) (by exact hHeld) ?_
            try simp only [Act.put, List.setIfInBounds_toArray, List.set_cons_zero, List.set_cons_succ]
            refine wpAnyH_take (i := 3) (oi := { dst := some 113, op := Op.move (Operand.tmp 112), type := 4, pos := "law.go:73", after := #[{ on := 2, ground := Ground.data }], guard := none }) (v := ?_) rfl (by kernel_rfl) (by kernel_rfl) (by kernel_rfl) (fun _ _ _ h => h) (Or.inl ⟨by rfl, ?_⟩) (by first | exact hHeld | assumption) ?_
            rotate_left 1
            · intro w hSw; (try dsimp only at hSw); go_simp; try (with_reducible rfl)
            try simp only [Act.put, List.setIfInBounds_toArray, List.set_cons_zero, List.set_cons_succ]
            refine wpAnyH_take (i := 4) (oi := { dst := some 114, op := Op.move (Operand.tmp 17), type := 44, pos := "law.go:73", after := #[{ on := 3, ground := Ground.guard }], guard := some (3, false) }) (v := ?_) rfl (by kernel_rfl) (by kernel_rfl) (by kernel_rfl) (fun _ _ _ h => h) (Or.inl ⟨by rfl, ?_⟩) (by first | exact hHeld | assumption) ?_
            rotate_left 1
            · intro w hSw; (try dsimp only at hSw); go_simp; try (with_reducible rfl)
            try simp only [Act.put, List.setIfInBounds_toArray, List.set_cons_zero, List.set_cons_succ]
            refine wpAnyH_take (i := 5) (oi := { dst := some 115, op := Op.move (Operand.tmp 19), type := 44, pos := "law.go:73", after := #[{ on := 3, ground := Ground.guard }], guard := some (3, false) }) (v := ?_) rfl (by kernel_rfl) (by kernel_rfl) (by kernel_rfl) (fun _ _ _ h => h) (Or.inl ⟨by rfl, ?_⟩) (by first | exact hHeld | assumption) ?_
            rotate_left 1
            · intro w hSw; (try dsimp only at hSw); go_simp; try (with_reducible rfl)
            try simp only [Act.put, List.setIfInBounds_toArray, List.set_cons_zero, List.set_cons_succ]
            refine wpAnyH_take (i := 6) (oi := { dst := some 116, op := Op.binOp BinOp.neq 44 (Operand.tmp 114) (Operand.tmp 115) 44, type := 4, pos := "law.go:73", after := #[{ on := 4, ground := Ground.data }, { on := 5, ground := Ground.data }, { on := 3, ground := Ground.guard }], guard := some (3, false) }) (v := ?_) rfl (by kernel_rfl) (by kernel_rfl) (by kernel_rfl) (fun _ _ _ h => h) (Or.inl ⟨by rfl, ?_⟩) (by first | exact hHeld | assumption) ?_
            rotate_left 1
            · intro w hSw; (try dsimp only at hSw); go_simp; try (with_reducible rfl)
            try simp only [Act.put, List.setIfInBounds_toArray, List.set_cons_zero, List.set_cons_succ]
            refine wpAnyH_take (i := 7) (oi := { dst := some 117, op := Op.pick (Operand.tmp 113) (Operand.const (Value.bool true)) (Operand.tmp 116), type := 4, pos := "law.go:73", after := #[{ on := 3, ground := Ground.data }, { on := 6, ground := Ground.data }], guard := none }) (v := ?_) rfl (by kernel_rfl) (by kernel_rfl) (by kernel_rfl) (fun _ _ _ h => h) (Or.inl ⟨by rfl, ?_⟩) (by first | exact hHeld | assumption) ?_
            rotate_left 1
            · intro w hSw; (try dsimp only at hSw); go_simp; try (with_reducible rfl)
            try simp only [Act.put, List.setIfInBounds_toArray, List.set_cons_zero, List.set_cons_succ]
            refine wpAnyH_take (i := 8) (oi := { dst := some 118, op := Op.move (Operand.tmp 117), type := 4, pos := "law.go:73", after := #[{ on := 7, ground := Ground.data }, { on := 3, ground := Ground.chain }], guard := none }) (v := ?_) rfl (by kernel_rfl) (by kernel_rfl) (by kernel_rfl) (fun _ _ _ h => h) (Or.inl ⟨by rfl, ?_⟩) (by first | exact hHeld | assumption) ?_
            rotate_left 1
            · intro w hSw; (try dsimp only at hSw); go_simp; try (with_reducible rfl)
            try simp only [Act.put, List.setIfInBounds_toArray, List.set_cons_zero, List.set_cons_succ]
            refine wpAnyH_take (i := 9) (oi := { dst := some 119, op := Op.load 36 (Operand.tmp 8), type := 36, pos := "law.go:73", after := #[{ on := 8, ground := Ground.guard }], guard := some (8, false) }) rfl (by kernel_rfl) (by kernel_rfl) (by kernel_rfl) (fun _ _ _ h => h) (st_yield (by kernel_rfl) _ rfl (g := gp) (X := S1) rfl (fun u hu => (hu.get (g := gp) (cs := stC S1) (t := 36) (by simp)))) (by exact hHeld) ?_
            try simp only [Act.put, List.setIfInBounds_toArray, List.set_cons_zero, List.set_cons_succ]
            refine wpAnyH_take (i := 10) (oi := { dst := some 120, op := Op.fieldAddr 43 (Operand.tmp 11) 1, type := 0, pos := "law.go:73", after := #[{ on := 8, ground := Ground.guard }], guard := some (8, false) }) (v := ?_) rfl (by kernel_rfl) (by kernel_rfl) (by kernel_rfl) (fun _ _ _ h => h) (Or.inl ⟨by rfl, ?_⟩) (by first | exact hHeld | assumption) ?_
            rotate_left 1
            · intro w hSw; (try dsimp only at hSw); go_simp; try (with_reducible rfl)
            try simp only [Act.put, List.setIfInBounds_toArray, List.set_cons_zero, List.set_cons_succ]
            refine wpAnyH_take (i := 11) (oi := { dst := some 121, op := Op.load 3 (Operand.tmp 120), type := 3, pos := "law.go:73", after := #[{ on := 10, ground := Ground.data }, { on := 8, ground := Ground.guard }], guard := some (8, false) }) rfl (by kernel_rfl) (by kernel_rfl) (by kernel_rfl) (fun _ _ _ h => h) (int_yield (by kernel_rfl) _ rfl (g := ga) (o := 1) (v := .int .i64 a.o) rfl (fun u hu => (saB_cells (hu.get (g := ga) (cs := saC a) (t := 43) (by simp))).2.1)) (by exact hHeld) ?_
            try simp only [Act.put, List.setIfInBounds_toArray, List.set_cons_zero, List.set_cons_succ]
            refine wpAnyH_take (i := 12) (oi := { dst := some 122, op := Op.fieldAddr 43 (Operand.tmp 11) 2, type := 0, pos := "law.go:73", after := #[{ on := 8, ground := Ground.guard }], guard := some (8, false) }) (v := ?_) rfl (by kernel_rfl) (by kernel_rfl) (by kernel_rfl) (fun _ _ _ h => h) (Or.inl ⟨by rfl, ?_⟩) (by first | exact hHeld | assumption) ?_
            rotate_left 1
            · intro w hSw; (try dsimp only at hSw); go_simp; try (with_reducible rfl)
            try simp only [Act.put, List.setIfInBounds_toArray, List.set_cons_zero, List.set_cons_succ]
            refine wpAnyH_take (i := 13) (oi := { dst := some 123, op := Op.load 3 (Operand.tmp 122), type := 3, pos := "law.go:73", after := #[{ on := 12, ground := Ground.data }, { on := 8, ground := Ground.guard }], guard := some (8, false) }) rfl (by kernel_rfl) (by kernel_rfl) (by kernel_rfl) (fun _ _ _ h => h) (int_yield (by kernel_rfl) _ rfl (g := ga) (o := 2) (v := .int .i64 a.z) rfl (fun u hu => (saB_cells (hu.get (g := ga) (cs := saC a) (t := 43) (by simp))).2.2.1)) (by exact hHeld) ?_
            try simp only [Act.put, List.setIfInBounds_toArray, List.set_cons_zero, List.set_cons_succ]
            refine wpAnyH_take (i := 15) (oi := { dst := some 125, op := Op.load 36 (Operand.tmp 9), type := 36, pos := "law.go:73", after := #[{ on := 8, ground := Ground.guard }], guard := some (8, false) }) rfl (by kernel_rfl) (by kernel_rfl) (by kernel_rfl) (fun _ _ _ h => h) (st_yield (by kernel_rfl) _ rfl (g := gr) (X := S1) rfl (fun u hu => (hu.get (g := gr) (cs := stC S1) (t := 36) (by simp)))) (by exact hHeld) ?_
            try simp only [Act.put, List.setIfInBounds_toArray, List.set_cons_zero, List.set_cons_succ]
            refine wpAnyH_take (i := 16) (oi := { dst := some 126, op := Op.fieldAddr 43 (Operand.tmp 11) 1, type := 0, pos := "law.go:73", after := #[{ on := 8, ground := Ground.guard }], guard := some (8, false) }) (v := ?_) rfl (by kernel_rfl) (by kernel_rfl) (by kernel_rfl) (fun _ _ _ h => h) (Or.inl ⟨by rfl, ?_⟩) (by first | exact hHeld | assumption) ?_
            rotate_left 1
            · intro w hSw; (try dsimp only at hSw); go_simp; try (with_reducible rfl)
            try simp only [Act.put, List.setIfInBounds_toArray, List.set_cons_zero, List.set_cons_succ]
            refine wpAnyH_take (i := 17) (oi := { dst := some 127, op := Op.load 3 (Operand.tmp 126), type := 3, pos := "law.go:73", after := #[{ on := 16, ground := Ground.data }, { on := 8, ground := Ground.guard }], guard := some (8, false) }) rfl (by kernel_rfl) (by kernel_rfl) (by kernel_rfl) (fun _ _ _ h => h) (int_yield (by kernel_rfl) _ rfl (g := ga) (o := 1) (v := .int .i64 a.o) rfl (fun u hu => (saB_cells (hu.get (g := ga) (cs := saC a) (t := 43) (by simp))).2.1)) (by exact hHeld) ?_
            try simp only [Act.put, List.setIfInBounds_toArray, List.set_cons_zero, List.set_cons_succ]
            refine wpAnyH_take (i := 18) (oi := { dst := some 128, op := Op.fieldAddr 43 (Operand.tmp 11) 2, type := 0, pos := "law.go:73", after := #[{ on := 8, ground := Ground.guard }], guard := some (8, false) }) (v := ?_) rfl (by kernel_rfl) (by kernel_rfl) (by kernel_rfl) (fun _ _ _ h => h) (Or.inl ⟨by rfl, ?_⟩) (by first | exact hHeld | assumption) ?_
            rotate_left 1
            · intro w hSw; (try dsimp only at hSw); go_simp; try (with_reducible rfl)
            try simp only [Act.put, List.setIfInBounds_toArray, List.set_cons_zero, List.set_cons_succ]
            refine wpAnyH_take (i := 19) (oi := { dst := some 129, op := Op.load 3 (Operand.tmp 128), type := 3, pos := "law.go:73", after := #[{ on := 18, ground := Ground.data }, { on := 8, ground := Ground.guard }], guard := some (8, false) }) rfl (by kernel_rfl) (by kernel_rfl) (by kernel_rfl) (fun _ _ _ h => h) (int_yield (by kernel_rfl) _ rfl (g := ga) (o := 2) (v := .int .i64 a.z) rfl (fun u hu => (saB_cells (hu.get (g := ga) (cs := saC a) (t := 43) (by simp))).2.2.1)) (by exact hHeld) ?_
            try simp only [Act.put, List.setIfInBounds_toArray, List.set_cons_zero, List.set_cons_succ]
            refine wpAnyH_ready (rs := [14]) (by kernel_rfl) (by simp) ?_
            refine AllReadyH.cons (o := { dst := some 124, op := Op.call { callee := Callee.value (Operand.func 23), args := #[Operand.tmp 119, Operand.tmp 121, Operand.tmp 123], argTypes := #[36, 3, 3] }, type := 4, pos := "law.go:73", after := #[{ on := 9, ground := Ground.data }, { on := 11, ground := Ground.data }, { on := 13, ground := Ground.data }, { on := 8, ground := Ground.chain }, { on := 8, ground := Ground.guard }], guard := some (8, false) }) rfl (fun K hK => ?_) AllReadyH.nil
            go_simp
            refine (FJ.out _).mono ?_; rintro e u1 ⟨rfl, b1⟩
            replace Y := Lib.hid (Y.out.after b1)
            clear b1
            go_wp2_with fail
            refine hK.out _ _ Y.out (fun hHeld => ?_)
            clear hK K
            try simp only [Act.put, List.setIfInBounds_toArray, List.set_cons_zero, List.set_cons_succ]
            refine wpAnyH_ready (rs := [20]) (by kernel_rfl) (by simp) ?_
            refine AllReadyH.cons (o := { dst := some 130, op := Op.call { callee := Callee.value (Operand.func 24), args := #[Operand.tmp 125, Operand.tmp 127, Operand.tmp 129], argTypes := #[36, 3, 3] }, type := 4, pos := "law.go:73", after := #[{ on := 15, ground := Ground.data }, { on := 17, ground := Ground.data }, { on := 19, ground := Ground.data }, { on := 14, ground := Ground.chain }, { on := 8, ground := Ground.guard }], guard := some (8, false) }) rfl (fun K hK => ?_) AllReadyH.nil
            go_simp
            refine (RFJ.out _).mono ?_; rintro e u1 ⟨rfl, b1⟩
            replace Y := Lib.hid (Y.out.after b1)
            clear b1
            go_wp2_with fail
            refine hK.out _ _ Y.out (fun hHeld => ?_)
            clear hK K
            try simp only [Act.put, List.setIfInBounds_toArray, List.set_cons_zero, List.set_cons_succ]
            refine wpAnyH_take (i := 21) (oi := { dst := some 131, op := Op.binOp BinOp.neq 4 (Operand.tmp 124) (Operand.tmp 130) 4, type := 4, pos := "law.go:73", after := #[{ on := 14, ground := Ground.data }, { on := 20, ground := Ground.data }, { on := 8, ground := Ground.guard }], guard := some (8, false) }) (v := ?_) rfl (by kernel_rfl) (by kernel_rfl) (by kernel_rfl) (fun _ _ _ h => h) (Or.inl ⟨by rfl, ?_⟩) (by first | exact hHeld | assumption) ?_
            rotate_left 1
            · intro w hSw; (try dsimp only at hSw); go_simp; try (with_reducible rfl)
            try simp only [Act.put, List.setIfInBounds_toArray, List.set_cons_zero, List.set_cons_succ]
            refine wpAnyH_take (i := 22) (oi := { dst := some 132, op := Op.pick (Operand.tmp 118) (Operand.const (Value.bool true)) (Operand.tmp 131), type := 4, pos := "law.go:73", after := #[{ on := 8, ground := Ground.data }, { on := 21, ground := Ground.data }], guard := none }) (v := ?_) rfl (by kernel_rfl) (by kernel_rfl) (by kernel_rfl) (fun _ _ _ h => h) (Or.inl ⟨by rfl, ?_⟩) (by first | exact hHeld | assumption) ?_
            rotate_left 1
            · intro w hSw; (try dsimp only at hSw); go_simp; try (with_reducible rfl)
            try simp only [Act.put, List.setIfInBounds_toArray, List.set_cons_zero, List.set_cons_succ]
            refine wpAnyH_done (by kernel_rfl) ?_ _
            have X12 : Hid (Blks w [(gr, stC (saF l (j + 1)), 36), (gp, stC (saF l (j + 1)), 36)] _) := Lib.hid (by
              rw [hS1.out]
              exact Y.out.pick (by simp))
            go_wp2_with fail
            go_round
            case rel => exact ⟨j + 1, by go_num, by omega, by omega, X12⟩
            case measure => simp [intOf]; omega
          · skip
            have e0 : E1 = 0 := by simpa using hE
            have eS : Hid (S1 = T1) := Lib.hid (by rw [Q1.out (by rw [(P2.out (by trivial)).1]; exact e0), (P2.out (by trivial)).2])
            clear e0
            go_upto_region 16 with fail
            replace X := Lib.hid (X.out.after (Below.drew (Below.refl _ _)))
            refine wp_region_held_drew (S := (fun u => stB gt T1 u ∧ stB gu T1 u)) (by kernel_rfl) ⟨(X.out.get (g := gt) (cs := stC T1) (t := 36) (by simp)), (X.out.get (g := gu) (cs := stC T1) (t := 36) (by simp))⟩ (fun hHeld => ?_)
            generalize w7.drew = wd at *
            refine wpAnyH_take (i := 0) (oi := { dst := some 90, op := Op.load 36 (Operand.tmp 12), type := 36, pos := "law.go:69", after := #[], guard := none }) rfl (by kernel_rfl) (by kernel_rfl) (by kernel_rfl) (fun _ _ _ h => h) (st_yield (by kernel_rfl) _ rfl (g := gt) (X := T1) rfl (fun u hu => hu.1)) (by exact hHeld) ?_
            try simp only [Act.put, List.setIfInBounds_toArray, List.set_cons_zero, List.set_cons_succ]
            refine wpAnyH_take (i := 1) (oi := { dst := some 91, op := Op.load 36 (Operand.tmp 14), type := 36, pos := "law.go:69", after := #[{ on := 2, ground := Ground.gcOnly Departure.lateStores }], guard := none }) rfl (by kernel_rfl) (by kernel_rfl) (by kernel_rfl) (fun _ _ _ h => h) (st_yield (by kernel_rfl) _ rfl (g := gu) (X := T1) rfl (fun u hu => hu.2)) (by exact hHeld) ?_
            try simp only [Act.put, List.setIfInBounds_toArray, List.set_cons_zero, List.set_cons_succ]
            refine wpAnyH_ready (rs := [2]) (by kernel_rfl) (by simp) ?_
            refine AllReadyH.cons (o := { dst := none, op := Op.store 36 (Operand.tmp 8) (Operand.tmp 90), type := 0, pos := "law.go:69", after := #[{ on := 0, ground := Ground.data }, { on := 0, ground := Ground.phase }, { on := 1, ground := Ground.textOnly Departure.lateStores }], guard := none }) rfl (fun K hK => ?_) AllReadyH.nil
            · skip
              refine st_store_op (g := gp) (X := S0) (Y := T1) _ _ rfl rfl rfl (X.out.get (g := gp) (cs := stC S0) (t := 36) (by simp)) ?_
              replace X := Lib.hid ((X.out.pick (l' := [(gp, stC S0, 36), (gu, stC T1, 36), (gt, stC T1, 36), (ga, saC a, 43), (gr, stC S0, 36)]) (by simp)).row (by have := hgp.out; have := hgr.out; have := hga.out; have := hgt.out; have := hgu.out; omega) (by have := hgp.out; have := hgr.out; have := hga.out; have := hgt.out; have := hgu.out; simp <;> omega) (stC T1))
              refine hK.out _ _ ⟨(X.out.get (g := gt) (cs := stC T1) (t := 36) (by simp)), (X.out.get (g := gu) (cs := stC T1) (t := 36) (by simp))⟩ (fun hHeld => ?_)
              clear hK K
              try simp only [Act.put, List.setIfInBounds_toArray, List.set_cons_zero, List.set_cons_succ]
              refine wpAnyH_ready (rs := [3]) (by kernel_rfl) (by simp) ?_
              refine AllReadyH.cons (o := { dst := none, op := Op.store 36 (Operand.tmp 9) (Operand.tmp 91), type := 0, pos := "law.go:69", after := #[{ on := 1, ground := Ground.data }, { on := 2, ground := Ground.chain }, { on := 0, ground := Ground.phase }, { on := 1, ground := Ground.phase }, { on := 2, ground := Ground.phase }], guard := none }) rfl (fun K hK => ?_) AllReadyH.nil
              · skip
                refine st_store_op (g := gr) (X := S0) (Y := T1) _ _ rfl rfl rfl (X.out.get (g := gr) (cs := stC S0) (t := 36) (by simp)) ?_
                replace X := Lib.hid ((X.out.pick (l' := [(gr, stC S0, 36), (gp, stC T1, 36), (gu, stC T1, 36), (gt, stC T1, 36), (ga, saC a, 43)]) (by simp)).row (by have := hgp.out; have := hgr.out; have := hga.out; have := hgt.out; have := hgu.out; omega) (by have := hgp.out; have := hgr.out; have := hga.out; have := hgt.out; have := hgu.out; simp <;> omega) (stC T1))
                refine hK.out _ _ ⟨(X.out.get (g := gt) (cs := stC T1) (t := 36) (by simp)), (X.out.get (g := gu) (cs := stC T1) (t := 36) (by simp))⟩ (fun hHeld => ?_)
                clear hK K
                try simp only [Act.put, List.setIfInBounds_toArray, List.set_cons_zero, List.set_cons_succ]
                refine wpAnyH_done (by kernel_rfl) ?_ _
                clear hHeld
                generalize (wd.setRow gp (stC T1)).setRow gr (stC T1) = wy at *
                have Y : Hid (Blks w [(ga, saC a, 43), (gr, stC S1, 36), (gp, stC S1, 36)] wy) := Lib.hid (by rw [eS.out]; exact X.out.pick (by simp))
                clear eS X
                go_upto_region 17 with fail
                have LS : Hid (stB gp S1 wy) := Lib.hid (Y.out.get (g := gp) (cs := stC S1) (t := 36) (by simp))
                obtain ⟨c0, c1, c2, c3, c4, c5, c6, c7, c8, c9⟩ := saB_cells (Y.out.get (g := ga) (cs := saC a) (t := 43) (by simp))
                go_wp2_with (first | (refine st_load rfl _ rfl rfl LS.out ?_) | fail)
                refine (GJ.out _).mono ?_; rintro e w8 ⟨rfl, b8⟩
                replace Y := Lib.hid ((Y.out.after b8).new (vCells VJ) 30)
                clear b8 LS GJ c0 c1 c2 c3 c4 c5 c6 c7 c8 c9
                go_upto_region 18 with fail
                generalize w8.alloc (.cells (vCells VJ) 30) = wz at *
                generalize w8.heap.size = gv at *
                have LS : Hid (stB gr S1 wz) := Lib.hid (Y.out.get (g := gr) (cs := stC S1) (t := 36) (by simp))
                obtain ⟨c0, c1, c2, c3, c4, c5, c6, c7, c8, c9⟩ := saB_cells (Y.out.get (g := ga) (cs := saC a) (t := 43) (by simp))
                go_wp2_with (first | (refine st_load rfl _ rfl rfl LS.out ?_) | fail)
                refine (RJ.out _).mono ?_; rintro e w9 ⟨rfl, b9⟩
                replace Y := Lib.hid ((Y.out.after b9).new (vCells VJ) 30)
                clear b9 LS RJ c0 c1 c2 c3 c4 c5 c6 c7 c8 c9
                go_upto_region 19 with fail
                generalize w9.alloc (.cells (vCells VJ) 30) = wz at *
                generalize w9.heap.size = gx at *
                replace Y := Lib.hid (Y.out.after (Below.drew (Below.refl _ _)))
                refine wp_region_held_drew (S := (fun u => Blks w [(gx, vCells VJ, 30), (gv, vCells VJ, 30), (ga, saC a, 43), (gr, stC S1, 36), (gp, stC S1, 36)] u)) (by kernel_rfl) Y.out (fun hHeld => ?_)
                generalize wz.drew = wd at *
                refine wpAnyH_take (i := 0) (oi := { dst := some 110, op := Op.load 30 (Operand.tmp 16), type := 30, pos := "law.go:73", after := #[], guard := none }) rfl (by kernel_rfl) (by kernel_rfl) (by kernel_rfl) (fun _ _ _ h => h) (vl_yield (by kernel_rfl) _ rfl (g := gv) (v := VJ) rfl (fun u hu => vBlk_range (hu.get (g := gv) (cs := vCells VJ) (t := 30) (by simp)))) (by exact hHeld) ?_
                try simp only [Act.put, List.setIfInBounds_toArray, List.set_cons_zero, List.set_cons_succ]
                refine wpAnyH_take (i := 1) (oi := { dst := some 111, op := Op.load 30 (Operand.tmp 18), type := 30, pos := "law.go:73", after := #[], guard := none }) rfl (by kernel_rfl) (by kernel_rfl) (by kernel_rfl) (fun _ _ _ h => h) (vl_yield (by kernel_rfl) _ rfl (g := gx) (v := VJ) rfl (fun u hu => vBlk_range (hu.get (g := gx) (cs := vCells VJ) (t := 30) (by simp)))) (by exact hHeld) ?_
                try simp only [Act.put, List.setIfInBounds_toArray, List.set_cons_zero, List.set_cons_succ]
                refine wpAnyH_take (i := 2) (oi := { dst := some 112, op := Op.binOp BinOp.neq 30 (Operand.tmp 110) (Operand.tmp 111) 30, type := 4, pos := "law.go:73", after := #[{ on := 0, ground := Ground.data }, { on := 1, ground := Ground.data }], guard := none }) rfl (by kernel_rfl) (by kernel_rfl) (by kernel_rfl) (fun _ _ _ h => h) (yields_value (by kernel_rfl) (x_val_ne (X := VJ) rfl rfl rfl)) (by exact hHeld) ?_
                try simp only [Act.put, List.setIfInBounds_toArray, List.set_cons_zero, List.set_cons_succ]
                refine wpAnyH_take (i := 3) (oi := { dst := some 113, op := Op.move (Operand.tmp 112), type := 4, pos := "law.go:73", after := #[{ on := 2, ground := Ground.data }], guard := none }) (v := ?_) rfl (by kernel_rfl) (by kernel_rfl) (by kernel_rfl) (fun _ _ _ h => h) (Or.inl ⟨by rfl, ?_⟩) (by first | exact hHeld | assumption) ?_
                rotate_left 1
                · intro w hSw; (try dsimp only at hSw); go_simp; try (with_reducible rfl)
                try simp only [Act.put, List.setIfInBounds_toArray, List.set_cons_zero, List.set_cons_succ]
                refine wpAnyH_take (i := 4) (oi := { dst := some 114, op := Op.move (Operand.tmp 17), type := 44, pos := "law.go:73", after := #[{ on := 3, ground := Ground.guard }], guard := some (3, false) }) (v := ?_) rfl (by kernel_rfl) (by kernel_rfl) (by kernel_rfl) (fun _ _ _ h => h) (Or.inl ⟨by rfl, ?_⟩) (by first | exact hHeld | assumption) ?_
                rotate_left 1
                · intro w hSw; (try dsimp only at hSw); go_simp; try (with_reducible rfl)
                try simp only [Act.put, List.setIfInBounds_toArray, List.set_cons_zero, List.set_cons_succ]
                refine wpAnyH_take (i := 5) (oi := { dst := some 115, op := Op.move (Operand.tmp 19), type := 44, pos := "law.go:73", after := #[{ on := 3, ground := Ground.guard }], guard := some (3, false) }) (v := ?_) rfl (by kernel_rfl) (by kernel_rfl) (by kernel_rfl) (fun _ _ _ h => h) (Or.inl ⟨by rfl, ?_⟩) (by first | exact hHeld | assumption) ?_
                rotate_left 1
                · intro w hSw; (try dsimp only at hSw); go_simp; try (with_reducible rfl)
                try simp only [Act.put, List.setIfInBounds_toArray, List.set_cons_zero, List.set_cons_succ]
                refine wpAnyH_take (i := 6) (oi := { dst := some 116, op := Op.binOp BinOp.neq 44 (Operand.tmp 114) (Operand.tmp 115) 44, type := 4, pos := "law.go:73", after := #[{ on := 4, ground := Ground.data }, { on := 5, ground := Ground.data }, { on := 3, ground := Ground.guard }], guard := some (3, false) }) (v := ?_) rfl (by kernel_rfl) (by kernel_rfl) (by kernel_rfl) (fun _ _ _ h => h) (Or.inl ⟨by rfl, ?_⟩) (by first | exact hHeld | assumption) ?_
                rotate_left 1
                · intro w hSw; (try dsimp only at hSw); go_simp; try (with_reducible rfl)
                try simp only [Act.put, List.setIfInBounds_toArray, List.set_cons_zero, List.set_cons_succ]
                refine wpAnyH_take (i := 7) (oi := { dst := some 117, op := Op.pick (Operand.tmp 113) (Operand.const (Value.bool true)) (Operand.tmp 116), type := 4, pos := "law.go:73", after := #[{ on := 3, ground := Ground.data }, { on := 6, ground := Ground.data }], guard := none }) (v := ?_) rfl (by kernel_rfl) (by kernel_rfl) (by kernel_rfl) (fun _ _ _ h => h) (Or.inl ⟨by rfl, ?_⟩) (by first | exact hHeld | assumption) ?_
                rotate_left 1
                · intro w hSw; (try dsimp only at hSw); go_simp; try (with_reducible rfl)
                try simp only [Act.put, List.setIfInBounds_toArray, List.set_cons_zero, List.set_cons_succ]
                refine wpAnyH_take (i := 8) (oi := { dst := some 118, op := Op.move (Operand.tmp 117), type := 4, pos := "law.go:73", after := #[{ on := 7, ground := Ground.data }, { on := 3, ground := Ground.chain }], guard := none }) (v := ?_) rfl (by kernel_rfl) (by kernel_rfl) (by kernel_rfl) (fun _ _ _ h => h) (Or.inl ⟨by rfl, ?_⟩) (by first | exact hHeld | assumption) ?_
                rotate_left 1
                · intro w hSw; (try dsimp only at hSw); go_simp; try (with_reducible rfl)
                try simp only [Act.put, List.setIfInBounds_toArray, List.set_cons_zero, List.set_cons_succ]
                refine wpAnyH_take (i := 9) (oi := { dst := some 119, op := Op.load 36 (Operand.tmp 8), type := 36, pos := "law.go:73", after := #[{ on := 8, ground := Ground.guard }], guard := some (8, false) }) rfl (by kernel_rfl) (by kernel_rfl) (by kernel_rfl) (fun _ _ _ h => h) (st_yield (by kernel_rfl) _ rfl (g := gp) (X := S1) rfl (fun u hu => (hu.get (g := gp) (cs := stC S1) (t := 36) (by simp)))) (by exact hHeld) ?_
                try simp only [Act.put, List.setIfInBounds_toArray, List.set_cons_zero, List.set_cons_succ]
                refine wpAnyH_take (i := 10) (oi := { dst := some 120, op := Op.fieldAddr 43 (Operand.tmp 11) 1, type := 0, pos := "law.go:73", after := #[{ on := 8, ground := Ground.guard }], guard := some (8, false) }) (v := ?_) rfl (by kernel_rfl) (by kernel_rfl) (by kernel_rfl) (fun _ _ _ h => h) (Or.inl ⟨by rfl, ?_⟩) (by first | exact hHeld | assumption) ?_
                rotate_left 1
                · intro w hSw; (try dsimp only at hSw); go_simp; try (with_reducible rfl)
                try simp only [Act.put, List.setIfInBounds_toArray, List.set_cons_zero, List.set_cons_succ]
                refine wpAnyH_take (i := 11) (oi := { dst := some 121, op := Op.load 3 (Operand.tmp 120), type := 3, pos := "law.go:73", after := #[{ on := 10, ground := Ground.data }, { on := 8, ground := Ground.guard }], guard := some (8, false) }) rfl (by kernel_rfl) (by kernel_rfl) (by kernel_rfl) (fun _ _ _ h => h) (int_yield (by kernel_rfl) _ rfl (g := ga) (o := 1) (v := .int .i64 a.o) rfl (fun u hu => (saB_cells (hu.get (g := ga) (cs := saC a) (t := 43) (by simp))).2.1)) (by exact hHeld) ?_
                try simp only [Act.put, List.setIfInBounds_toArray, List.set_cons_zero, List.set_cons_succ]
                refine wpAnyH_take (i := 12) (oi := { dst := some 122, op := Op.fieldAddr 43 (Operand.tmp 11) 2, type := 0, pos := "law.go:73", after := #[{ on := 8, ground := Ground.guard }], guard := some (8, false) }) (v := ?_) rfl (by kernel_rfl) (by kernel_rfl) (by kernel_rfl) (fun _ _ _ h => h) (Or.inl ⟨by rfl, ?_⟩) (by first | exact hHeld | assumption) ?_
                rotate_left 1
                · intro w hSw; (try dsimp only at hSw); go_simp; try (with_reducible rfl)
                try simp only [Act.put, List.setIfInBounds_toArray, List.set_cons_zero, List.set_cons_succ]
                refine wpAnyH_take (i := 13) (oi := { dst := some 123, op := Op.load 3 (Operand.tmp 122), type := 3, pos := "law.go:73", after := #[{ on := 12, ground := Ground.data }, { on := 8, ground := Ground.guard }], guard := some (8, false) }) rfl (by kernel_rfl) (by kernel_rfl) (by kernel_rfl) (fun _ _ _ h => h) (int_yield (by kernel_rfl) _ rfl (g := ga) (o := 2) (v := .int .i64 a.z) rfl (fun u hu => (saB_cells (hu.get (g := ga) (cs := saC a) (t := 43) (by simp))).2.2.1)) (by exact hHeld) ?_
                try simp only [Act.put, List.setIfInBounds_toArray, List.set_cons_zero, List.set_cons_succ]
                refine wpAnyH_take (i := 15) (oi := { dst := some 125, op := Op.load 36 (Operand.tmp 9), type := 36, pos := "law.go:73", after := #[{ on := 8, ground := Ground.guard }], guard := some (8, false) }) rfl (by kernel_rfl) (by kernel_rfl) (by kernel_rfl) (fun _ _ _ h => h) (st_yield (by kernel_rfl) _ rfl (g := gr) (X := S1) rfl (fun u hu => (hu.get (g := gr) (cs := stC S1) (t := 36) (by simp)))) (by exact hHeld) ?_
                try simp only [Act.put, List.setIfInBounds_toArray, List.set_cons_zero, List.set_cons_succ]
                refine wpAnyH_take (i := 16) (oi := { dst := some 126, op := Op.fieldAddr 43 (Operand.tmp 11) 1, type := 0, pos := "law.go:73", after := #[{ on := 8, ground := Ground.guard }], guard := some (8, false) }) (v := ?_) rfl (by kernel_rfl) (by kernel_rfl) (by kernel_rfl) (fun _ _ _ h => h) (Or.inl ⟨by rfl, ?_⟩) (by first | exact hHeld | assumption) ?_
                rotate_left 1
                · intro w hSw; (try dsimp only at hSw); go_simp; try (with_reducible rfl)
                try simp only [Act.put, List.setIfInBounds_toArray, List.set_cons_zero, List.set_cons_succ]
                refine wpAnyH_take (i := 17) (oi := { dst := some 127, op := Op.load 3 (Operand.tmp 126), type := 3, pos := "law.go:73", after := #[{ on := 16, ground := Ground.data }, { on := 8, ground := Ground.guard }], guard := some (8, false) }) rfl (by kernel_rfl) (by kernel_rfl) (by kernel_rfl) (fun _ _ _ h => h) (int_yield (by kernel_rfl) _ rfl (g := ga) (o := 1) (v := .int .i64 a.o) rfl (fun u hu => (saB_cells (hu.get (g := ga) (cs := saC a) (t := 43) (by simp))).2.1)) (by exact hHeld) ?_
                try simp only [Act.put, List.setIfInBounds_toArray, List.set_cons_zero, List.set_cons_succ]
                refine wpAnyH_take (i := 18) (oi := { dst := some 128, op := Op.fieldAddr 43 (Operand.tmp 11) 2, type := 0, pos := "law.go:73", after := #[{ on := 8, ground := Ground.guard }], guard := some (8, false) }) (v := ?_) rfl (by kernel_rfl) (by kernel_rfl) (by kernel_rfl) (fun _ _ _ h => h) (Or.inl ⟨by rfl, ?_⟩) (by first | exact hHeld | assumption) ?_
                rotate_left 1
                · intro w hSw; (try dsimp only at hSw); go_simp; try (with_reducible rfl)
                try simp only [Act.put, List.setIfInBounds_toArray, List.set_cons_zero, List.set_cons_succ]
                refine wpAnyH_take (i := 19) (oi := { dst := some 129, op := Op.load 3 (Operand.tmp 128), type := 3, pos := "law.go:73", after := #[{ on := 18, ground := Ground.data }, { on := 8, ground := Ground.guard }], guard := some (8, false) }) rfl (by kernel_rfl) (by kernel_rfl) (by kernel_rfl) (fun _ _ _ h => h) (int_yield (by kernel_rfl) _ rfl (g := ga) (o := 2) (v := .int .i64 a.z) rfl (fun u hu => (saB_cells (hu.get (g := ga) (cs := saC a) (t := 43) (by simp))).2.2.1)) (by exact hHeld) ?_
                try simp only [Act.put, List.setIfInBounds_toArray, List.set_cons_zero, List.set_cons_succ]
                refine wpAnyH_ready (rs := [14]) (by kernel_rfl) (by simp) ?_
                refine AllReadyH.cons (o := { dst := some 124, op := Op.call { callee := Callee.value (Operand.func 23), args := #[Operand.tmp 119, Operand.tmp 121, Operand.tmp 123], argTypes := #[36, 3, 3] }, type := 4, pos := "law.go:73", after := #[{ on := 9, ground := Ground.data }, { on := 11, ground := Ground.data }, { on := 13, ground := Ground.data }, { on := 8, ground := Ground.chain }, { on := 8, ground := Ground.guard }], guard := some (8, false) }) rfl (fun K hK => ?_) AllReadyH.nil
                go_simp
                refine (FJ.out _).mono ?_; rintro e u1 ⟨rfl, b1⟩
                replace Y := Lib.hid (Y.out.after b1)
                clear b1
                go_wp2_with fail
                refine hK.out _ _ Y.out (fun hHeld => ?_)
                clear hK K
                try simp only [Act.put, List.setIfInBounds_toArray, List.set_cons_zero, List.set_cons_succ]
                refine wpAnyH_ready (rs := [20]) (by kernel_rfl) (by simp) ?_
                refine AllReadyH.cons (o := { dst := some 130, op := Op.call { callee := Callee.value (Operand.func 24), args := #[Operand.tmp 125, Operand.tmp 127, Operand.tmp 129], argTypes := #[36, 3, 3] }, type := 4, pos := "law.go:73", after := #[{ on := 15, ground := Ground.data }, { on := 17, ground := Ground.data }, { on := 19, ground := Ground.data }, { on := 14, ground := Ground.chain }, { on := 8, ground := Ground.guard }], guard := some (8, false) }) rfl (fun K hK => ?_) AllReadyH.nil
                go_simp
                refine (RFJ.out _).mono ?_; rintro e u1 ⟨rfl, b1⟩
                replace Y := Lib.hid (Y.out.after b1)
                clear b1
                go_wp2_with fail
                refine hK.out _ _ Y.out (fun hHeld => ?_)
                clear hK K
                try simp only [Act.put, List.setIfInBounds_toArray, List.set_cons_zero, List.set_cons_succ]
                refine wpAnyH_take (i := 21) (oi := { dst := some 131, op := Op.binOp BinOp.neq 4 (Operand.tmp 124) (Operand.tmp 130) 4, type := 4, pos := "law.go:73", after := #[{ on := 14, ground := Ground.data }, { on := 20, ground := Ground.data }, { on := 8, ground := Ground.guard }], guard := some (8, false) }) (v := ?_) rfl (by kernel_rfl) (by kernel_rfl) (by kernel_rfl) (fun _ _ _ h => h) (Or.inl ⟨by rfl, ?_⟩) (by first | exact hHeld | assumption) ?_
                rotate_left 1
                · intro w hSw; (try dsimp only at hSw); go_simp; try (with_reducible rfl)
                try simp only [Act.put, List.setIfInBounds_toArray, List.set_cons_zero, List.set_cons_succ]
                refine wpAnyH_take (i := 22) (oi := { dst := some 132, op := Op.pick (Operand.tmp 118) (Operand.const (Value.bool true)) (Operand.tmp 131), type := 4, pos := "law.go:73", after := #[{ on := 8, ground := Ground.data }, { on := 21, ground := Ground.data }], guard := none }) (v := ?_) rfl (by kernel_rfl) (by kernel_rfl) (by kernel_rfl) (fun _ _ _ h => h) (Or.inl ⟨by rfl, ?_⟩) (by first | exact hHeld | assumption) ?_
                rotate_left 1
                · intro w hSw; (try dsimp only at hSw); go_simp; try (with_reducible rfl)
                try simp only [Act.put, List.setIfInBounds_toArray, List.set_cons_zero, List.set_cons_succ]
                refine wpAnyH_done (by kernel_rfl) ?_ _
                have X12 : Hid (Blks w [(gr, stC (saF l (j + 1)), 36), (gp, stC (saF l (j + 1)), 36)] _) := Lib.hid (by
                  rw [hS1.out]
                  exact Y.out.pick (by simp))
                go_wp2_with fail
                go_round
                case rel => exact ⟨j + 1, by go_num, by omega, by omega, X12⟩
                case measure => simp [intOf]; omega
        · skip
          clear P2
          have LS : Hid (stB gp S0 w7) := Lib.hid (X.out.get (g := gp) (cs := stC S0) (t := 36) (by simp))
          go_wp2_with (first | (refine st_load rfl _ rfl rfl LS.out ?_) | fail)
          refine (SE.out _).mono ?_; rintro e v1 ⟨rfl, b1⟩
          replace X := Lib.hid (X.out.after b1)
          clear b1 LS SE c0 c1 c2 c3 c4 c5 c6 c7 c8 c9
          have LT : Hid (stB gt T1 v1) := Lib.hid (X.out.get (g := gt) (cs := stC T1) (t := 36) (by simp))
          replace X := Lib.hid ((X.out.pick (l' := [(gt, stC T1, 36), (gu, stC T1, 36), (ga, saC a, 43), (gr, stC S0, 36), (gp, stC S0, 36)]) (by simp)).row (by have := hgp.out; have := hgr.out; have := hga.out; have := hgt.out; have := hgu.out; omega) (by have := hgp.out; have := hgr.out; have := hga.out; have := hgt.out; have := hgu.out; simp <;> omega) (stC T2))
          go_upto_region 12 with (refine st_store rfl _ _ rfl rfl rfl LT.out ?_)
          clear LT
          generalize v1.setRow gt (stC T2) = v2 at *
          have LS : Hid (stB gr S0 v2) := Lib.hid (X.out.get (g := gr) (cs := stC S0) (t := 36) (by simp))
          obtain ⟨c0, c1, c2, c3, c4, c5, c6, c7, c8, c9⟩ := saB_cells (X.out.get (g := ga) (cs := saC a) (t := 43) (by simp))
          go_wp2_with (first | (refine st_load rfl _ rfl rfl LS.out ?_) | fail)
          refine (RS.out _).mono ?_; rintro e v3 ⟨rfl, b3⟩
          replace X := Lib.hid (X.out.after b3)
          clear b3 LS RS c0 c1 c2 c3 c4 c5 c6 c7 c8 c9
          have LT : Hid (stB gu T1 v3) := Lib.hid (X.out.get (g := gu) (cs := stC T1) (t := 36) (by simp))
          replace X := Lib.hid ((X.out.pick (l' := [(gu, stC T1, 36), (gt, stC T2, 36), (ga, saC a, 43), (gr, stC S0, 36), (gp, stC S0, 36)]) (by simp)).row (by have := hgp.out; have := hgr.out; have := hga.out; have := hgt.out; have := hgu.out; omega) (by have := hgp.out; have := hgr.out; have := hga.out; have := hgt.out; have := hgu.out; simp <;> omega) (stC T2))
          go_upto_region 13 with (refine st_store rfl _ _ rfl rfl rfl LT.out ?_)
          clear LT
          generalize v3.setRow gu (stC T2) = v4 at *
          have LT : Hid (stB gt T2 v4) := Lib.hid (X.out.get (g := gt) (cs := stC T2) (t := 36) (by simp))
          have LU : Hid (stB gu T2 v4) := Lib.hid (X.out.get (g := gu) (cs := stC T2) (t := 36) (by simp))
          go_upto_region 15 with (first | (refine st_load_w (by kernel_rfl) _ rfl (g := gt) rfl LT.out ?_) | (refine st_load_w (by kernel_rfl) _ rfl (g := gu) rfl LU.out ?_) | (refine wpList_value_w (by kernel_rfl) (x_st_ne (X := T2) rfl rfl rfl) ?_) | fail)
          clear LT LU
          cases hE : (E2 == 0)
          · skip
            have e0 : ¬ E2 = 0 := by simpa using hE
            have eS : S1 = S0 := Q2.out (by rw [(P1.out (by trivial)).1]; exact e0)
            have Y : Hid (Blks w [(ga, saC a, 43), (gr, stC S1, 36), (gp, stC S1, 36)] v4) := Lib.hid (by rw [eS]; exact X.out.pick (by simp))
            clear e0 eS X
            go_upto_region 17 with fail
            generalize v4 = wy at *
            have LS : Hid (stB gp S1 wy) := Lib.hid (Y.out.get (g := gp) (cs := stC S1) (t := 36) (by simp))
            obtain ⟨c0, c1, c2, c3, c4, c5, c6, c7, c8, c9⟩ := saB_cells (Y.out.get (g := ga) (cs := saC a) (t := 43) (by simp))
            go_wp2_with (first | (refine st_load rfl _ rfl rfl LS.out ?_) | fail)
            refine (GJ.out _).mono ?_; rintro e w8 ⟨rfl, b8⟩
            replace Y := Lib.hid ((Y.out.after b8).new (vCells VJ) 30)
            clear b8 LS GJ c0 c1 c2 c3 c4 c5 c6 c7 c8 c9
            go_upto_region 18 with fail
            generalize w8.alloc (.cells (vCells VJ) 30) = wz at *
            generalize w8.heap.size = gv at *
            have LS : Hid (stB gr S1 wz) := Lib.hid (Y.out.get (g := gr) (cs := stC S1) (t := 36) (by simp))
            obtain ⟨c0, c1, c2, c3, c4, c5, c6, c7, c8, c9⟩ := saB_cells (Y.out.get (g := ga) (cs := saC a) (t := 43) (by simp))
            go_wp2_with (first | (refine st_load rfl _ rfl rfl LS.out ?_) | fail)
            refine (RJ.out _).mono ?_; rintro e w9 ⟨rfl, b9⟩
            replace Y := Lib.hid ((Y.out.after b9).new (vCells VJ) 30)
            clear b9 LS RJ c0 c1 c2 c3 c4 c5 c6 c7 c8 c9
            go_upto_region 19 with fail
            generalize w9.alloc (.cells (vCells VJ) 30) = wz at *
            generalize w9.heap.size = gx at *
            replace Y := Lib.hid (Y.out.after (Below.drew (Below.refl _ _)))
            refine wp_region_held_drew (S := (fun u => Blks w [(gx, vCells VJ, 30), (gv, vCells VJ, 30), (ga, saC a, 43), (gr, stC S1, 36), (gp, stC S1, 36)] u)) (by kernel_rfl) Y.out (fun hHeld => ?_)
            generalize wz.drew = wd at *
            refine wpAnyH_take (i := 0) (oi := { dst := some 110, op := Op.load 30 (Operand.tmp 16), type := 30, pos := "law.go:73", after := #[], guard := none }) rfl (by kernel_rfl) (by kernel_rfl) (by kernel_rfl) (fun _ _ _ h => h) (vl_yield (by kernel_rfl) _ rfl (g := gv) (v := VJ) rfl (fun u hu => vBlk_range (hu.get (g := gv) (cs := vCells VJ) (t := 30) (by simp)))) (by exact hHeld) ?_
            try simp only [Act.put, List.setIfInBounds_toArray, List.set_cons_zero, List.set_cons_succ]
            refine wpAnyH_take (i := 1) (oi := { dst := some 111, op := Op.load 30 (Operand.tmp 18), type := 30, pos := "law.go:73", after := #[], guard := none }) rfl (by kernel_rfl) (by kernel_rfl) (by kernel_rfl) (fun _ _ _ h => h) (vl_yield (by kernel_rfl) _ rfl (g := gx) (v := VJ) rfl (fun u hu => vBlk_range (hu.get (g := gx) (cs := vCells VJ) (t := 30) (by simp)))) (by exact hHeld) ?_
            try simp only [Act.put, List.setIfInBounds_toArray, List.set_cons_zero, List.set_cons_succ]
            refine wpAnyH_take (i := 2) (oi := { dst := some 112, op := Op.binOp BinOp.neq 30 (Operand.tmp 110) (Operand.tmp 111) 30, type := 4, pos := "law.go:73", after := #[{ on := 0, ground := Ground.data }, { on := 1, ground := Ground.data }], guard := none }) rfl (by kernel_rfl) (by kernel_rfl) (by kernel_rfl) (fun _ _ _ h => h) (yields_value (by kernel_rfl) (x_val_ne (X := VJ) rfl rfl rfl)) (by exact hHeld) ?_
            try simp only [Act.put, List.setIfInBounds_toArray, List.set_cons_zero, List.set_cons_succ]
            refine wpAnyH_take (i := 3) (oi := { dst := some 113, op := Op.move (Operand.tmp 112), type := 4, pos := "law.go:73", after := #[{ on := 2, ground := Ground.data }], guard := none }) (v := ?_) rfl (by kernel_rfl) (by kernel_rfl) (by kernel_rfl) (fun _ _ _ h => h) (Or.inl ⟨by rfl, ?_⟩) (by first | exact hHeld | assumption) ?_
            rotate_left 1
            · intro w hSw; (try dsimp only at hSw); go_simp; try (with_reducible rfl)
            try simp only [Act.put, List.setIfInBounds_toArray, List.set_cons_zero, List.set_cons_succ]
            refine wpAnyH_take (i := 4) (oi := { dst := some 114, op := Op.move (Operand.tmp 17), type := 44, pos := "law.go:73", after := #[{ on := 3, ground := Ground.guard }], guard := some (3, false) }) (v := ?_) rfl (by kernel_rfl) (by kernel_rfl) (by kernel_rfl) (fun _ _ _ h => h) (Or.inl ⟨by rfl, ?_⟩) (by first | exact hHeld | assumption) ?_
            rotate_left 1
            · intro w hSw; (try dsimp only at hSw); go_simp; try (with_reducible rfl)
            try simp only [Act.put, List.setIfInBounds_toArray, List.set_cons_zero, List.set_cons_succ]
            refine wpAnyH_take (i := 5) (oi := { dst := some 115, op := Op.move (Operand.tmp 19), type := 44, pos := "law.go:73", after := #[{ on := 3, ground := Ground.guard }], guard := some (3, false) }) (v := ?_) rfl (by kernel_rfl) (by kernel_rfl) (by kernel_rfl) (fun _ _ _ h => h) (Or.inl ⟨by rfl, ?_⟩) (by first | exact hHeld | assumption) ?_
            rotate_left 1
            · intro w hSw; (try dsimp only at hSw); go_simp; try (with_reducible rfl)
            try simp only [Act.put, List.setIfInBounds_toArray, List.set_cons_zero, List.set_cons_succ]
            refine wpAnyH_take (i := 6) (oi := { dst := some 116, op := Op.binOp BinOp.neq 44 (Operand.tmp 114) (Operand.tmp 115) 44, type := 4, pos := "law.go:73", after := #[{ on := 4, ground := Ground.data }, { on := 5, ground := Ground.data }, { on := 3, ground := Ground.guard }], guard := some (3, false) }) (v := ?_) rfl (by kernel_rfl) (by kernel_rfl) (by kernel_rfl) (fun _ _ _ h => h) (Or.inl ⟨by rfl, ?_⟩) (by first | exact hHeld | assumption) ?_
            rotate_left 1
            · intro w hSw; (try dsimp only at hSw); go_simp; try (with_reducible rfl)
            try simp only [Act.put, List.setIfInBounds_toArray, List.set_cons_zero, List.set_cons_succ]
            refine wpAnyH_take (i := 7) (oi := { dst := some 117, op := Op.pick (Operand.tmp 113) (Operand.const (Value.bool true)) (Operand.tmp 116), type := 4, pos := "law.go:73", after := #[{ on := 3, ground := Ground.data }, { on := 6, ground := Ground.data }], guard := none }) (v := ?_) rfl (by kernel_rfl) (by kernel_rfl) (by kernel_rfl) (fun _ _ _ h => h) (Or.inl ⟨by rfl, ?_⟩) (by first | exact hHeld | assumption) ?_
            rotate_left 1
            · intro w hSw; (try dsimp only at hSw); go_simp; try (with_reducible rfl)
            try simp only [Act.put, List.setIfInBounds_toArray, List.set_cons_zero, List.set_cons_succ]
            refine wpAnyH_take (i := 8) (oi := { dst := some 118, op := Op.move (Operand.tmp 117), type := 4, pos := "law.go:73", after := #[{ on := 7, ground := Ground.data }, { on := 3, ground := Ground.chain }], guard := none }) (v := ?_) rfl (by kernel_rfl) (by kernel_rfl) (by kernel_rfl) (fun _ _ _ h => h) (Or.inl ⟨by rfl, ?_⟩) (by first | exact hHeld | assumption) ?_
            rotate_left 1
            · intro w hSw; (try dsimp only at hSw); go_simp; try (with_reducible rfl)
            try simp only [Act.put, List.setIfInBounds_toArray, List.set_cons_zero, List.set_cons_succ]
            refine wpAnyH_take (i := 9) (oi := { dst := some 119, op := Op.load 36 (Operand.tmp 8), type := 36, pos := "law.go:73", after := #[{ on := 8, ground := Ground.guard }], guard := some (8, false) }) rfl (by kernel_rfl) (by kernel_rfl) (by kernel_rfl) (fun _ _ _ h => h) (st_yield (by kernel_rfl) _ rfl (g := gp) (X := S1) rfl (fun u hu => (hu.get (g := gp) (cs := stC S1) (t := 36) (by simp)))) (by exact hHeld) ?_
            try simp only [Act.put, List.setIfInBounds_toArray, List.set_cons_zero, List.set_cons_succ]
            refine wpAnyH_take (i := 10) (oi := { dst := some 120, op := Op.fieldAddr 43 (Operand.tmp 11) 1, type := 0, pos := "law.go:73", after := #[{ on := 8, ground := Ground.guard }], guard := some (8, false) }) (v := ?_) rfl (by kernel_rfl) (by kernel_rfl) (by kernel_rfl) (fun _ _ _ h => h) (Or.inl ⟨by rfl, ?_⟩) (by first | exact hHeld | assumption) ?_
            rotate_left 1
            · intro w hSw; (try dsimp only at hSw); go_simp; try (with_reducible rfl)
            try simp only [Act.put, List.setIfInBounds_toArray, List.set_cons_zero, List.set_cons_succ]
            refine wpAnyH_take (i := 11) (oi := { dst := some 121, op := Op.load 3 (Operand.tmp 120), type := 3, pos := "law.go:73", after := #[{ on := 10, ground := Ground.data }, { on := 8, ground := Ground.guard }], guard := some (8, false) }) rfl (by kernel_rfl) (by kernel_rfl) (by kernel_rfl) (fun _ _ _ h => h) (int_yield (by kernel_rfl) _ rfl (g := ga) (o := 1) (v := .int .i64 a.o) rfl (fun u hu => (saB_cells (hu.get (g := ga) (cs := saC a) (t := 43) (by simp))).2.1)) (by exact hHeld) ?_
            try simp only [Act.put, List.setIfInBounds_toArray, List.set_cons_zero, List.set_cons_succ]
            refine wpAnyH_take (i := 12) (oi := { dst := some 122, op := Op.fieldAddr 43 (Operand.tmp 11) 2, type := 0, pos := "law.go:73", after := #[{ on := 8, ground := Ground.guard }], guard := some (8, false) }) (v := ?_) rfl (by kernel_rfl) (by kernel_rfl) (by kernel_rfl) (fun _ _ _ h => h) (Or.inl ⟨by rfl, ?_⟩) (by first | exact hHeld | assumption) ?_
            rotate_left 1
            · intro w hSw; (try dsimp only at hSw); go_simp; try (with_reducible rfl)
            try simp only [Act.put, List.setIfInBounds_toArray, List.set_cons_zero, List.set_cons_succ]
            refine wpAnyH_take (i := 13) (oi := { dst := some 123, op := Op.load 3 (Operand.tmp 122), type := 3, pos := "law.go:73", after := #[{ on := 12, ground := Ground.data }, { on := 8, ground := Ground.guard }], guard := some (8, false) }) rfl (by kernel_rfl) (by kernel_rfl) (by kernel_rfl) (fun _ _ _ h => h) (int_yield (by kernel_rfl) _ rfl (g := ga) (o := 2) (v := .int .i64 a.z) rfl (fun u hu => (saB_cells (hu.get (g := ga) (cs := saC a) (t := 43) (by simp))).2.2.1)) (by exact hHeld) ?_
            try simp only [Act.put, List.setIfInBounds_toArray, List.set_cons_zero, List.set_cons_succ]
            refine wpAnyH_take (i := 15) (oi := { dst := some 125, op := Op.load 36 (Operand.tmp 9), type := 36, pos := "law.go:73", after := #[{ on := 8, ground := Ground.guard }], guard := some (8, false) }) rfl (by kernel_rfl) (by kernel_rfl) (by kernel_rfl) (fun _ _ _ h => h) (st_yield (by kernel_rfl) _ rfl (g := gr) (X := S1) rfl (fun u hu => (hu.get (g := gr) (cs := stC S1) (t := 36) (by simp)))) (by exact hHeld) ?_
            try simp only [Act.put, List.setIfInBounds_toArray, List.set_cons_zero, List.set_cons_succ]
            refine wpAnyH_take (i := 16) (oi := { dst := some 126, op := Op.fieldAddr 43 (Operand.tmp 11) 1, type := 0, pos := "law.go:73", after := #[{ on := 8, ground := Ground.guard }], guard := some (8, false) }) (v := ?_) rfl (by kernel_rfl) (by kernel_rfl) (by kernel_rfl) (fun _ _ _ h => h) (Or.inl ⟨by rfl, ?_⟩) (by first | exact hHeld | assumption) ?_
            rotate_left 1
            · intro w hSw; (try dsimp only at hSw); go_simp; try (with_reducible rfl)
            try simp only [Act.put, List.setIfInBounds_toArray, List.set_cons_zero, List.set_cons_succ]
            refine wpAnyH_take (i := 17) (oi := { dst := some 127, op := Op.load 3 (Operand.tmp 126), type := 3, pos := "law.go:73", after := #[{ on := 16, ground := Ground.data }, { on := 8, ground := Ground.guard }], guard := some (8, false) }) rfl (by kernel_rfl) (by kernel_rfl) (by kernel_rfl) (fun _ _ _ h => h) (int_yield (by kernel_rfl) _ rfl (g := ga) (o := 1) (v := .int .i64 a.o) rfl (fun u hu => (saB_cells (hu.get (g := ga) (cs := saC a) (t := 43) (by simp))).2.1)) (by exact hHeld) ?_
            try simp only [Act.put, List.setIfInBounds_toArray, List.set_cons_zero, List.set_cons_succ]
            refine wpAnyH_take (i := 18) (oi := { dst := some 128, op := Op.fieldAddr 43 (Operand.tmp 11) 2, type := 0, pos := "law.go:73", after := #[{ on := 8, ground := Ground.guard }], guard := some (8, false) }) (v := ?_) rfl (by kernel_rfl) (by kernel_rfl) (by kernel_rfl) (fun _ _ _ h => h) (Or.inl ⟨by rfl, ?_⟩) (by first | exact hHeld | assumption) ?_
            rotate_left 1
            · intro w hSw; (try dsimp only at hSw); go_simp; try (with_reducible rfl)
            try simp only [Act.put, List.setIfInBounds_toArray, List.set_cons_zero, List.set_cons_succ]
            refine wpAnyH_take (i := 19) (oi := { dst := some 129, op := Op.load 3 (Operand.tmp 128), type := 3, pos := "law.go:73", after := #[{ on := 18, ground := Ground.data }, { on := 8, ground := Ground.guard }], guard := some (8, false) }) rfl (by kernel_rfl) (by kernel_rfl) (by kernel_rfl) (fun _ _ _ h => h) (int_yield (by kernel_rfl) _ rfl (g := ga) (o := 2) (v := .int .i64 a.z) rfl (fun u hu => (saB_cells (hu.get (g := ga) (cs := saC a) (t := 43) (by simp))).2.2.1)) (by exact hHeld) ?_
            try simp only [Act.put, List.setIfInBounds_toArray, List.set_cons_zero, List.set_cons_succ]
            refine wpAnyH_ready (rs := [14]) (by kernel_rfl) (by simp) ?_
            refine AllReadyH.cons (o := { dst := some 124, op := Op.call { callee := Callee.value (Operand.func 23), args := #[Operand.tmp 119, Operand.tmp 121, Operand.tmp 123], argTypes := #[36, 3, 3] }, type := 4, pos := "law.go:73", after := #[{ on := 9, ground := Ground.data }, { on := 11, ground := Ground.data }, { on := 13, ground := Ground.data }, { on := 8, ground := Ground.chain }, { on := 8, ground := Ground.guard }], guard := some (8, false) }) rfl (fun K hK => ?_) AllReadyH.nil
            go_simp
            refine (FJ.out _).mono ?_; rintro e u1 ⟨rfl, b1⟩
            replace Y := Lib.hid (Y.out.after b1)
            clear b1
            go_wp2_with fail
            refine hK.out _ _ Y.out (fun hHeld => ?_)
            clear hK K
            try simp only [Act.put, List.setIfInBounds_toArray, List.set_cons_zero, List.set_cons_succ]
            refine wpAnyH_ready (rs := [20]) (by kernel_rfl) (by simp) ?_
            refine AllReadyH.cons (o := { dst := some 130, op := Op.call { callee := Callee.value (Operand.func 24), args := #[Operand.tmp 125, Operand.tmp 127, Operand.tmp 129], argTypes := #[36, 3, 3] }, type := 4, pos := "law.go:73", after := #[{ on := 15, ground := Ground.data }, { on := 17, ground := Ground.data }, { on := 19, ground := Ground.data }, { on := 14, ground := Ground.chain }, { on := 8, ground := Ground.guard }], guard := some (8, false) }) rfl (fun K hK => ?_) AllReadyH.nil
            go_simp
            refine (RFJ.out _).mono ?_; rintro e u1 ⟨rfl, b1⟩
            replace Y := Lib.hid (Y.out.after b1)
            clear b1
            go_wp2_with fail
            refine hK.out _ _ Y.out (fun hHeld => ?_)
            clear hK K
            try simp only [Act.put, List.setIfInBounds_toArray, List.set_cons_zero, List.set_cons_succ]
            refine wpAnyH_take (i := 21) (oi := { dst := some 131, op := Op.binOp BinOp.neq 4 (Operand.tmp 124) (Operand.tmp 130) 4, type := 4, pos := "law.go:73", after := #[{ on := 14, ground := Ground.data }, { on := 20, ground := Ground.data }, { on := 8, ground := Ground.guard }], guard := some (8, false) }) (v := ?_) rfl (by kernel_rfl) (by kernel_rfl) (by kernel_rfl) (fun _ _ _ h => h) (Or.inl ⟨by rfl, ?_⟩) (by first | exact hHeld | assumption) ?_
            rotate_left 1
            · intro w hSw; (try dsimp only at hSw); go_simp; try (with_reducible rfl)
            try simp only [Act.put, List.setIfInBounds_toArray, List.set_cons_zero, List.set_cons_succ]
            refine wpAnyH_take (i := 22) (oi := { dst := some 132, op := Op.pick (Operand.tmp 118) (Operand.const (Value.bool true)) (Operand.tmp 131), type := 4, pos := "law.go:73", after := #[{ on := 8, ground := Ground.data }, { on := 21, ground := Ground.data }], guard := none }) (v := ?_) rfl (by kernel_rfl) (by kernel_rfl) (by kernel_rfl) (fun _ _ _ h => h) (Or.inl ⟨by rfl, ?_⟩) (by first | exact hHeld | assumption) ?_
            rotate_left 1
            · intro w hSw; (try dsimp only at hSw); go_simp; try (with_reducible rfl)
            try simp only [Act.put, List.setIfInBounds_toArray, List.set_cons_zero, List.set_cons_succ]
            refine wpAnyH_done (by kernel_rfl) ?_ _
            have X12 : Hid (Blks w [(gr, stC (saF l (j + 1)), 36), (gp, stC (saF l (j + 1)), 36)] _) := Lib.hid (by
              rw [hS1.out]
              exact Y.out.pick (by simp))
            go_wp2_with fail
            go_round
            case rel => exact ⟨j + 1, by go_num, by omega, by omega, X12⟩
            case measure => simp [intOf]; omega
          · skip
            have e0 : E2 = 0 := by simpa using hE
            have eS : Hid (S1 = T2) := Lib.hid (by rw [Q1.out (by rw [(P1.out (by trivial)).1]; exact e0), (P1.out (by trivial)).2])
            clear e0
            go_upto_region 16 with fail
            replace X := Lib.hid (X.out.after (Below.drew (Below.refl _ _)))
            refine wp_region_held_drew (S := (fun u => stB gt T2 u ∧ stB gu T2 u)) (by kernel_rfl) ⟨(X.out.get (g := gt) (cs := stC T2) (t := 36) (by simp)), (X.out.get (g := gu) (cs := stC T2) (t := 36) (by simp))⟩ (fun hHeld => ?_)
            generalize v4.drew = wd at *
            refine wpAnyH_take (i := 0) (oi := { dst := some 90, op := Op.load 36 (Operand.tmp 12), type := 36, pos := "law.go:69", after := #[], guard := none }) rfl (by kernel_rfl) (by kernel_rfl) (by kernel_rfl) (fun _ _ _ h => h) (st_yield (by kernel_rfl) _ rfl (g := gt) (X := T2) rfl (fun u hu => hu.1)) (by exact hHeld) ?_
            try simp only [Act.put, List.setIfInBounds_toArray, List.set_cons_zero, List.set_cons_succ]
            refine wpAnyH_take (i := 1) (oi := { dst := some 91, op := Op.load 36 (Operand.tmp 14), type := 36, pos := "law.go:69", after := #[{ on := 2, ground := Ground.gcOnly Departure.lateStores }], guard := none }) rfl (by kernel_rfl) (by kernel_rfl) (by kernel_rfl) (fun _ _ _ h => h) (st_yield (by kernel_rfl) _ rfl (g := gu) (X := T2) rfl (fun u hu => hu.2)) (by exact hHeld) ?_
            try simp only [Act.put, List.setIfInBounds_toArray, List.set_cons_zero, List.set_cons_succ]
            refine wpAnyH_ready (rs := [2]) (by kernel_rfl) (by simp) ?_
            refine AllReadyH.cons (o := { dst := none, op := Op.store 36 (Operand.tmp 8) (Operand.tmp 90), type := 0, pos := "law.go:69", after := #[{ on := 0, ground := Ground.data }, { on := 0, ground := Ground.phase }, { on := 1, ground := Ground.textOnly Departure.lateStores }], guard := none }) rfl (fun K hK => ?_) AllReadyH.nil
            · skip
              refine st_store_op (g := gp) (X := S0) (Y := T2) _ _ rfl rfl rfl (X.out.get (g := gp) (cs := stC S0) (t := 36) (by simp)) ?_
              replace X := Lib.hid ((X.out.pick (l' := [(gp, stC S0, 36), (gu, stC T2, 36), (gt, stC T2, 36), (ga, saC a, 43), (gr, stC S0, 36)]) (by simp)).row (by have := hgp.out; have := hgr.out; have := hga.out; have := hgt.out; have := hgu.out; omega) (by have := hgp.out; have := hgr.out; have := hga.out; have := hgt.out; have := hgu.out; simp <;> omega) (stC T2))
              refine hK.out _ _ ⟨(X.out.get (g := gt) (cs := stC T2) (t := 36) (by simp)), (X.out.get (g := gu) (cs := stC T2) (t := 36) (by simp))⟩ (fun hHeld => ?_)
              clear hK K
              try simp only [Act.put, List.setIfInBounds_toArray, List.set_cons_zero, List.set_cons_succ]
              refine wpAnyH_ready (rs := [3]) (by kernel_rfl) (by simp) ?_
              refine AllReadyH.cons (o := { dst := none, op := Op.store 36 (Operand.tmp 9) (Operand.tmp 91), type := 0, pos := "law.go:69", after := #[{ on := 1, ground := Ground.data }, { on := 2, ground := Ground.chain }, { on := 0, ground := Ground.phase }, { on := 1, ground := Ground.phase }, { on := 2, ground := Ground.phase }], guard := none }) rfl (fun K hK => ?_) AllReadyH.nil
              · skip
                refine st_store_op (g := gr) (X := S0) (Y := T2) _ _ rfl rfl rfl (X.out.get (g := gr) (cs := stC S0) (t := 36) (by simp)) ?_
                replace X := Lib.hid ((X.out.pick (l' := [(gr, stC S0, 36), (gp, stC T2, 36), (gu, stC T2, 36), (gt, stC T2, 36), (ga, saC a, 43)]) (by simp)).row (by have := hgp.out; have := hgr.out; have := hga.out; have := hgt.out; have := hgu.out; omega) (by have := hgp.out; have := hgr.out; have := hga.out; have := hgt.out; have := hgu.out; simp <;> omega) (stC T2))
                refine hK.out _ _ ⟨(X.out.get (g := gt) (cs := stC T2) (t := 36) (by simp)), (X.out.get (g := gu) (cs := stC T2) (t := 36) (by simp))⟩ (fun hHeld => ?_)
                clear hK K
                try simp only [Act.put, List.setIfInBounds_toArray, List.set_cons_zero, List.set_cons_succ]
                refine wpAnyH_done (by kernel_rfl) ?_ _
                clear hHeld
                generalize (wd.setRow gp (stC T2)).setRow gr (stC T2) = wy at *
                have Y : Hid (Blks w [(ga, saC a, 43), (gr, stC S1, 36), (gp, stC S1, 36)] wy) := Lib.hid (by rw [eS.out]; exact X.out.pick (by simp))
                clear eS X
                go_upto_region 17 with fail
                have LS : Hid (stB gp S1 wy) := Lib.hid (Y.out.get (g := gp) (cs := stC S1) (t := 36) (by simp))
                obtain ⟨c0, c1, c2, c3, c4, c5, c6, c7, c8, c9⟩ := saB_cells (Y.out.get (g := ga) (cs := saC a) (t := 43) (by simp))
                go_wp2_with (first | (refine st_load rfl _ rfl rfl LS.out ?_) | fail)
                refine (GJ.out _).mono ?_; rintro e w8 ⟨rfl, b8⟩
                replace Y := Lib.hid ((Y.out.after b8).new (vCells VJ) 30)
                clear b8 LS GJ c0 c1 c2 c3 c4 c5 c6 c7 c8 c9
                go_upto_region 18 with fail
                generalize w8.alloc (.cells (vCells VJ) 30) = wz at *
                generalize w8.heap.size = gv at *
                have LS : Hid (stB gr S1 wz) := Lib.hid (Y.out.get (g := gr) (cs := stC S1) (t := 36) (by simp))
                obtain ⟨c0, c1, c2, c3, c4, c5, c6, c7, c8, c9⟩ := saB_cells (Y.out.get (g := ga) (cs := saC a) (t := 43) (by simp))
                go_wp2_with (first | (refine st_load rfl _ rfl rfl LS.out ?_) | fail)
                refine (RJ.out _).mono ?_; rintro e w9 ⟨rfl, b9⟩
                replace Y := Lib.hid ((Y.out.after b9).new (vCells VJ) 30)
                clear b9 LS RJ c0 c1 c2 c3 c4 c5 c6 c7 c8 c9
                go_upto_region 19 with fail
                generalize w9.alloc (.cells (vCells VJ) 30) = wz at *
                generalize w9.heap.size = gx at *
                replace Y := Lib.hid (Y.out.after (Below.drew (Below.refl _ _)))
                refine wp_region_held_drew (S := (fun u => Blks w [(gx, vCells VJ, 30), (gv, vCells VJ, 30), (ga, saC a, 43), (gr, stC S1, 36), (gp, stC S1, 36)] u)) (by kernel_rfl) Y.out (fun hHeld => ?_)
                generalize wz.drew = wd at *
                refine wpAnyH_take (i := 0) (oi := { dst := some 110, op := Op.load 30 (Operand.tmp 16), type := 30, pos := "law.go:73", after := #[], guard := none }) rfl (by kernel_rfl) (by kernel_rfl) (by kernel_rfl) (fun _ _ _ h => h) (vl_yield (by kernel_rfl) _ rfl (g := gv) (v := VJ) rfl (fun u hu => vBlk_range (hu.get (g := gv) (cs := vCells VJ) (t := 30) (by simp)))) (by exact hHeld) ?_
                try simp only [Act.put, List.setIfInBounds_toArray, List.set_cons_zero, List.set_cons_succ]
                refine wpAnyH_take (i := 1) (oi := { dst := some 111, op := Op.load 30 (Operand.tmp 18), type := 30, pos := "law.go:73", after := #[], guard := none }) rfl (by kernel_rfl) (by kernel_rfl) (by kernel_rfl) (fun _ _ _ h => h) (vl_yield (by kernel_rfl) _ rfl (g := gx) (v := VJ) rfl (fun u hu => vBlk_range (hu.get (g := gx) (cs := vCells VJ) (t := 30) (by simp)))) (by exact hHeld) ?_
                try simp only [Act.put, List.setIfInBounds_toArray, List.set_cons_zero, List.set_cons_succ]
                refine wpAnyH_take (i := 2) (oi := { dst := some 112, op := Op.binOp BinOp.neq 30 (Operand.tmp 110) (Operand.tmp 111) 30, type := 4, pos := "law.go:73", after := #[{ on := 0, ground := Ground.data }, { on := 1, ground := Ground.data }], guard := none }) rfl (by kernel_rfl) (by kernel_rfl) (by kernel_rfl) (fun _ _ _ h => h) (yields_value (by kernel_rfl) (x_val_ne (X := VJ) rfl rfl rfl)) (by exact hHeld) ?_
                try simp only [Act.put, List.setIfInBounds_toArray, List.set_cons_zero, List.set_cons_succ]
                refine wpAnyH_take (i := 3) (oi := { dst := some 113, op := Op.move (Operand.tmp 112), type := 4, pos := "law.go:73", after := #[{ on := 2, ground := Ground.data }], guard := none }) (v := ?_) rfl (by kernel_rfl) (by kernel_rfl) (by kernel_rfl) (fun _ _ _ h => h) (Or.inl ⟨by rfl, ?_⟩) (by first | exact hHeld | assumption) ?_
                rotate_left 1
                · intro w hSw; (try dsimp only at hSw); go_simp; try (with_reducible rfl)
                try simp only [Act.put, List.setIfInBounds_toArray, List.set_cons_zero, List.set_cons_succ]
                refine wpAnyH_take (i := 4) (oi := { dst := some 114, op := Op.move (Operand.tmp 17), type := 44, pos := "law.go:73", after := #[{ on := 3, ground := Ground.guard }], guard := some (3, false) }) (v := ?_) rfl (by kernel_rfl) (by kernel_rfl) (by kernel_rfl) (fun _ _ _ h => h) (Or.inl ⟨by rfl, ?_⟩) (by first | exact hHeld | assumption) ?_
                rotate_left 1
                · intro w hSw; (try dsimp only at hSw); go_simp; try (with_reducible rfl)
                try simp only [Act.put, List.setIfInBounds_toArray, List.set_cons_zero, List.set_cons_succ]
                refine wpAnyH_take (i := 5) (oi := { dst := some 115, op := Op.move (Operand.tmp 19), type := 44, pos := "law.go:73", after := #[{ on := 3, ground := Ground.guard }], guard := some (3, false) }) (v := ?_) rfl (by kernel_rfl) (by kernel_rfl) (by kernel_rfl) (fun _ _ _ h => h) (Or.inl ⟨by rfl, ?_⟩) (by first | exact hHeld | assumption) ?_
                rotate_left 1
                · intro w hSw; (try dsimp only at hSw); go_simp; try (with_reducible rfl)
                try simp only [Act.put, List.setIfInBounds_toArray, List.set_cons_zero, List.set_cons_succ]
                refine wpAnyH_take (i := 6) (oi := { dst := some 116, op := Op.binOp BinOp.neq 44 (Operand.tmp 114) (Operand.tmp 115) 44, type := 4, pos := "law.go:73", after := #[{ on := 4, ground := Ground.data }, { on := 5, ground := Ground.data }, { on := 3, ground := Ground.guard }], guard := some (3, false) }) (v := ?_) rfl (by kernel_rfl) (by kernel_rfl) (by kernel_rfl) (fun _ _ _ h => h) (Or.inl ⟨by rfl, ?_⟩) (by first | exact hHeld | assumption) ?_
                rotate_left 1
                · intro w hSw; (try dsimp only at hSw); go_simp; try (with_reducible rfl)
                try simp only [Act.put, List.setIfInBounds_toArray, List.set_cons_zero, List.set_cons_succ]
                refine wpAnyH_take (i := 7) (oi := { dst := some 117, op := Op.pick (Operand.tmp 113) (Operand.const (Value.bool true)) (Operand.tmp 116), type := 4, pos := "law.go:73", after := #[{ on := 3, ground := Ground.data }, { on := 6, ground := Ground.data }], guard := none }) (v := ?_) rfl (by kernel_rfl) (by kernel_rfl) (by kernel_rfl) (fun _ _ _ h => h) (Or.inl ⟨by rfl, ?_⟩) (by first | exact hHeld | assumption) ?_
                rotate_left 1
                · intro w hSw; (try dsimp only at hSw); go_simp; try (with_reducible rfl)
                try simp only [Act.put, List.setIfInBounds_toArray, List.set_cons_zero, List.set_cons_succ]
                refine wpAnyH_take (i := 8) (oi := { dst := some 118, op := Op.move (Operand.tmp 117), type := 4, pos := "law.go:73", after := #[{ on := 7, ground := Ground.data }, { on := 3, ground := Ground.chain }], guard := none }) (v := ?_) rfl (by kernel_rfl) (by kernel_rfl) (by kernel_rfl) (fun _ _ _ h => h) (Or.inl ⟨by rfl, ?_⟩) (by first | exact hHeld | assumption) ?_
                rotate_left 1
                · intro w hSw; (try dsimp only at hSw); go_simp; try (with_reducible rfl)
                try simp only [Act.put, List.setIfInBounds_toArray, List.set_cons_zero, List.set_cons_succ]
                refine wpAnyH_take (i := 9) (oi := { dst := some 119, op := Op.load 36 (Operand.tmp 8), type := 36, pos := "law.go:73", after := #[{ on := 8, ground := Ground.guard }], guard := some (8, false) }) rfl (by kernel_rfl) (by kernel_rfl) (by kernel_rfl) (fun _ _ _ h => h) (st_yield (by kernel_rfl) _ rfl (g := gp) (X := S1) rfl (fun u hu => (hu.get (g := gp) (cs := stC S1) (t := 36) (by simp)))) (by exact hHeld) ?_
                try simp only [Act.put, List.setIfInBounds_toArray, List.set_cons_zero, List.set_cons_succ]
                refine wpAnyH_take (i := 10) (oi := { dst := some 120, op := Op.fieldAddr 43 (Operand.tmp 11) 1, type := 0, pos := "law.go:73", after := #[{ on := 8, ground := Ground.guard }], guard := some (8, false) }) (v := ?_) rfl (by kernel_rfl) (by kernel_rfl) (by kernel_rfl) (fun _ _ _ h => h) (Or.inl ⟨by rfl, ?_⟩) (by first | exact hHeld | assumption) ?_
                rotate_left 1
                · intro w hSw; (try dsimp only at hSw); go_simp; try (with_reducible rfl)
                try simp only [Act.put, List.setIfInBounds_toArray, List.set_cons_zero, List.set_cons_succ]
                refine wpAnyH_take (i := 11) (oi := { dst := some 121, op := Op.load 3 (Operand.tmp 120), type := 3, pos := "law.go:73", after := #[{ on := 10, ground := Ground.data }, { on := 8, ground := Ground.guard }], guard := some (8, false) }) rfl (by kernel_rfl) (by kernel_rfl) (by kernel_rfl) (fun _ _ _ h => h) (int_yield (by kernel_rfl) _ rfl (g := ga) (o := 1) (v := .int .i64 a.o) rfl (fun u hu => (saB_cells (hu.get (g := ga) (cs := saC a) (t := 43) (by simp))).2.1)) (by exact hHeld) ?_
                try simp only [Act.put, List.setIfInBounds_toArray, List.set_cons_zero, List.set_cons_succ]
                refine wpAnyH_take (i := 12) (oi := { dst := some 122, op := Op.fieldAddr 43 (Operand.tmp 11) 2, type := 0, pos := "law.go:73", after := #[{ on := 8, ground := Ground.guard }], guard := some (8, false) }) (v := ?_) rfl (by kernel_rfl) (by kernel_rfl) (by kernel_rfl) (fun _ _ _ h => h) (Or.inl ⟨by rfl, ?_⟩) (by first | exact hHeld | assumption) ?_
                rotate_left 1
                · intro w hSw; (try dsimp only at hSw); go_simp; try (with_reducible rfl)
                try simp only [Act.put, List.setIfInBounds_toArray, List.set_cons_zero, List.set_cons_succ]
                refine wpAnyH_take (i := 13) (oi := { dst := some 123, op := Op.load 3 (Operand.tmp 122), type := 3, pos := "law.go:73", after := #[{ on := 12, ground := Ground.data }, { on := 8, ground := Ground.guard }], guard := some (8, false) }) rfl (by kernel_rfl) (by kernel_rfl) (by kernel_rfl) (fun _ _ _ h => h) (int_yield (by kernel_rfl) _ rfl (g := ga) (o := 2) (v := .int .i64 a.z) rfl (fun u hu => (saB_cells (hu.get (g := ga) (cs := saC a) (t := 43) (by simp))).2.2.1)) (by exact hHeld) ?_
                try simp only [Act.put, List.setIfInBounds_toArray, List.set_cons_zero, List.set_cons_succ]
                refine wpAnyH_take (i := 15) (oi := { dst := some 125, op := Op.load 36 (Operand.tmp 9), type := 36, pos := "law.go:73", after := #[{ on := 8, ground := Ground.guard }], guard := some (8, false) }) rfl (by kernel_rfl) (by kernel_rfl) (by kernel_rfl) (fun _ _ _ h => h) (st_yield (by kernel_rfl) _ rfl (g := gr) (X := S1) rfl (fun u hu => (hu.get (g := gr) (cs := stC S1) (t := 36) (by simp)))) (by exact hHeld) ?_
                try simp only [Act.put, List.setIfInBounds_toArray, List.set_cons_zero, List.set_cons_succ]
                refine wpAnyH_take (i := 16) (oi := { dst := some 126, op := Op.fieldAddr 43 (Operand.tmp 11) 1, type := 0, pos := "law.go:73", after := #[{ on := 8, ground := Ground.guard }], guard := some (8, false) }) (v := ?_) rfl (by kernel_rfl) (by kernel_rfl) (by kernel_rfl) (fun _ _ _ h => h) (Or.inl ⟨by rfl, ?_⟩) (by first | exact hHeld | assumption) ?_
                rotate_left 1
                · intro w hSw; (try dsimp only at hSw); go_simp; try (with_reducible rfl)
                try simp only [Act.put, List.setIfInBounds_toArray, List.set_cons_zero, List.set_cons_succ]
                refine wpAnyH_take (i := 17) (oi := { dst := some 127, op := Op.load 3 (Operand.tmp 126), type := 3, pos := "law.go:73", after := #[{ on := 16, ground := Ground.data }, { on := 8, ground := Ground.guard }], guard := some (8, false) }) rfl (by kernel_rfl) (by kernel_rfl) (by kernel_rfl) (fun _ _ _ h => h) (int_yield (by kernel_rfl) _ rfl (g := ga) (o := 1) (v := .int .i64 a.o) rfl (fun u hu => (saB_cells (hu.get (g := ga) (cs := saC a) (t := 43) (by simp))).2.1)) (by exact hHeld) ?_
                try simp only [Act.put, List.setIfInBounds_toArray, List.set_cons_zero, List.set_cons_succ]
                refine wpAnyH_take (i := 18) (oi := { dst := some 128, op := Op.fieldAddr 43 (Operand.tmp 11) 2, type := 0, pos := "law.go:73", after := #[{ on := 8, ground := Ground.guard }], guard := some (8, false) }) (v := ?_) rfl (by kernel_rfl) (by kernel_rfl) (by kernel_rfl) (fun _ _ _ h => h) (Or.inl ⟨by rfl, ?_⟩) (by first | exact hHeld | assumption) ?_
                rotate_left 1
                · intro w hSw; (try dsimp only at hSw); go_simp; try (with_reducible rfl)
                try simp only [Act.put, List.setIfInBounds_toArray, List.set_cons_zero, List.set_cons_succ]
                refine wpAnyH_take (i := 19) (oi := { dst := some 129, op := Op.load 3 (Operand.tmp 128), type := 3, pos := "law.go:73", after := #[{ on := 18, ground := Ground.data }, { on := 8, ground := Ground.guard }], guard := some (8, false) }) rfl (by kernel_rfl) (by kernel_rfl) (by kernel_rfl) (fun _ _ _ h => h) (int_yield (by kernel_rfl) _ rfl (g := ga) (o := 2) (v := .int .i64 a.z) rfl (fun u hu => (saB_cells (hu.get (g := ga) (cs := saC a) (t := 43) (by simp))).2.2.1)) (by exact hHeld) ?_
                try simp only [Act.put, List.setIfInBounds_toArray, List.set_cons_zero, List.set_cons_succ]
                refine wpAnyH_ready (rs := [14]) (by kernel_rfl) (by simp) ?_
                refine AllReadyH.cons (o := { dst := some 124, op := Op.call { callee := Callee.value (Operand.func 23), args := #[Operand.tmp 119, Operand.tmp 121, Operand.tmp 123], argTypes := #[36, 3, 3] }, type := 4, pos := "law.go:73", after := #[{ on := 9, ground := Ground.data }, { on := 11, ground := Ground.data }, { on := 13, ground := Ground.data }, { on := 8, ground := Ground.chain }, { on := 8, ground := Ground.guard }], guard := some (8, false) }) rfl (fun K hK => ?_) AllReadyH.nil
                go_simp
                refine (FJ.out _).mono ?_; rintro e u1 ⟨rfl, b1⟩
                replace Y := Lib.hid (Y.out.after b1)
                clear b1
                go_wp2_with fail
                refine hK.out _ _ Y.out (fun hHeld => ?_)
                clear hK K
                try simp only [Act.put, List.setIfInBounds_toArray, List.set_cons_zero, List.set_cons_succ]
                refine wpAnyH_ready (rs := [20]) (by kernel_rfl) (by simp) ?_
                refine AllReadyH.cons (o := { dst := some 130, op := Op.call { callee := Callee.value (Operand.func 24), args := #[Operand.tmp 125, Operand.tmp 127, Operand.tmp 129], argTypes := #[36, 3, 3] }, type := 4, pos := "law.go:73", after := #[{ on := 15, ground := Ground.data }, { on := 17, ground := Ground.data }, { on := 19, ground := Ground.data }, { on := 14, ground := Ground.chain }, { on := 8, ground := Ground.guard }], guard := some (8, false) }) rfl (fun K hK => ?_) AllReadyH.nil
                go_simp
                refine (RFJ.out _).mono ?_; rintro e u1 ⟨rfl, b1⟩
                replace Y := Lib.hid (Y.out.after b1)
                clear b1
                go_wp2_with fail
                refine hK.out _ _ Y.out (fun hHeld => ?_)
                clear hK K
                try simp only [Act.put, List.setIfInBounds_toArray, List.set_cons_zero, List.set_cons_succ]
                refine wpAnyH_take (i := 21) (oi := { dst := some 131, op := Op.binOp BinOp.neq 4 (Operand.tmp 124) (Operand.tmp 130) 4, type := 4, pos := "law.go:73", after := #[{ on := 14, ground := Ground.data }, { on := 20, ground := Ground.data }, { on := 8, ground := Ground.guard }], guard := some (8, false) }) (v := ?_) rfl (by kernel_rfl) (by kernel_rfl) (by kernel_rfl) (fun _ _ _ h => h) (Or.inl ⟨by rfl, ?_⟩) (by first | exact hHeld | assumption) ?_
                rotate_left 1
                · intro w hSw; (try dsimp only at hSw); go_simp; try (with_reducible rfl)
                try simp only [Act.put, List.setIfInBounds_toArray, List.set_cons_zero, List.set_cons_succ]
                refine wpAnyH_take (i := 22) (oi := { dst := some 132, op := Op.pick (Operand.tmp 118) (Operand.const (Value.bool true)) (Operand.tmp 131), type := 4, pos := "law.go:73", after := #[{ on := 8, ground := Ground.data }, { on := 21, ground := Ground.data }], guard := none }) (v := ?_) rfl (by kernel_rfl) (by kernel_rfl) (by kernel_rfl) (fun _ _ _ h => h) (Or.inl ⟨by rfl, ?_⟩) (by first | exact hHeld | assumption) ?_
                rotate_left 1
                · intro w hSw; (try dsimp only at hSw); go_simp; try (with_reducible rfl)
                try simp only [Act.put, List.setIfInBounds_toArray, List.set_cons_zero, List.set_cons_succ]
                refine wpAnyH_done (by kernel_rfl) ?_ _
                have X12 : Hid (Blks w [(gr, stC (saF l (j + 1)), 36), (gp, stC (saF l (j + 1)), 36)] _) := Lib.hid (by
                  rw [hS1.out]
                  exact Y.out.pick (by simp))
                go_wp2_with fail
                go_round
                case rel => exact ⟨j + 1, by go_num, by omega, by omega, X12⟩
                case measure => simp [intOf]; omega
    · have M0 : Hid (saM l = saF l j) := Lib.hid (by rw [MU.out, show min n 100 = j by omega])
      rw [← M0.out] at V
      clear MU M0 HV IN
      have LS : Hid (stB gp (saM l) wr) := Lib.hid (V.out.get (g := gp) (cs := stC (saM l)) (t := 36) (by simp))
      go_wp2_with (first | (refine st_load rfl _ rfl rfl LS.out ?_) | fail)
      refine (GE.out _).mono ?_; rintro e w4 ⟨rfl, b4⟩
      have Y := Lib.hid ((V.out.after b4).new (vCells VM) 30)
      clear b4 LS GE
      go_upto_region 23 with fail
      generalize w4.alloc (.cells (vCells VM) 30) = wx at *
      generalize w4.heap.size = gv at *
      have LS : Hid (stB gr (saM l) wx) := Lib.hid (Y.out.get (g := gr) (cs := stC (saM l)) (t := 36) (by simp))
      go_wp2_with (first | (refine st_load rfl _ rfl rfl LS.out ?_) | fail)
      refine (RG.out _).mono ?_; rintro e w5 ⟨rfl, b5⟩
      replace Y := Lib.hid ((Y.out.after b5).new (vCells VM) 30)
      clear b5 LS RG
      go_upto_region 24 with fail
      generalize w5.alloc (.cells (vCells VM) 30) = wx at *
      generalize w5.heap.size = gx at *
      replace Y := Lib.hid (Y.out.after (Below.drew (Below.refl _ _)))
      refine wp_region_held_drew (S := (fun u => Blks w [(gx, vCells VM, 30), (gv, vCells VM, 30), (gr, stC (saM l), 36), (gp, stC (saM l), 36)] u)) (by kernel_rfl) Y.out (fun hHeld => ?_)
      generalize wx.drew = wd at *
      refine wpAnyH_take (i := 0) (oi := { dst := some 148, op := Op.move (Operand.tmp 7), type := 4, pos := "law.go:79", after := #[], guard := none }) (v := ?_) rfl (by kernel_rfl) (by kernel_rfl) (by kernel_rfl) (fun _ _ _ h => h) (Or.inl ⟨by rfl, ?_⟩) (by first | exact hHeld | assumption) ?_
      rotate_left 1
      · intro w hSw; (try dsimp only at hSw); go_simp; try (with_reducible rfl)
      try simp only [Act.put, List.setIfInBounds_toArray, List.set_cons_zero, List.set_cons_succ]
      refine wpAnyH_take (i := 1) (oi := { dst := some 149, op := Op.move (Operand.tmp 148), type := 4, pos := "law.go:79", after := #[{ on := 0, ground := Ground.data }], guard := none }) (v := ?_) rfl (by kernel_rfl) (by kernel_rfl) (by kernel_rfl) (fun _ _ _ h => h) (Or.inl ⟨by rfl, ?_⟩) (by first | exact hHeld | assumption) ?_
      rotate_left 1
      · intro w hSw; (try dsimp only at hSw); go_simp; try (with_reducible rfl)
      try simp only [Act.put, List.setIfInBounds_toArray, List.set_cons_zero, List.set_cons_succ]
      refine wpAnyH_take (i := 2) (oi := { dst := some 150, op := Op.load 30 (Operand.tmp 20), type := 30, pos := "law.go:79", after := #[{ on := 1, ground := Ground.guard }], guard := some (1, true) }) rfl (by kernel_rfl) (by kernel_rfl) (by kernel_rfl) (fun _ _ _ h => h) (vl_yield (by kernel_rfl) _ rfl (g := gv) (v := VM) rfl (fun u hu => vBlk_range (hu.get (g := gv) (cs := vCells VM) (t := 30) (by simp)))) (by exact hHeld) ?_
      try simp only [Act.put, List.setIfInBounds_toArray, List.set_cons_zero, List.set_cons_succ]
      refine wpAnyH_take (i := 3) (oi := { dst := some 151, op := Op.load 30 (Operand.tmp 22), type := 30, pos := "law.go:79", after := #[{ on := 1, ground := Ground.guard }], guard := some (1, true) }) rfl (by kernel_rfl) (by kernel_rfl) (by kernel_rfl) (fun _ _ _ h => h) (vl_yield (by kernel_rfl) _ rfl (g := gx) (v := VM) rfl (fun u hu => vBlk_range (hu.get (g := gx) (cs := vCells VM) (t := 30) (by simp)))) (by exact hHeld) ?_
      try simp only [Act.put, List.setIfInBounds_toArray, List.set_cons_zero, List.set_cons_succ]
      refine wpAnyH_take (i := 4) (oi := { dst := some 152, op := Op.binOp BinOp.eql 30 (Operand.tmp 150) (Operand.tmp 151) 30, type := 4, pos := "law.go:79", after := #[{ on := 2, ground := Ground.data }, { on := 3, ground := Ground.data }, { on := 1, ground := Ground.guard }], guard := some (1, true) }) rfl (by kernel_rfl) (by kernel_rfl) (by kernel_rfl) (fun _ _ _ h => h) (yields_value (by kernel_rfl) (x_val_eq (X := VM) rfl rfl rfl)) (by exact hHeld) ?_
      try simp only [Act.put, List.setIfInBounds_toArray, List.set_cons_zero, List.set_cons_succ]
      refine wpAnyH_take (i := 5) (oi := { dst := some 153, op := Op.pick (Operand.tmp 149) (Operand.tmp 152) (Operand.const (Value.bool false)), type := 4, pos := "law.go:79", after := #[{ on := 1, ground := Ground.data }, { on := 4, ground := Ground.data }], guard := none }) (v := ?_) rfl (by kernel_rfl) (by kernel_rfl) (by kernel_rfl) (fun _ _ _ h => h) (Or.inl ⟨by rfl, ?_⟩) (by first | exact hHeld | assumption) ?_
      rotate_left 1
      · intro w hSw; (try dsimp only at hSw); go_simp; try (with_reducible rfl)
      try simp only [Act.put, List.setIfInBounds_toArray, List.set_cons_zero, List.set_cons_succ]
      refine wpAnyH_take (i := 6) (oi := { dst := some 154, op := Op.move (Operand.tmp 153), type := 4, pos := "law.go:79", after := #[{ on := 5, ground := Ground.data }, { on := 1, ground := Ground.chain }], guard := none }) (v := ?_) rfl (by kernel_rfl) (by kernel_rfl) (by kernel_rfl) (fun _ _ _ h => h) (Or.inl ⟨by rfl, ?_⟩) (by first | exact hHeld | assumption) ?_
      rotate_left 1
      · intro w hSw; (try dsimp only at hSw); go_simp; try (with_reducible rfl)
      try simp only [Act.put, List.setIfInBounds_toArray, List.set_cons_zero, List.set_cons_succ]
      refine wpAnyH_take (i := 7) (oi := { dst := some 155, op := Op.move (Operand.tmp 21), type := 44, pos := "law.go:79", after := #[{ on := 6, ground := Ground.guard }], guard := some (6, true) }) (v := ?_) rfl (by kernel_rfl) (by kernel_rfl) (by kernel_rfl) (fun _ _ _ h => h) (Or.inl ⟨by rfl, ?_⟩) (by first | exact hHeld | assumption) ?_
      rotate_left 1
      · intro w hSw; (try dsimp only at hSw); go_simp; try (with_reducible rfl)
      try simp only [Act.put, List.setIfInBounds_toArray, List.set_cons_zero, List.set_cons_succ]
      refine wpAnyH_take (i := 8) (oi := { dst := some 156, op := Op.move (Operand.tmp 23), type := 44, pos := "law.go:79", after := #[{ on := 6, ground := Ground.guard }], guard := some (6, true) }) (v := ?_) rfl (by kernel_rfl) (by kernel_rfl) (by kernel_rfl) (fun _ _ _ h => h) (Or.inl ⟨by rfl, ?_⟩) (by first | exact hHeld | assumption) ?_
      rotate_left 1
      · intro w hSw; (try dsimp only at hSw); go_simp; try (with_reducible rfl)
      try simp only [Act.put, List.setIfInBounds_toArray, List.set_cons_zero, List.set_cons_succ]
      refine wpAnyH_take (i := 9) (oi := { dst := some 157, op := Op.binOp BinOp.eql 44 (Operand.tmp 155) (Operand.tmp 156) 44, type := 4, pos := "law.go:79", after := #[{ on := 7, ground := Ground.data }, { on := 8, ground := Ground.data }, { on := 6, ground := Ground.guard }], guard := some (6, true) }) (v := ?_) rfl (by kernel_rfl) (by kernel_rfl) (by kernel_rfl) (fun _ _ _ h => h) (Or.inl ⟨by rfl, ?_⟩) (by first | exact hHeld | assumption) ?_
      rotate_left 1
      · intro w hSw; (try dsimp only at hSw); go_simp; try (with_reducible rfl)
      try simp only [Act.put, List.setIfInBounds_toArray, List.set_cons_zero, List.set_cons_succ]
      refine wpAnyH_take (i := 10) (oi := { dst := some 158, op := Op.pick (Operand.tmp 154) (Operand.tmp 157) (Operand.const (Value.bool false)), type := 4, pos := "law.go:79", after := #[{ on := 6, ground := Ground.data }, { on := 9, ground := Ground.data }], guard := none }) (v := ?_) rfl (by kernel_rfl) (by kernel_rfl) (by kernel_rfl) (fun _ _ _ h => h) (Or.inl ⟨by rfl, ?_⟩) (by first | exact hHeld | assumption) ?_
      rotate_left 1
      · intro w hSw; (try dsimp only at hSw); go_simp; try (with_reducible rfl)
      try simp only [Act.put, List.setIfInBounds_toArray, List.set_cons_zero, List.set_cons_succ]
      refine wpAnyH_take (i := 11) (oi := { dst := some 159, op := Op.move (Operand.tmp 158), type := 4, pos := "law.go:79", after := #[{ on := 10, ground := Ground.data }, { on := 6, ground := Ground.chain }], guard := none }) (v := ?_) rfl (by kernel_rfl) (by kernel_rfl) (by kernel_rfl) (fun _ _ _ h => h) (Or.inl ⟨by rfl, ?_⟩) (by first | exact hHeld | assumption) ?_
      rotate_left 1
      · intro w hSw; (try dsimp only at hSw); go_simp; try (with_reducible rfl)
      try simp only [Act.put, List.setIfInBounds_toArray, List.set_cons_zero, List.set_cons_succ]
      refine wpAnyH_take (i := 12) (oi := { dst := some 160, op := Op.load 36 (Operand.tmp 8), type := 36, pos := "law.go:79", after := #[{ on := 11, ground := Ground.guard }], guard := some (11, true) }) rfl (by kernel_rfl) (by kernel_rfl) (by kernel_rfl) (fun _ _ _ h => h) (st_yield (by kernel_rfl) _ rfl (g := gp) (X := (saM l)) rfl (fun u hu => (hu.get (g := gp) (cs := stC (saM l)) (t := 36) (by simp)))) (by exact hHeld) ?_
      try simp only [Act.put, List.setIfInBounds_toArray, List.set_cons_zero, List.set_cons_succ]
      refine wpAnyH_take (i := 13) (oi := { dst := some 161, op := Op.move (Operand.tmp 1), type := 3, pos := "law.go:79", after := #[{ on := 11, ground := Ground.guard }], guard := some (11, true) }) (v := ?_) rfl (by kernel_rfl) (by kernel_rfl) (by kernel_rfl) (fun _ _ _ h => h) (Or.inl ⟨by rfl, ?_⟩) (by first | exact hHeld | assumption) ?_
      rotate_left 1
      · intro w hSw; (try dsimp only at hSw); go_simp; try (with_reducible rfl)
      try simp only [Act.put, List.setIfInBounds_toArray, List.set_cons_zero, List.set_cons_succ]
      refine wpAnyH_take (i := 14) (oi := { dst := some 162, op := Op.move (Operand.tmp 2), type := 3, pos := "law.go:79", after := #[{ on := 11, ground := Ground.guard }], guard := some (11, true) }) (v := ?_) rfl (by kernel_rfl) (by kernel_rfl) (by kernel_rfl) (fun _ _ _ h => h) (Or.inl ⟨by rfl, ?_⟩) (by first | exact hHeld | assumption) ?_
      rotate_left 1
      · intro w hSw; (try dsimp only at hSw); go_simp; try (with_reducible rfl)
      try simp only [Act.put, List.setIfInBounds_toArray, List.set_cons_zero, List.set_cons_succ]
      refine wpAnyH_take (i := 16) (oi := { dst := some 164, op := Op.load 36 (Operand.tmp 9), type := 36, pos := "law.go:79", after := #[{ on := 11, ground := Ground.guard }], guard := some (11, true) }) rfl (by kernel_rfl) (by kernel_rfl) (by kernel_rfl) (fun _ _ _ h => h) (st_yield (by kernel_rfl) _ rfl (g := gr) (X := (saM l)) rfl (fun u hu => (hu.get (g := gr) (cs := stC (saM l)) (t := 36) (by simp)))) (by exact hHeld) ?_
      try simp only [Act.put, List.setIfInBounds_toArray, List.set_cons_zero, List.set_cons_succ]
      refine wpAnyH_take (i := 17) (oi := { dst := some 165, op := Op.move (Operand.tmp 1), type := 3, pos := "law.go:79", after := #[{ on := 11, ground := Ground.guard }], guard := some (11, true) }) (v := ?_) rfl (by kernel_rfl) (by kernel_rfl) (by kernel_rfl) (fun _ _ _ h => h) (Or.inl ⟨by rfl, ?_⟩) (by first | exact hHeld | assumption) ?_
      rotate_left 1
      · intro w hSw; (try dsimp only at hSw); go_simp; try (with_reducible rfl)
      try simp only [Act.put, List.setIfInBounds_toArray, List.set_cons_zero, List.set_cons_succ]
      refine wpAnyH_take (i := 18) (oi := { dst := some 166, op := Op.move (Operand.tmp 2), type := 3, pos := "law.go:79", after := #[{ on := 11, ground := Ground.guard }], guard := some (11, true) }) (v := ?_) rfl (by kernel_rfl) (by kernel_rfl) (by kernel_rfl) (fun _ _ _ h => h) (Or.inl ⟨by rfl, ?_⟩) (by first | exact hHeld | assumption) ?_
      rotate_left 1
      · intro w hSw; (try dsimp only at hSw); go_simp; try (with_reducible rfl)
      try simp only [Act.put, List.setIfInBounds_toArray, List.set_cons_zero, List.set_cons_succ]
      refine wpAnyH_ready (rs := [15]) (by kernel_rfl) (by simp) ?_
      refine AllReadyH.cons (o := { dst := some 163, op := Op.call { callee := Callee.value (Operand.func 23), args := #[Operand.tmp 160, Operand.tmp 161, Operand.tmp 162], argTypes := #[36, 3, 3] }, type := 4, pos := "law.go:79", after := #[{ on := 12, ground := Ground.data }, { on := 13, ground := Ground.data }, { on := 14, ground := Ground.data }, { on := 11, ground := Ground.chain }, { on := 11, ground := Ground.guard }], guard := some (11, true) }) rfl (fun K hK => ?_) AllReadyH.nil
      go_simp
      refine (FU.out _).mono ?_; rintro e u1 ⟨rfl, b1⟩
      replace Y := Lib.hid (Y.out.after b1)
      clear b1
      go_wp2_with fail
      refine hK.out _ _ Y.out (fun hHeld => ?_)
      clear hK K
      try simp only [Act.put, List.setIfInBounds_toArray, List.set_cons_zero, List.set_cons_succ]
      refine wpAnyH_ready (rs := [19]) (by kernel_rfl) (by simp) ?_
      refine AllReadyH.cons (o := { dst := some 167, op := Op.call { callee := Callee.value (Operand.func 24), args := #[Operand.tmp 164, Operand.tmp 165, Operand.tmp 166], argTypes := #[36, 3, 3] }, type := 4, pos := "law.go:79", after := #[{ on := 16, ground := Ground.data }, { on := 17, ground := Ground.data }, { on := 18, ground := Ground.data }, { on := 15, ground := Ground.chain }, { on := 11, ground := Ground.guard }], guard := some (11, true) }) rfl (fun K hK => ?_) AllReadyH.nil
      go_simp
      refine (RF.out _).mono ?_; rintro e u1 ⟨rfl, b1⟩
      replace Y := Lib.hid (Y.out.after b1)
      clear b1
      go_wp2_with fail
      refine hK.out _ _ Y.out (fun hHeld => ?_)
      clear hK K
      try simp only [Act.put, List.setIfInBounds_toArray, List.set_cons_zero, List.set_cons_succ]
      refine wpAnyH_take (i := 20) (oi := { dst := some 168, op := Op.binOp BinOp.eql 4 (Operand.tmp 163) (Operand.tmp 167) 4, type := 4, pos := "law.go:79", after := #[{ on := 15, ground := Ground.data }, { on := 19, ground := Ground.data }, { on := 11, ground := Ground.guard }], guard := some (11, true) }) (v := ?_) rfl (by kernel_rfl) (by kernel_rfl) (by kernel_rfl) (fun _ _ _ h => h) (Or.inl ⟨by rfl, ?_⟩) (by first | exact hHeld | assumption) ?_
      rotate_left 1
      · intro w hSw; (try dsimp only at hSw); go_simp; try (with_reducible rfl)
      try simp only [Act.put, List.setIfInBounds_toArray, List.set_cons_zero, List.set_cons_succ]
      refine wpAnyH_take (i := 21) (oi := { dst := some 169, op := Op.pick (Operand.tmp 159) (Operand.tmp 168) (Operand.const (Value.bool false)), type := 4, pos := "law.go:79", after := #[{ on := 11, ground := Ground.data }, { on := 20, ground := Ground.data }], guard := none }) (v := ?_) rfl (by kernel_rfl) (by kernel_rfl) (by kernel_rfl) (fun _ _ _ h => h) (Or.inl ⟨by rfl, ?_⟩) (by first | exact hHeld | assumption) ?_
      rotate_left 1
      · intro w hSw; (try dsimp only at hSw); go_simp; try (with_reducible rfl)
      try simp only [Act.put, List.setIfInBounds_toArray, List.set_cons_zero, List.set_cons_succ]
      refine wpAnyH_take (i := 22) (oi := { dst := some 6, op := Op.assign (Operand.tmp 169), type := 4, pos := "law.go:79", after := #[{ on := 21, ground := Ground.data }, { on := 19, ground := Ground.chain }, { on := 0, ground := Ground.phase }, { on := 1, ground := Ground.phase }, { on := 2, ground := Ground.phase }, { on := 3, ground := Ground.phase }, { on := 4, ground := Ground.phase }, { on := 5, ground := Ground.phase }, { on := 6, ground := Ground.phase }, { on := 7, ground := Ground.phase }, { on := 8, ground := Ground.phase }, { on := 9, ground := Ground.phase }, { on := 10, ground := Ground.phase }, { on := 11, ground := Ground.phase }, { on := 12, ground := Ground.phase }, { on := 13, ground := Ground.phase }, { on := 14, ground := Ground.phase }, { on := 15, ground := Ground.phase }, { on := 16, ground := Ground.phase }, { on := 17, ground := Ground.phase }, { on := 18, ground := Ground.phase }, { on := 19, ground := Ground.phase }, { on := 20, ground := Ground.phase }, { on := 21, ground := Ground.phase }], guard := none }) (v := ?_) rfl (by kernel_rfl) (by kernel_rfl) (by kernel_rfl) (fun _ _ _ h => h) (Or.inl ⟨by rfl, ?_⟩) (by first | exact hHeld | assumption) ?_
      rotate_left 1
      · intro w hSw; (try dsimp only at hSw); go_simp; try (with_reducible rfl)
      try simp only [Act.put, List.setIfInBounds_toArray, List.set_cons_zero, List.set_cons_succ]
      refine wpAnyH_done (by kernel_rfl) ?_ _
      go_wp2_with fail
      go_ret
      exact ⟨rfl, Y.out.1⟩

end Go.Proofs.Ytdgckjkdimnpoaa

namespace Go.Proofs.Ytdgckjkdimnpoaa
open Go.ChangeShapes Go.WideShapes Go.ChangeAt Go.RowKit
set_option linter.unusedVariables false

set_option maxRecDepth 100000 in
theorem splays_lifted (os : Os) (started : os.Started) (H : Type) (enc : TypeId × Value → H) :
    ReturnsInHanded {} Try.checked os 4 .any (Rows.statePlaysSpec.pre6 enc Try.prog Try.f4 Rows.statePlaysRow.domain false) (Rows.statePlaysSpec.post enc Try.prog Try.f4 false true false false) := by
  refine law_lifted (C := Try.checked) own_none started (by kernel_rfl) Try.func4
    (ChangeSpec.witness6 (enc := enc) (C := Try.checked) false ⟨#[], #[.slice none 0 0, .int .i64 0, .int .i64 0], []⟩ 8 (by kernel_rfl) (by kernel_rfl) (by kernel_rfl) (by kernel_rfl))
    laid_out rfl rfl Try.underlying4 (by kernel_rfl) (fun ds hd => by match ds, hd with | [d1, d2, d3], _ => rfl) ?_
  intro W base args ds p hval hA
  rw [Try.params4] at hval hA
  obtain ⟨v0, v1, v2, d0, d1, d2, p0, p1, p2, rfl, rfl, rfl, h0, h1, h2⟩ := trodAll_three hA
  obtain ⟨A, c, l, rfl, wl, vl, hc, hm⟩ := open_sacts (hval 0 _ _ rfl rfl) h0
  obtain ⟨off, rfl, _, _, woff⟩ := open_int Try.underlying3 (hval 1 _ _ rfl rfl) h1
  obtain ⟨size, rfl, _, _, wsize⟩ := open_int Try.underlying3 (hval 2 _ _ rfl rfl) h2
  exact splays_walk A c l off size W wl vl hc hm (bounds_i64 woff) (bounds_i64 wsize)

theorem splays_holds : Rows.StatePlaysSaid :=
  OpenClaim.holds_of_wide 4 Try.f4 rfl rfl rfl rfl rfl rfl rfl ⟨rfl, rfl, rfl, rfl, rfl⟩ rfl rfl rfl rfl rfl (by kernel_rfl) Try.func4 (by kernel_rfl)
    (of_decide_eq_true (by kernel_rfl)) (by unfold Func.isWrapper; first | (rw [if_pos (by decide +kernel)]; kernel_rfl) | (rw [if_neg (by decide +kernel)]; exact ⟨rfl, rfl⟩))
    (fun os started H enc _ => splays_lifted os started H enc)

#print axioms splays_holds
end Go.Proofs.Ytdgckjkdimnpoaa
