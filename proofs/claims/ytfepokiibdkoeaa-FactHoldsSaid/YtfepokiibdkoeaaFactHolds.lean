/-
  P6.4: numbers of which a condition holds may be what If tells, and that is within what was known; the walk.
  Conditions: none.
-/
import Derived.Test.YtfepokiibdkoeaaFactTwoMade
import Derived.Test.YtfepokiibdkoeaaAllD1
import Derived.Test.YtfepokiibdkoeaaFactNarrowMath
import Derived.Deep.RegionHeld3
import Derived.Deep.DeepCutAuto
namespace Go.Proofs.Ytfepokiibdkoeaa
open Go.RowKit
set_option linter.unusedVariables false

set_option maxRecDepth 100000 in
set_option maxHeartbeats 32000000 in
theorem fholds_no (op : Int) (wide : Bool) (n0 n1 n2 n3 n4 n5 n6 n7 : BitVec 64) (a b x y : Fc) (c : Bool) (k : Int) (w : World)
    (M1 : Hid (∀ w, Calls Try.prog 35 #[uV n0, uV n1, uV n2, uV n3] w (Gives (fV a) w)))
    (M2 : Hid (∀ w, Calls Try.prog 35 #[uV n4, uV n5, uV n6, uV n7] w (Gives (fV b) w)))
    (D : Hid (∀ w, Calls Try.prog 33 #[.int .u8 op, .bool wide, fV a, fV b] w (Gives (.tuple #[fV x, fV y, .bool false]) w)))
    (R : Hid (∀ w, Calls Try.prog 37 #[.int .u8 op, .bool wide, uV n0, uV n4] w (Gives (.tuple #[.bool c, .int .i64 k]) w)))
    (hc : (c = false ∧ k = 1) ∨ (c = false ∧ k = 0)) :
    Calls Try.prog 8 #[.int .u8 op, .bool wide, .agg #[uV n0, uV n1, uV n2, uV n3, uV n4, uV n5, uV n6, uV n7]] w (Fine w) := by
  have hx := Lib.hid ((Blks.start w).new #[uV n0, uV n1, uV n2, uV n3, uV n4, uV n5, uV n6, uV n7] 51)
  go_enter Try.func8, Try.ntmps8
  go_wp2_with fail
  refine (fact_shown _).mono ?_; rintro e w1 ⟨rfl, b1⟩
  have x1 := hx.out.after b1
  clear hx b1
  go_upto_region 2 with fail
  generalize w1 = w2 at *
  have x2 := Lib.hid x1
  clear x1
  go_cut [8, 9] (fun s1 s2 wx => ∃ ga gb, s1 = .pointer (some ⟨ga, 0, none⟩) ∧ s2 = .pointer (some ⟨gb, 0, none⟩) ∧ Hid (Blks w [(w.heap.size, #[uV n0, uV n1, uV n2, uV n3, uV n4, uV n5, uV n6, uV n7], 51)] wx ∧ fB ga a wx ∧ fB gb b wx))
  case first =>
    have HB : Below w2.heap.size w2 w2.drew := Below.drew (Below.refl _ _)
    have HA1 : Below w2.heap.size w2 ((w2.alloc (.cells #[.int .u64 0, .int .u64 0, .int .u64 0, .int .u64 0] 28)).drew) := Below.drew (below_alloc (Below.refl _ _) _)
    have HA2 : Below w2.heap.size w2 (((w2.alloc (.cells #[.int .u64 0, .int .u64 0, .int .u64 0, .int .u64 0] 28)).alloc (.cells #[.int .u64 0, .int .u64 0, .int .u64 0, .int .u64 0] 28)).drew) := Below.drew (below_alloc (below_alloc (Below.refl _ _) _) _)
    have KK : Hid (∀ wx : World, Below w2.heap.size w2 wx → (wx.cell? ⟨w.heap.size, 0, none⟩ = some (uV n0) ∧ wx.cell? ⟨w.heap.size, 1, none⟩ = some (uV n1) ∧ wx.cell? ⟨w.heap.size, 2, none⟩ = some (uV n2) ∧ wx.cell? ⟨w.heap.size, 3, none⟩ = some (uV n3) ∧ wx.cell? ⟨w.heap.size, 4, none⟩ = some (uV n4) ∧ wx.cell? ⟨w.heap.size, 5, none⟩ = some (uV n5) ∧ wx.cell? ⟨w.heap.size, 6, none⟩ = some (uV n6) ∧ wx.cell? ⟨w.heap.size, 7, none⟩ = some (uV n7))) := Lib.hid fun wx hx => ⟨Blk.cell ((x2.out.after hx).one.1) 0, Blk.cell ((x2.out.after hx).one.1) 1, Blk.cell ((x2.out.after hx).one.1) 2, Blk.cell ((x2.out.after hx).one.1) 3, Blk.cell ((x2.out.after hx).one.1) 4, Blk.cell ((x2.out.after hx).one.1) 5, Blk.cell ((x2.out.after hx).one.1) 6, Blk.cell ((x2.out.after hx).one.1) 7⟩
    refine wp_region_held_drew (S := (fun w' => w'.cell? ⟨w.heap.size, 0, none⟩ = some (uV n0) ∧ w'.cell? ⟨w.heap.size, 1, none⟩ = some (uV n1) ∧ w'.cell? ⟨w.heap.size, 2, none⟩ = some (uV n2) ∧ w'.cell? ⟨w.heap.size, 3, none⟩ = some (uV n3) ∧ w'.cell? ⟨w.heap.size, 4, none⟩ = some (uV n4) ∧ w'.cell? ⟨w.heap.size, 5, none⟩ = some (uV n5) ∧ w'.cell? ⟨w.heap.size, 6, none⟩ = some (uV n6) ∧ w'.cell? ⟨w.heap.size, 7, none⟩ = some (uV n7))) (by kernel_rfl) (KK.out _ HB) (fun hHeld => ?_)
    refine wpAnyH_take (i := 0) (oi := { dst := some 16, op := Op.indexAddr 51 (Operand.tmp 5) (Operand.const (Value.int IntKind.i64 0)), type := 0, pos := "law.go:92", after := #[], guard := none }) (v := ?_) rfl (by kernel_rfl) (by kernel_rfl) (by kernel_rfl) (fun _ _ _ h => h) (Or.inl ⟨by rfl, ?_⟩) (by assumption) ?_
    rotate_left 1
    · intro w hSw; (try dsimp only at hSw); go_simp; try (with_reducible rfl)
    try simp only [Act.put, List.setIfInBounds_toArray, List.set_cons_zero, List.set_cons_succ]
    refine wpAnyH_take (i := 1) (oi := { dst := some 17, op := Op.load 22 (Operand.tmp 16), type := 22, pos := "law.go:92", after := #[{ on := 0, ground := Ground.data }], guard := none }) (v := ?_) rfl (by kernel_rfl) (by kernel_rfl) (by kernel_rfl) (fun _ _ _ h => h) (Or.inl ⟨by rfl, ?_⟩) (by assumption) ?_
    rotate_left 1
    · intro w hSw; (try dsimp only at hSw); go_simp; try (with_reducible rfl)
    try simp only [Act.put, List.setIfInBounds_toArray, List.set_cons_zero, List.set_cons_succ]
    refine wpAnyH_take (i := 2) (oi := { dst := some 18, op := Op.indexAddr 51 (Operand.tmp 5) (Operand.const (Value.int IntKind.i64 1)), type := 0, pos := "law.go:92", after := #[], guard := none }) (v := ?_) rfl (by kernel_rfl) (by kernel_rfl) (by kernel_rfl) (fun _ _ _ h => h) (Or.inl ⟨by rfl, ?_⟩) (by assumption) ?_
    rotate_left 1
    · intro w hSw; (try dsimp only at hSw); go_simp; try (with_reducible rfl)
    try simp only [Act.put, List.setIfInBounds_toArray, List.set_cons_zero, List.set_cons_succ]
    refine wpAnyH_take (i := 3) (oi := { dst := some 19, op := Op.load 22 (Operand.tmp 18), type := 22, pos := "law.go:92", after := #[{ on := 2, ground := Ground.data }], guard := none }) (v := ?_) rfl (by kernel_rfl) (by kernel_rfl) (by kernel_rfl) (fun _ _ _ h => h) (Or.inl ⟨by rfl, ?_⟩) (by assumption) ?_
    rotate_left 1
    · intro w hSw; (try dsimp only at hSw); go_simp; try (with_reducible rfl)
    try simp only [Act.put, List.setIfInBounds_toArray, List.set_cons_zero, List.set_cons_succ]
    refine wpAnyH_take (i := 4) (oi := { dst := some 20, op := Op.indexAddr 51 (Operand.tmp 5) (Operand.const (Value.int IntKind.i64 2)), type := 0, pos := "law.go:92", after := #[], guard := none }) (v := ?_) rfl (by kernel_rfl) (by kernel_rfl) (by kernel_rfl) (fun _ _ _ h => h) (Or.inl ⟨by rfl, ?_⟩) (by assumption) ?_
    rotate_left 1
    · intro w hSw; (try dsimp only at hSw); go_simp; try (with_reducible rfl)
    try simp only [Act.put, List.setIfInBounds_toArray, List.set_cons_zero, List.set_cons_succ]
    refine wpAnyH_take (i := 5) (oi := { dst := some 21, op := Op.load 22 (Operand.tmp 20), type := 22, pos := "law.go:92", after := #[{ on := 4, ground := Ground.data }], guard := none }) (v := ?_) rfl (by kernel_rfl) (by kernel_rfl) (by kernel_rfl) (fun _ _ _ h => h) (Or.inl ⟨by rfl, ?_⟩) (by assumption) ?_
    rotate_left 1
    · intro w hSw; (try dsimp only at hSw); go_simp; try (with_reducible rfl)
    try simp only [Act.put, List.setIfInBounds_toArray, List.set_cons_zero, List.set_cons_succ]
    refine wpAnyH_take (i := 6) (oi := { dst := some 22, op := Op.indexAddr 51 (Operand.tmp 5) (Operand.const (Value.int IntKind.i64 3)), type := 0, pos := "law.go:92", after := #[], guard := none }) (v := ?_) rfl (by kernel_rfl) (by kernel_rfl) (by kernel_rfl) (fun _ _ _ h => h) (Or.inl ⟨by rfl, ?_⟩) (by assumption) ?_
    rotate_left 1
    · intro w hSw; (try dsimp only at hSw); go_simp; try (with_reducible rfl)
    try simp only [Act.put, List.setIfInBounds_toArray, List.set_cons_zero, List.set_cons_succ]
    refine wpAnyH_take (i := 7) (oi := { dst := some 23, op := Op.load 22 (Operand.tmp 22), type := 22, pos := "law.go:92", after := #[{ on := 6, ground := Ground.data }], guard := none }) (v := ?_) rfl (by kernel_rfl) (by kernel_rfl) (by kernel_rfl) (fun _ _ _ h => h) (Or.inl ⟨by rfl, ?_⟩) (by assumption) ?_
    rotate_left 1
    · intro w hSw; (try dsimp only at hSw); go_simp; try (with_reducible rfl)
    try simp only [Act.put, List.setIfInBounds_toArray, List.set_cons_zero, List.set_cons_succ]
    refine wpAnyH_take (i := 9) (oi := { dst := some 25, op := Op.indexAddr 51 (Operand.tmp 5) (Operand.const (Value.int IntKind.i64 4)), type := 0, pos := "law.go:92", after := #[], guard := none }) (v := ?_) rfl (by kernel_rfl) (by kernel_rfl) (by kernel_rfl) (fun _ _ _ h => h) (Or.inl ⟨by rfl, ?_⟩) (by assumption) ?_
    rotate_left 1
    · intro w hSw; (try dsimp only at hSw); go_simp; try (with_reducible rfl)
    try simp only [Act.put, List.setIfInBounds_toArray, List.set_cons_zero, List.set_cons_succ]
    refine wpAnyH_take (i := 10) (oi := { dst := some 26, op := Op.load 22 (Operand.tmp 25), type := 22, pos := "law.go:92", after := #[{ on := 9, ground := Ground.data }], guard := none }) (v := ?_) rfl (by kernel_rfl) (by kernel_rfl) (by kernel_rfl) (fun _ _ _ h => h) (Or.inl ⟨by rfl, ?_⟩) (by assumption) ?_
    rotate_left 1
    · intro w hSw; (try dsimp only at hSw); go_simp; try (with_reducible rfl)
    try simp only [Act.put, List.setIfInBounds_toArray, List.set_cons_zero, List.set_cons_succ]
    refine wpAnyH_take (i := 11) (oi := { dst := some 27, op := Op.indexAddr 51 (Operand.tmp 5) (Operand.const (Value.int IntKind.i64 5)), type := 0, pos := "law.go:92", after := #[], guard := none }) (v := ?_) rfl (by kernel_rfl) (by kernel_rfl) (by kernel_rfl) (fun _ _ _ h => h) (Or.inl ⟨by rfl, ?_⟩) (by assumption) ?_
    rotate_left 1
    · intro w hSw; (try dsimp only at hSw); go_simp; try (with_reducible rfl)
    try simp only [Act.put, List.setIfInBounds_toArray, List.set_cons_zero, List.set_cons_succ]
    refine wpAnyH_take (i := 12) (oi := { dst := some 28, op := Op.load 22 (Operand.tmp 27), type := 22, pos := "law.go:92", after := #[{ on := 11, ground := Ground.data }], guard := none }) (v := ?_) rfl (by kernel_rfl) (by kernel_rfl) (by kernel_rfl) (fun _ _ _ h => h) (Or.inl ⟨by rfl, ?_⟩) (by assumption) ?_
    rotate_left 1
    · intro w hSw; (try dsimp only at hSw); go_simp; try (with_reducible rfl)
    try simp only [Act.put, List.setIfInBounds_toArray, List.set_cons_zero, List.set_cons_succ]
    refine wpAnyH_take (i := 13) (oi := { dst := some 29, op := Op.indexAddr 51 (Operand.tmp 5) (Operand.const (Value.int IntKind.i64 6)), type := 0, pos := "law.go:92", after := #[], guard := none }) (v := ?_) rfl (by kernel_rfl) (by kernel_rfl) (by kernel_rfl) (fun _ _ _ h => h) (Or.inl ⟨by rfl, ?_⟩) (by assumption) ?_
    rotate_left 1
    · intro w hSw; (try dsimp only at hSw); go_simp; try (with_reducible rfl)
    try simp only [Act.put, List.setIfInBounds_toArray, List.set_cons_zero, List.set_cons_succ]
    refine wpAnyH_take (i := 14) (oi := { dst := some 30, op := Op.load 22 (Operand.tmp 29), type := 22, pos := "law.go:92", after := #[{ on := 13, ground := Ground.data }], guard := none }) (v := ?_) rfl (by kernel_rfl) (by kernel_rfl) (by kernel_rfl) (fun _ _ _ h => h) (Or.inl ⟨by rfl, ?_⟩) (by assumption) ?_
    rotate_left 1
    · intro w hSw; (try dsimp only at hSw); go_simp; try (with_reducible rfl)
    try simp only [Act.put, List.setIfInBounds_toArray, List.set_cons_zero, List.set_cons_succ]
    refine wpAnyH_take (i := 15) (oi := { dst := some 31, op := Op.indexAddr 51 (Operand.tmp 5) (Operand.const (Value.int IntKind.i64 7)), type := 0, pos := "law.go:92", after := #[], guard := none }) (v := ?_) rfl (by kernel_rfl) (by kernel_rfl) (by kernel_rfl) (fun _ _ _ h => h) (Or.inl ⟨by rfl, ?_⟩) (by assumption) ?_
    rotate_left 1
    · intro w hSw; (try dsimp only at hSw); go_simp; try (with_reducible rfl)
    try simp only [Act.put, List.setIfInBounds_toArray, List.set_cons_zero, List.set_cons_succ]
    refine wpAnyH_take (i := 16) (oi := { dst := some 32, op := Op.load 22 (Operand.tmp 31), type := 22, pos := "law.go:92", after := #[{ on := 15, ground := Ground.data }], guard := none }) (v := ?_) rfl (by kernel_rfl) (by kernel_rfl) (by kernel_rfl) (fun _ _ _ h => h) (Or.inl ⟨by rfl, ?_⟩) (by assumption) ?_
    rotate_left 1
    · intro w hSw; (try dsimp only at hSw); go_simp; try (with_reducible rfl)
    try simp only [Act.put, List.setIfInBounds_toArray, List.set_cons_zero, List.set_cons_succ]
    refine wpAnyH_ready (rs := [8, 18, 19]) (by kernel_rfl) (by simp) ?_
    refine AllReadyH.cons (o := { dst := some 24, op := Op.call { callee := Callee.value (Operand.func 35), args := #[Operand.tmp 17, Operand.tmp 19, Operand.tmp 21, Operand.tmp 23], argTypes := #[22, 22, 22, 22] }, type := 28, pos := "law.go:92", after := #[{ on := 1, ground := Ground.data }, { on := 3, ground := Ground.data }, { on := 5, ground := Ground.data }, { on := 7, ground := Ground.data }], guard := none }) rfl (fun K hK => ?_) (AllReadyH.cons (o := { dst := some 8, op := Op.alloc 28, type := 0, pos := "law.go:92", after := #[], guard := none }) rfl (fun K hK => ?_) (AllReadyH.cons (o := { dst := some 9, op := Op.alloc 28, type := 0, pos := "law.go:92", after := #[], guard := none }) rfl (fun K hK => ?_) AllReadyH.nil))
    · skip
      go_simp
      refine (M1.out _).mono ?_; rintro e w6 ⟨rfl, hb⟩
      replace HB := below_next' HB hb
      clear hb
      have mw6 := HB.size
      go_wp2_with fail
      refine hK.out _ _ (KK.out _ HB) (fun hHeld => ?_)
      clear hK K
      try simp only [Act.put, List.setIfInBounds_toArray, List.set_cons_zero, List.set_cons_succ]
      refine wpAnyH_ready (rs := [17, 18, 19]) (by kernel_rfl) (by simp) ?_
      refine AllReadyH.cons (o := { dst := some 33, op := Op.call { callee := Callee.value (Operand.func 35), args := #[Operand.tmp 26, Operand.tmp 28, Operand.tmp 30, Operand.tmp 32], argTypes := #[22, 22, 22, 22] }, type := 28, pos := "law.go:92", after := #[{ on := 10, ground := Ground.data }, { on := 12, ground := Ground.data }, { on := 14, ground := Ground.data }, { on := 16, ground := Ground.data }, { on := 8, ground := Ground.chain }], guard := none }) rfl (fun K hK => ?_) (AllReadyH.cons (o := { dst := some 8, op := Op.alloc 28, type := 0, pos := "law.go:92", after := #[], guard := none }) rfl (fun K hK => ?_) (AllReadyH.cons (o := { dst := some 9, op := Op.alloc 28, type := 0, pos := "law.go:92", after := #[], guard := none }) rfl (fun K hK => ?_) AllReadyH.nil))
      · skip
        go_simp
        refine (M2.out _).mono ?_; rintro e w7 ⟨rfl, hb⟩
        replace HB := below_next' HB hb
        clear hb
        have mw7 := HB.size
        go_wp2_with fail
        refine hK.out _ _ (KK.out _ HB) (fun hHeld => ?_)
        clear hK K
        try simp only [Act.put, List.setIfInBounds_toArray, List.set_cons_zero, List.set_cons_succ]
        refine wpAnyH_ready (rs := [18, 19]) (by kernel_rfl) (by simp) ?_
        refine AllReadyH.cons (o := { dst := some 8, op := Op.alloc 28, type := 0, pos := "law.go:92", after := #[], guard := none }) rfl (fun K hK => ?_) (AllReadyH.cons (o := { dst := some 9, op := Op.alloc 28, type := 0, pos := "law.go:92", after := #[], guard := none }) rfl (fun K hK => ?_) AllReadyH.nil)
        · skip
          go_simp
          refine hK.out _ _ (KK.out _ (below_alloc HB _)) (fun hHeld => ?_)
          clear hK K
          try simp only [Act.put, List.setIfInBounds_toArray, List.set_cons_zero, List.set_cons_succ]
          refine wpAnyH_ready (rs := [19]) (by kernel_rfl) (by simp) ?_
          refine AllReadyH.cons (o := { dst := some 9, op := Op.alloc 28, type := 0, pos := "law.go:92", after := #[], guard := none }) rfl (fun K hK => ?_) AllReadyH.nil
          · skip
            go_simp
            refine hK.out _ _ (KK.out _ (below_alloc (below_alloc HB _) _)) (fun hHeld => ?_)
            clear hK K
            try simp only [Act.put, List.setIfInBounds_toArray, List.set_cons_zero, List.set_cons_succ]
            refine wpAnyH_ready (rs := [20]) (by kernel_rfl) (by simp) ?_
            refine AllReadyH.cons (o := { dst := none, op := Op.store 28 (Operand.tmp 8) (Operand.tmp 24), type := 0, pos := "law.go:92", after := #[{ on := 18, ground := Ground.data }, { on := 8, ground := Ground.data }, { on := 17, ground := Ground.chain }, { on := 0, ground := Ground.phase }, { on := 1, ground := Ground.phase }, { on := 2, ground := Ground.phase }, { on := 3, ground := Ground.phase }, { on := 4, ground := Ground.phase }, { on := 5, ground := Ground.phase }, { on := 6, ground := Ground.phase }, { on := 7, ground := Ground.phase }, { on := 8, ground := Ground.phase }, { on := 9, ground := Ground.textOnly Departure.lateStores }, { on := 10, ground := Ground.textOnly Departure.lateStores }, { on := 11, ground := Ground.textOnly Departure.lateStores }, { on := 12, ground := Ground.textOnly Departure.lateStores }, { on := 13, ground := Ground.textOnly Departure.lateStores }, { on := 14, ground := Ground.textOnly Departure.lateStores }, { on := 15, ground := Ground.textOnly Departure.lateStores }, { on := 16, ground := Ground.textOnly Departure.lateStores }, { on := 17, ground := Ground.textOnly Departure.lateStoresUnsure }, { on := 18, ground := Ground.phase }, { on := 19, ground := Ground.phase }], guard := none }) rfl (fun K hK => ?_) AllReadyH.nil
            · skip
              go_simp
              refine hK.out _ _ (KK.out _ (below_alloc (below_alloc HB _) _)) (fun hHeld => ?_)
              clear hK K
              try simp only [Act.put, List.setIfInBounds_toArray, List.set_cons_zero, List.set_cons_succ]
              refine wpAnyH_ready (rs := [21]) (by kernel_rfl) (by simp) ?_
              refine AllReadyH.cons (o := { dst := none, op := Op.store 28 (Operand.tmp 9) (Operand.tmp 33), type := 0, pos := "law.go:92", after := #[{ on := 19, ground := Ground.data }, { on := 17, ground := Ground.data }, { on := 20, ground := Ground.chain }, { on := 0, ground := Ground.phase }, { on := 1, ground := Ground.phase }, { on := 2, ground := Ground.phase }, { on := 3, ground := Ground.phase }, { on := 4, ground := Ground.phase }, { on := 5, ground := Ground.phase }, { on := 6, ground := Ground.phase }, { on := 7, ground := Ground.phase }, { on := 8, ground := Ground.phase }, { on := 9, ground := Ground.phase }, { on := 10, ground := Ground.phase }, { on := 11, ground := Ground.phase }, { on := 12, ground := Ground.phase }, { on := 13, ground := Ground.phase }, { on := 14, ground := Ground.phase }, { on := 15, ground := Ground.phase }, { on := 16, ground := Ground.phase }, { on := 17, ground := Ground.phase }, { on := 18, ground := Ground.phase }, { on := 19, ground := Ground.phase }, { on := 20, ground := Ground.phase }], guard := none }) rfl (fun K hK => ?_) AllReadyH.nil
              · skip
                go_simp
                refine hK.out _ _ (KK.out _ (below_alloc (below_alloc HB _) _)) (fun hHeld => ?_)
                clear hK K
                try simp only [Act.put, List.setIfInBounds_toArray, List.set_cons_zero, List.set_cons_succ]
                refine wpAnyH_done (by kernel_rfl) ?_ _
                go_wp2_with fail
                go_meet
                exact ⟨_, _, rfl, rfl, Lib.hid ⟨x2.out.after (below_alloc (below_alloc HB _) _), (fB.alloc (fB.new _ a (by simp)) _), (fB.new _ b (by simp))⟩⟩
        · skip
          go_simp
          refine hK.out _ _ (KK.out _ (below_alloc HB _)) (fun hHeld => ?_)
          clear hK K
          try simp only [Act.put, List.setIfInBounds_toArray, List.set_cons_zero, List.set_cons_succ]
          refine wpAnyH_ready (rs := [18]) (by kernel_rfl) (by simp) ?_
          refine AllReadyH.cons (o := { dst := some 8, op := Op.alloc 28, type := 0, pos := "law.go:92", after := #[], guard := none }) rfl (fun K hK => ?_) AllReadyH.nil
          · skip
            go_simp
            refine hK.out _ _ (KK.out _ (below_alloc (below_alloc HB _) _)) (fun hHeld => ?_)
            clear hK K
            try simp only [Act.put, List.setIfInBounds_toArray, List.set_cons_zero, List.set_cons_succ]
            refine wpAnyH_ready (rs := [20]) (by kernel_rfl) (by simp) ?_
            refine AllReadyH.cons (o := { dst := none, op := Op.store 28 (Operand.tmp 8) (Operand.tmp 24), type := 0, pos := "law.go:92", after := #[{ on := 18, ground := Ground.data }, { on := 8, ground := Ground.data }, { on := 17, ground := Ground.chain }, { on := 0, ground := Ground.phase }, { on := 1, ground := Ground.phase }, { on := 2, ground := Ground.phase }, { on := 3, ground := Ground.phase }, { on := 4, ground := Ground.phase }, { on := 5, ground := Ground.phase }, { on := 6, ground := Ground.phase }, { on := 7, ground := Ground.phase }, { on := 8, ground := Ground.phase }, { on := 9, ground := Ground.textOnly Departure.lateStores }, { on := 10, ground := Ground.textOnly Departure.lateStores }, { on := 11, ground := Ground.textOnly Departure.lateStores }, { on := 12, ground := Ground.textOnly Departure.lateStores }, { on := 13, ground := Ground.textOnly Departure.lateStores }, { on := 14, ground := Ground.textOnly Departure.lateStores }, { on := 15, ground := Ground.textOnly Departure.lateStores }, { on := 16, ground := Ground.textOnly Departure.lateStores }, { on := 17, ground := Ground.textOnly Departure.lateStoresUnsure }, { on := 18, ground := Ground.phase }, { on := 19, ground := Ground.phase }], guard := none }) rfl (fun K hK => ?_) AllReadyH.nil
            · skip
              go_simp
              refine hK.out _ _ (KK.out _ (below_alloc (below_alloc HB _) _)) (fun hHeld => ?_)
              clear hK K
              try simp only [Act.put, List.setIfInBounds_toArray, List.set_cons_zero, List.set_cons_succ]
              refine wpAnyH_ready (rs := [21]) (by kernel_rfl) (by simp) ?_
              refine AllReadyH.cons (o := { dst := none, op := Op.store 28 (Operand.tmp 9) (Operand.tmp 33), type := 0, pos := "law.go:92", after := #[{ on := 19, ground := Ground.data }, { on := 17, ground := Ground.data }, { on := 20, ground := Ground.chain }, { on := 0, ground := Ground.phase }, { on := 1, ground := Ground.phase }, { on := 2, ground := Ground.phase }, { on := 3, ground := Ground.phase }, { on := 4, ground := Ground.phase }, { on := 5, ground := Ground.phase }, { on := 6, ground := Ground.phase }, { on := 7, ground := Ground.phase }, { on := 8, ground := Ground.phase }, { on := 9, ground := Ground.phase }, { on := 10, ground := Ground.phase }, { on := 11, ground := Ground.phase }, { on := 12, ground := Ground.phase }, { on := 13, ground := Ground.phase }, { on := 14, ground := Ground.phase }, { on := 15, ground := Ground.phase }, { on := 16, ground := Ground.phase }, { on := 17, ground := Ground.phase }, { on := 18, ground := Ground.phase }, { on := 19, ground := Ground.phase }, { on := 20, ground := Ground.phase }], guard := none }) rfl (fun K hK => ?_) AllReadyH.nil
              · skip
                go_simp
                refine hK.out _ _ (KK.out _ (below_alloc (below_alloc HB _) _)) (fun hHeld => ?_)
                clear hK K
                try simp only [Act.put, List.setIfInBounds_toArray, List.set_cons_zero, List.set_cons_succ]
                refine wpAnyH_done (by kernel_rfl) ?_ _
                go_wp2_with fail
                go_meet
                exact ⟨_, _, rfl, rfl, Lib.hid ⟨x2.out.after (below_alloc (below_alloc HB _) _), (fB.new _ a (by simp)), (fB.alloc (fB.new _ b (by simp)) _)⟩⟩
      · skip
        go_simp
        refine hK.out _ _ (KK.out _ (below_alloc HB _)) (fun hHeld => ?_)
        clear hK K
        try simp only [Act.put, List.setIfInBounds_toArray, List.set_cons_zero, List.set_cons_succ]
        refine wpAnyH_ready (rs := [17, 19]) (by kernel_rfl) (by simp) ?_
        refine AllReadyH.cons (o := { dst := some 33, op := Op.call { callee := Callee.value (Operand.func 35), args := #[Operand.tmp 26, Operand.tmp 28, Operand.tmp 30, Operand.tmp 32], argTypes := #[22, 22, 22, 22] }, type := 28, pos := "law.go:92", after := #[{ on := 10, ground := Ground.data }, { on := 12, ground := Ground.data }, { on := 14, ground := Ground.data }, { on := 16, ground := Ground.data }, { on := 8, ground := Ground.chain }], guard := none }) rfl (fun K hK => ?_) (AllReadyH.cons (o := { dst := some 9, op := Op.alloc 28, type := 0, pos := "law.go:92", after := #[], guard := none }) rfl (fun K hK => ?_) AllReadyH.nil)
        · skip
          go_simp
          refine (M2.out _).mono ?_; rintro e w7 ⟨rfl, hb⟩
          have Ta := nB.one hb
          replace HB := below_next' (below_alloc HB _) hb
          clear hb
          have mw7 := HB.size
          have law7 := Blk.lt Ta
          go_wp2_with fail
          obtain ⟨ta0, ta1, ta2, ta3⟩ := Ta.cells
          obtain ⟨fa0, fa1, fa2, fa3⟩ := Ta.free
          refine hK.out _ _ (KK.out _ HB) (fun hHeld => ?_)
          clear hK K
          try simp only [Act.put, List.setIfInBounds_toArray, List.set_cons_zero, List.set_cons_succ]
          refine wpAnyH_ready (rs := [19]) (by kernel_rfl) (by simp) ?_
          refine AllReadyH.cons (o := { dst := some 9, op := Op.alloc 28, type := 0, pos := "law.go:92", after := #[], guard := none }) rfl (fun K hK => ?_) AllReadyH.nil
          · skip
            go_simp
            refine hK.out _ _ (KK.out _ (below_alloc HB _)) (fun hHeld => ?_)
            clear hK K
            try simp only [Act.put, List.setIfInBounds_toArray, List.set_cons_zero, List.set_cons_succ]
            refine wpAnyH_ready (rs := [20]) (by kernel_rfl) (by simp) ?_
            refine AllReadyH.cons (o := { dst := none, op := Op.store 28 (Operand.tmp 8) (Operand.tmp 24), type := 0, pos := "law.go:92", after := #[{ on := 18, ground := Ground.data }, { on := 8, ground := Ground.data }, { on := 17, ground := Ground.chain }, { on := 0, ground := Ground.phase }, { on := 1, ground := Ground.phase }, { on := 2, ground := Ground.phase }, { on := 3, ground := Ground.phase }, { on := 4, ground := Ground.phase }, { on := 5, ground := Ground.phase }, { on := 6, ground := Ground.phase }, { on := 7, ground := Ground.phase }, { on := 8, ground := Ground.phase }, { on := 9, ground := Ground.textOnly Departure.lateStores }, { on := 10, ground := Ground.textOnly Departure.lateStores }, { on := 11, ground := Ground.textOnly Departure.lateStores }, { on := 12, ground := Ground.textOnly Departure.lateStores }, { on := 13, ground := Ground.textOnly Departure.lateStores }, { on := 14, ground := Ground.textOnly Departure.lateStores }, { on := 15, ground := Ground.textOnly Departure.lateStores }, { on := 16, ground := Ground.textOnly Departure.lateStores }, { on := 17, ground := Ground.textOnly Departure.lateStoresUnsure }, { on := 18, ground := Ground.phase }, { on := 19, ground := Ground.phase }], guard := none }) rfl (fun K hK => ?_) AllReadyH.nil
            · skip
              go_simp
              refine hK.out _ _ (KK.out _ (below_alloc (below_4v HB (by omega) _ _ _ _) _)) (fun hHeld => ?_)
              clear hK K
              try simp only [Act.put, List.setIfInBounds_toArray, List.set_cons_zero, List.set_cons_succ]
              refine wpAnyH_ready (rs := [21]) (by kernel_rfl) (by simp) ?_
              refine AllReadyH.cons (o := { dst := none, op := Op.store 28 (Operand.tmp 9) (Operand.tmp 33), type := 0, pos := "law.go:92", after := #[{ on := 19, ground := Ground.data }, { on := 17, ground := Ground.data }, { on := 20, ground := Ground.chain }, { on := 0, ground := Ground.phase }, { on := 1, ground := Ground.phase }, { on := 2, ground := Ground.phase }, { on := 3, ground := Ground.phase }, { on := 4, ground := Ground.phase }, { on := 5, ground := Ground.phase }, { on := 6, ground := Ground.phase }, { on := 7, ground := Ground.phase }, { on := 8, ground := Ground.phase }, { on := 9, ground := Ground.phase }, { on := 10, ground := Ground.phase }, { on := 11, ground := Ground.phase }, { on := 12, ground := Ground.phase }, { on := 13, ground := Ground.phase }, { on := 14, ground := Ground.phase }, { on := 15, ground := Ground.phase }, { on := 16, ground := Ground.phase }, { on := 17, ground := Ground.phase }, { on := 18, ground := Ground.phase }, { on := 19, ground := Ground.phase }, { on := 20, ground := Ground.phase }], guard := none }) rfl (fun K hK => ?_) AllReadyH.nil
              · skip
                go_simp
                refine hK.out _ _ (KK.out _ (below_alloc (below_4v HB (by omega) _ _ _ _) _)) (fun hHeld => ?_)
                clear hK K
                try simp only [Act.put, List.setIfInBounds_toArray, List.set_cons_zero, List.set_cons_succ]
                refine wpAnyH_done (by kernel_rfl) ?_ _
                go_wp2_with fail
                go_meet
                exact ⟨_, _, rfl, rfl, Lib.hid ⟨x2.out.after (below_alloc (below_4v HB (by omega) _ _ _ _) _), (fB.alloc (fB.set Ta.fB a) _), (fB.new _ b (by simp))⟩⟩
        · skip
          go_simp
          refine hK.out _ _ (KK.out _ (below_alloc (below_alloc HB _) _)) (fun hHeld => ?_)
          clear hK K
          try simp only [Act.put, List.setIfInBounds_toArray, List.set_cons_zero, List.set_cons_succ]
          refine wpAnyH_ready (rs := [17]) (by kernel_rfl) (by simp) ?_
          refine AllReadyH.cons (o := { dst := some 33, op := Op.call { callee := Callee.value (Operand.func 35), args := #[Operand.tmp 26, Operand.tmp 28, Operand.tmp 30, Operand.tmp 32], argTypes := #[22, 22, 22, 22] }, type := 28, pos := "law.go:92", after := #[{ on := 10, ground := Ground.data }, { on := 12, ground := Ground.data }, { on := 14, ground := Ground.data }, { on := 16, ground := Ground.data }, { on := 8, ground := Ground.chain }], guard := none }) rfl (fun K hK => ?_) AllReadyH.nil
          · skip
            go_simp
            refine (M2.out _).mono ?_; rintro e w7 ⟨rfl, hb⟩
            have TT := nB.two hb
            obtain ⟨Ta, Tb⟩ := TT
            replace HB := below_next' (below_alloc (below_alloc HB _) _) hb
            clear hb
            have mw7 := HB.size
            have law7 := Blk.lt Ta
            have lbw7 := Blk.lt Tb
            go_wp2_with fail
            obtain ⟨ta0, ta1, ta2, ta3⟩ := Ta.cells
            obtain ⟨fa0, fa1, fa2, fa3⟩ := Ta.free
            obtain ⟨tb0, tb1, tb2, tb3⟩ := Tb.cells
            obtain ⟨fb0, fb1, fb2, fb3⟩ := Tb.free
            refine hK.out _ _ (KK.out _ HB) (fun hHeld => ?_)
            clear hK K
            try simp only [Act.put, List.setIfInBounds_toArray, List.set_cons_zero, List.set_cons_succ]
            refine wpAnyH_ready (rs := [20]) (by kernel_rfl) (by simp) ?_
            refine AllReadyH.cons (o := { dst := none, op := Op.store 28 (Operand.tmp 8) (Operand.tmp 24), type := 0, pos := "law.go:92", after := #[{ on := 18, ground := Ground.data }, { on := 8, ground := Ground.data }, { on := 17, ground := Ground.chain }, { on := 0, ground := Ground.phase }, { on := 1, ground := Ground.phase }, { on := 2, ground := Ground.phase }, { on := 3, ground := Ground.phase }, { on := 4, ground := Ground.phase }, { on := 5, ground := Ground.phase }, { on := 6, ground := Ground.phase }, { on := 7, ground := Ground.phase }, { on := 8, ground := Ground.phase }, { on := 9, ground := Ground.textOnly Departure.lateStores }, { on := 10, ground := Ground.textOnly Departure.lateStores }, { on := 11, ground := Ground.textOnly Departure.lateStores }, { on := 12, ground := Ground.textOnly Departure.lateStores }, { on := 13, ground := Ground.textOnly Departure.lateStores }, { on := 14, ground := Ground.textOnly Departure.lateStores }, { on := 15, ground := Ground.textOnly Departure.lateStores }, { on := 16, ground := Ground.textOnly Departure.lateStores }, { on := 17, ground := Ground.textOnly Departure.lateStoresUnsure }, { on := 18, ground := Ground.phase }, { on := 19, ground := Ground.phase }], guard := none }) rfl (fun K hK => ?_) AllReadyH.nil
            · skip
              go_simp
              refine hK.out _ _ (KK.out _ (below_4v HB (by omega) _ _ _ _)) (fun hHeld => ?_)
              clear hK K
              try simp only [Act.put, List.setIfInBounds_toArray, List.set_cons_zero, List.set_cons_succ]
              refine wpAnyH_ready (rs := [21]) (by kernel_rfl) (by simp) ?_
              refine AllReadyH.cons (o := { dst := none, op := Op.store 28 (Operand.tmp 9) (Operand.tmp 33), type := 0, pos := "law.go:92", after := #[{ on := 19, ground := Ground.data }, { on := 17, ground := Ground.data }, { on := 20, ground := Ground.chain }, { on := 0, ground := Ground.phase }, { on := 1, ground := Ground.phase }, { on := 2, ground := Ground.phase }, { on := 3, ground := Ground.phase }, { on := 4, ground := Ground.phase }, { on := 5, ground := Ground.phase }, { on := 6, ground := Ground.phase }, { on := 7, ground := Ground.phase }, { on := 8, ground := Ground.phase }, { on := 9, ground := Ground.phase }, { on := 10, ground := Ground.phase }, { on := 11, ground := Ground.phase }, { on := 12, ground := Ground.phase }, { on := 13, ground := Ground.phase }, { on := 14, ground := Ground.phase }, { on := 15, ground := Ground.phase }, { on := 16, ground := Ground.phase }, { on := 17, ground := Ground.phase }, { on := 18, ground := Ground.phase }, { on := 19, ground := Ground.phase }, { on := 20, ground := Ground.phase }], guard := none }) rfl (fun K hK => ?_) AllReadyH.nil
              · skip
                go_simp
                refine hK.out _ _ (KK.out _ (below_4v (below_4v HB (by omega) _ _ _ _) (by omega) _ _ _ _)) (fun hHeld => ?_)
                clear hK K
                try simp only [Act.put, List.setIfInBounds_toArray, List.set_cons_zero, List.set_cons_succ]
                refine wpAnyH_done (by kernel_rfl) ?_ _
                go_wp2_with fail
                go_meet
                exact ⟨_, _, rfl, rfl, Lib.hid ⟨x2.out.after (below_4v (below_4v HB (by omega) _ _ _ _) (by omega) _ _ _ _), (fB.others (fB.set Ta.fB a) (by omega)), (fB.set (fB.others Tb.fB (by omega)) b)⟩⟩
      · skip
        go_simp
        refine hK.out _ _ (KK.out _ (below_alloc HB _)) (fun hHeld => ?_)
        clear hK K
        try simp only [Act.put, List.setIfInBounds_toArray, List.set_cons_zero, List.set_cons_succ]
        refine wpAnyH_ready (rs := [17, 18]) (by kernel_rfl) (by simp) ?_
        refine AllReadyH.cons (o := { dst := some 33, op := Op.call { callee := Callee.value (Operand.func 35), args := #[Operand.tmp 26, Operand.tmp 28, Operand.tmp 30, Operand.tmp 32], argTypes := #[22, 22, 22, 22] }, type := 28, pos := "law.go:92", after := #[{ on := 10, ground := Ground.data }, { on := 12, ground := Ground.data }, { on := 14, ground := Ground.data }, { on := 16, ground := Ground.data }, { on := 8, ground := Ground.chain }], guard := none }) rfl (fun K hK => ?_) (AllReadyH.cons (o := { dst := some 8, op := Op.alloc 28, type := 0, pos := "law.go:92", after := #[], guard := none }) rfl (fun K hK => ?_) AllReadyH.nil)
        · skip
          go_simp
          refine (M2.out _).mono ?_; rintro e w7 ⟨rfl, hb⟩
          have Tb := nB.one hb
          replace HB := below_next' (below_alloc HB _) hb
          clear hb
          have mw7 := HB.size
          have lbw7 := Blk.lt Tb
          go_wp2_with fail
          obtain ⟨tb0, tb1, tb2, tb3⟩ := Tb.cells
          obtain ⟨fb0, fb1, fb2, fb3⟩ := Tb.free
          refine hK.out _ _ (KK.out _ HB) (fun hHeld => ?_)
          clear hK K
          try simp only [Act.put, List.setIfInBounds_toArray, List.set_cons_zero, List.set_cons_succ]
          refine wpAnyH_ready (rs := [18]) (by kernel_rfl) (by simp) ?_
          refine AllReadyH.cons (o := { dst := some 8, op := Op.alloc 28, type := 0, pos := "law.go:92", after := #[], guard := none }) rfl (fun K hK => ?_) AllReadyH.nil
          · skip
            go_simp
            refine hK.out _ _ (KK.out _ (below_alloc HB _)) (fun hHeld => ?_)
            clear hK K
            try simp only [Act.put, List.setIfInBounds_toArray, List.set_cons_zero, List.set_cons_succ]
            refine wpAnyH_ready (rs := [20]) (by kernel_rfl) (by simp) ?_
            refine AllReadyH.cons (o := { dst := none, op := Op.store 28 (Operand.tmp 8) (Operand.tmp 24), type := 0, pos := "law.go:92", after := #[{ on := 18, ground := Ground.data }, { on := 8, ground := Ground.data }, { on := 17, ground := Ground.chain }, { on := 0, ground := Ground.phase }, { on := 1, ground := Ground.phase }, { on := 2, ground := Ground.phase }, { on := 3, ground := Ground.phase }, { on := 4, ground := Ground.phase }, { on := 5, ground := Ground.phase }, { on := 6, ground := Ground.phase }, { on := 7, ground := Ground.phase }, { on := 8, ground := Ground.phase }, { on := 9, ground := Ground.textOnly Departure.lateStores }, { on := 10, ground := Ground.textOnly Departure.lateStores }, { on := 11, ground := Ground.textOnly Departure.lateStores }, { on := 12, ground := Ground.textOnly Departure.lateStores }, { on := 13, ground := Ground.textOnly Departure.lateStores }, { on := 14, ground := Ground.textOnly Departure.lateStores }, { on := 15, ground := Ground.textOnly Departure.lateStores }, { on := 16, ground := Ground.textOnly Departure.lateStores }, { on := 17, ground := Ground.textOnly Departure.lateStoresUnsure }, { on := 18, ground := Ground.phase }, { on := 19, ground := Ground.phase }], guard := none }) rfl (fun K hK => ?_) AllReadyH.nil
            · skip
              go_simp
              refine hK.out _ _ (KK.out _ (below_alloc HB _)) (fun hHeld => ?_)
              clear hK K
              try simp only [Act.put, List.setIfInBounds_toArray, List.set_cons_zero, List.set_cons_succ]
              refine wpAnyH_ready (rs := [21]) (by kernel_rfl) (by simp) ?_
              refine AllReadyH.cons (o := { dst := none, op := Op.store 28 (Operand.tmp 9) (Operand.tmp 33), type := 0, pos := "law.go:92", after := #[{ on := 19, ground := Ground.data }, { on := 17, ground := Ground.data }, { on := 20, ground := Ground.chain }, { on := 0, ground := Ground.phase }, { on := 1, ground := Ground.phase }, { on := 2, ground := Ground.phase }, { on := 3, ground := Ground.phase }, { on := 4, ground := Ground.phase }, { on := 5, ground := Ground.phase }, { on := 6, ground := Ground.phase }, { on := 7, ground := Ground.phase }, { on := 8, ground := Ground.phase }, { on := 9, ground := Ground.phase }, { on := 10, ground := Ground.phase }, { on := 11, ground := Ground.phase }, { on := 12, ground := Ground.phase }, { on := 13, ground := Ground.phase }, { on := 14, ground := Ground.phase }, { on := 15, ground := Ground.phase }, { on := 16, ground := Ground.phase }, { on := 17, ground := Ground.phase }, { on := 18, ground := Ground.phase }, { on := 19, ground := Ground.phase }, { on := 20, ground := Ground.phase }], guard := none }) rfl (fun K hK => ?_) AllReadyH.nil
              · skip
                go_simp
                refine hK.out _ _ (KK.out _ (below_alloc (below_4v HB (by omega) _ _ _ _) _)) (fun hHeld => ?_)
                clear hK K
                try simp only [Act.put, List.setIfInBounds_toArray, List.set_cons_zero, List.set_cons_succ]
                refine wpAnyH_done (by kernel_rfl) ?_ _
                go_wp2_with fail
                go_meet
                exact ⟨_, _, rfl, rfl, Lib.hid ⟨x2.out.after (below_alloc (below_4v HB (by omega) _ _ _ _) _), (fB.new _ a (by simp)), (fB.alloc (fB.set Tb.fB b) _)⟩⟩
        · skip
          go_simp
          refine hK.out _ _ (KK.out _ (below_alloc (below_alloc HB _) _)) (fun hHeld => ?_)
          clear hK K
          try simp only [Act.put, List.setIfInBounds_toArray, List.set_cons_zero, List.set_cons_succ]
          refine wpAnyH_ready (rs := [17]) (by kernel_rfl) (by simp) ?_
          refine AllReadyH.cons (o := { dst := some 33, op := Op.call { callee := Callee.value (Operand.func 35), args := #[Operand.tmp 26, Operand.tmp 28, Operand.tmp 30, Operand.tmp 32], argTypes := #[22, 22, 22, 22] }, type := 28, pos := "law.go:92", after := #[{ on := 10, ground := Ground.data }, { on := 12, ground := Ground.data }, { on := 14, ground := Ground.data }, { on := 16, ground := Ground.data }, { on := 8, ground := Ground.chain }], guard := none }) rfl (fun K hK => ?_) AllReadyH.nil
          · skip
            go_simp
            refine (M2.out _).mono ?_; rintro e w7 ⟨rfl, hb⟩
            have TT := nB.two hb
            obtain ⟨Tb, Ta⟩ := TT
            replace HB := below_next' (below_alloc (below_alloc HB _) _) hb
            clear hb
            have mw7 := HB.size
            have lbw7 := Blk.lt Tb
            have law7 := Blk.lt Ta
            go_wp2_with fail
            obtain ⟨tb0, tb1, tb2, tb3⟩ := Tb.cells
            obtain ⟨fb0, fb1, fb2, fb3⟩ := Tb.free
            obtain ⟨ta0, ta1, ta2, ta3⟩ := Ta.cells
            obtain ⟨fa0, fa1, fa2, fa3⟩ := Ta.free
            refine hK.out _ _ (KK.out _ HB) (fun hHeld => ?_)
            clear hK K
            try simp only [Act.put, List.setIfInBounds_toArray, List.set_cons_zero, List.set_cons_succ]
            refine wpAnyH_ready (rs := [20]) (by kernel_rfl) (by simp) ?_
            refine AllReadyH.cons (o := { dst := none, op := Op.store 28 (Operand.tmp 8) (Operand.tmp 24), type := 0, pos := "law.go:92", after := #[{ on := 18, ground := Ground.data }, { on := 8, ground := Ground.data }, { on := 17, ground := Ground.chain }, { on := 0, ground := Ground.phase }, { on := 1, ground := Ground.phase }, { on := 2, ground := Ground.phase }, { on := 3, ground := Ground.phase }, { on := 4, ground := Ground.phase }, { on := 5, ground := Ground.phase }, { on := 6, ground := Ground.phase }, { on := 7, ground := Ground.phase }, { on := 8, ground := Ground.phase }, { on := 9, ground := Ground.textOnly Departure.lateStores }, { on := 10, ground := Ground.textOnly Departure.lateStores }, { on := 11, ground := Ground.textOnly Departure.lateStores }, { on := 12, ground := Ground.textOnly Departure.lateStores }, { on := 13, ground := Ground.textOnly Departure.lateStores }, { on := 14, ground := Ground.textOnly Departure.lateStores }, { on := 15, ground := Ground.textOnly Departure.lateStores }, { on := 16, ground := Ground.textOnly Departure.lateStores }, { on := 17, ground := Ground.textOnly Departure.lateStoresUnsure }, { on := 18, ground := Ground.phase }, { on := 19, ground := Ground.phase }], guard := none }) rfl (fun K hK => ?_) AllReadyH.nil
            · skip
              go_simp
              refine hK.out _ _ (KK.out _ (below_4v HB (by omega) _ _ _ _)) (fun hHeld => ?_)
              clear hK K
              try simp only [Act.put, List.setIfInBounds_toArray, List.set_cons_zero, List.set_cons_succ]
              refine wpAnyH_ready (rs := [21]) (by kernel_rfl) (by simp) ?_
              refine AllReadyH.cons (o := { dst := none, op := Op.store 28 (Operand.tmp 9) (Operand.tmp 33), type := 0, pos := "law.go:92", after := #[{ on := 19, ground := Ground.data }, { on := 17, ground := Ground.data }, { on := 20, ground := Ground.chain }, { on := 0, ground := Ground.phase }, { on := 1, ground := Ground.phase }, { on := 2, ground := Ground.phase }, { on := 3, ground := Ground.phase }, { on := 4, ground := Ground.phase }, { on := 5, ground := Ground.phase }, { on := 6, ground := Ground.phase }, { on := 7, ground := Ground.phase }, { on := 8, ground := Ground.phase }, { on := 9, ground := Ground.phase }, { on := 10, ground := Ground.phase }, { on := 11, ground := Ground.phase }, { on := 12, ground := Ground.phase }, { on := 13, ground := Ground.phase }, { on := 14, ground := Ground.phase }, { on := 15, ground := Ground.phase }, { on := 16, ground := Ground.phase }, { on := 17, ground := Ground.phase }, { on := 18, ground := Ground.phase }, { on := 19, ground := Ground.phase }, { on := 20, ground := Ground.phase }], guard := none }) rfl (fun K hK => ?_) AllReadyH.nil
              · skip
                go_simp
                refine hK.out _ _ (KK.out _ (below_4v (below_4v HB (by omega) _ _ _ _) (by omega) _ _ _ _)) (fun hHeld => ?_)
                clear hK K
                try simp only [Act.put, List.setIfInBounds_toArray, List.set_cons_zero, List.set_cons_succ]
                refine wpAnyH_done (by kernel_rfl) ?_ _
                go_wp2_with fail
                go_meet
                exact ⟨_, _, rfl, rfl, Lib.hid ⟨x2.out.after (below_4v (below_4v HB (by omega) _ _ _ _) (by omega) _ _ _ _), (fB.others (fB.set Ta.fB a) (by omega)), (fB.set (fB.others Tb.fB (by omega)) b)⟩⟩
    · skip
      go_simp
      refine hK.out _ _ (KK.out _ HA1) (fun hHeld => ?_)
      clear hK K
      try simp only [Act.put, List.setIfInBounds_toArray, List.set_cons_zero, List.set_cons_succ]
      refine wpAnyH_ready (rs := [8, 19]) (by kernel_rfl) (by simp) ?_
      refine AllReadyH.cons (o := { dst := some 24, op := Op.call { callee := Callee.value (Operand.func 35), args := #[Operand.tmp 17, Operand.tmp 19, Operand.tmp 21, Operand.tmp 23], argTypes := #[22, 22, 22, 22] }, type := 28, pos := "law.go:92", after := #[{ on := 1, ground := Ground.data }, { on := 3, ground := Ground.data }, { on := 5, ground := Ground.data }, { on := 7, ground := Ground.data }], guard := none }) rfl (fun K hK => ?_) (AllReadyH.cons (o := { dst := some 9, op := Op.alloc 28, type := 0, pos := "law.go:92", after := #[], guard := none }) rfl (fun K hK => ?_) AllReadyH.nil)
      · skip
        go_simp
        refine (M1.out _).mono ?_; rintro e w6 ⟨rfl, hb⟩
        have Ta := nB.oned hb
        replace HB := below_next' HA1 hb
        clear hb
        have mw6 := HB.size
        have law6 := Blk.lt Ta
        go_wp2_with fail
        refine hK.out _ _ (KK.out _ HB) (fun hHeld => ?_)
        clear hK K
        try simp only [Act.put, List.setIfInBounds_toArray, List.set_cons_zero, List.set_cons_succ]
        refine wpAnyH_ready (rs := [17, 19]) (by kernel_rfl) (by simp) ?_
        refine AllReadyH.cons (o := { dst := some 33, op := Op.call { callee := Callee.value (Operand.func 35), args := #[Operand.tmp 26, Operand.tmp 28, Operand.tmp 30, Operand.tmp 32], argTypes := #[22, 22, 22, 22] }, type := 28, pos := "law.go:92", after := #[{ on := 10, ground := Ground.data }, { on := 12, ground := Ground.data }, { on := 14, ground := Ground.data }, { on := 16, ground := Ground.data }, { on := 8, ground := Ground.chain }], guard := none }) rfl (fun K hK => ?_) (AllReadyH.cons (o := { dst := some 9, op := Op.alloc 28, type := 0, pos := "law.go:92", after := #[], guard := none }) rfl (fun K hK => ?_) AllReadyH.nil)
        · skip
          go_simp
          refine (M2.out _).mono ?_; rintro e w7 ⟨rfl, hb⟩
          replace Ta := nB.after Ta hb
          replace HB := below_next' HB hb
          clear hb
          have mw7 := HB.size
          have law7 := Blk.lt Ta
          go_wp2_with fail
          obtain ⟨ta0, ta1, ta2, ta3⟩ := Ta.cells
          obtain ⟨fa0, fa1, fa2, fa3⟩ := Ta.free
          refine hK.out _ _ (KK.out _ HB) (fun hHeld => ?_)
          clear hK K
          try simp only [Act.put, List.setIfInBounds_toArray, List.set_cons_zero, List.set_cons_succ]
          refine wpAnyH_ready (rs := [19]) (by kernel_rfl) (by simp) ?_
          refine AllReadyH.cons (o := { dst := some 9, op := Op.alloc 28, type := 0, pos := "law.go:92", after := #[], guard := none }) rfl (fun K hK => ?_) AllReadyH.nil
          · skip
            go_simp
            refine hK.out _ _ (KK.out _ (below_alloc HB _)) (fun hHeld => ?_)
            clear hK K
            try simp only [Act.put, List.setIfInBounds_toArray, List.set_cons_zero, List.set_cons_succ]
            refine wpAnyH_ready (rs := [20]) (by kernel_rfl) (by simp) ?_
            refine AllReadyH.cons (o := { dst := none, op := Op.store 28 (Operand.tmp 8) (Operand.tmp 24), type := 0, pos := "law.go:92", after := #[{ on := 18, ground := Ground.data }, { on := 8, ground := Ground.data }, { on := 17, ground := Ground.chain }, { on := 0, ground := Ground.phase }, { on := 1, ground := Ground.phase }, { on := 2, ground := Ground.phase }, { on := 3, ground := Ground.phase }, { on := 4, ground := Ground.phase }, { on := 5, ground := Ground.phase }, { on := 6, ground := Ground.phase }, { on := 7, ground := Ground.phase }, { on := 8, ground := Ground.phase }, { on := 9, ground := Ground.textOnly Departure.lateStores }, { on := 10, ground := Ground.textOnly Departure.lateStores }, { on := 11, ground := Ground.textOnly Departure.lateStores }, { on := 12, ground := Ground.textOnly Departure.lateStores }, { on := 13, ground := Ground.textOnly Departure.lateStores }, { on := 14, ground := Ground.textOnly Departure.lateStores }, { on := 15, ground := Ground.textOnly Departure.lateStores }, { on := 16, ground := Ground.textOnly Departure.lateStores }, { on := 17, ground := Ground.textOnly Departure.lateStoresUnsure }, { on := 18, ground := Ground.phase }, { on := 19, ground := Ground.phase }], guard := none }) rfl (fun K hK => ?_) AllReadyH.nil
            · skip
              go_simp
              refine hK.out _ _ (KK.out _ (below_alloc (below_4v HB (by omega) _ _ _ _) _)) (fun hHeld => ?_)
              clear hK K
              try simp only [Act.put, List.setIfInBounds_toArray, List.set_cons_zero, List.set_cons_succ]
              refine wpAnyH_ready (rs := [21]) (by kernel_rfl) (by simp) ?_
              refine AllReadyH.cons (o := { dst := none, op := Op.store 28 (Operand.tmp 9) (Operand.tmp 33), type := 0, pos := "law.go:92", after := #[{ on := 19, ground := Ground.data }, { on := 17, ground := Ground.data }, { on := 20, ground := Ground.chain }, { on := 0, ground := Ground.phase }, { on := 1, ground := Ground.phase }, { on := 2, ground := Ground.phase }, { on := 3, ground := Ground.phase }, { on := 4, ground := Ground.phase }, { on := 5, ground := Ground.phase }, { on := 6, ground := Ground.phase }, { on := 7, ground := Ground.phase }, { on := 8, ground := Ground.phase }, { on := 9, ground := Ground.phase }, { on := 10, ground := Ground.phase }, { on := 11, ground := Ground.phase }, { on := 12, ground := Ground.phase }, { on := 13, ground := Ground.phase }, { on := 14, ground := Ground.phase }, { on := 15, ground := Ground.phase }, { on := 16, ground := Ground.phase }, { on := 17, ground := Ground.phase }, { on := 18, ground := Ground.phase }, { on := 19, ground := Ground.phase }, { on := 20, ground := Ground.phase }], guard := none }) rfl (fun K hK => ?_) AllReadyH.nil
              · skip
                go_simp
                refine hK.out _ _ (KK.out _ (below_alloc (below_4v HB (by omega) _ _ _ _) _)) (fun hHeld => ?_)
                clear hK K
                try simp only [Act.put, List.setIfInBounds_toArray, List.set_cons_zero, List.set_cons_succ]
                refine wpAnyH_done (by kernel_rfl) ?_ _
                go_wp2_with fail
                go_meet
                exact ⟨_, _, rfl, rfl, Lib.hid ⟨x2.out.after (below_alloc (below_4v HB (by omega) _ _ _ _) _), (fB.alloc (fB.set Ta.fB a) _), (fB.new _ b (by simp))⟩⟩
        · skip
          go_simp
          refine hK.out _ _ (KK.out _ (below_alloc HB _)) (fun hHeld => ?_)
          clear hK K
          try simp only [Act.put, List.setIfInBounds_toArray, List.set_cons_zero, List.set_cons_succ]
          refine wpAnyH_ready (rs := [17]) (by kernel_rfl) (by simp) ?_
          refine AllReadyH.cons (o := { dst := some 33, op := Op.call { callee := Callee.value (Operand.func 35), args := #[Operand.tmp 26, Operand.tmp 28, Operand.tmp 30, Operand.tmp 32], argTypes := #[22, 22, 22, 22] }, type := 28, pos := "law.go:92", after := #[{ on := 10, ground := Ground.data }, { on := 12, ground := Ground.data }, { on := 14, ground := Ground.data }, { on := 16, ground := Ground.data }, { on := 8, ground := Ground.chain }], guard := none }) rfl (fun K hK => ?_) AllReadyH.nil
          · skip
            go_simp
            refine (M2.out _).mono ?_; rintro e w7 ⟨rfl, hb⟩
            have Tb := nB.one hb
            replace Ta := nB.after (nB.allocd Ta _) hb
            replace HB := below_next' (below_alloc HB _) hb
            clear hb
            have mw7 := HB.size
            have law7 := Blk.lt Ta
            have lbw7 := Blk.lt Tb
            go_wp2_with fail
            obtain ⟨ta0, ta1, ta2, ta3⟩ := Ta.cells
            obtain ⟨fa0, fa1, fa2, fa3⟩ := Ta.free
            obtain ⟨tb0, tb1, tb2, tb3⟩ := Tb.cells
            obtain ⟨fb0, fb1, fb2, fb3⟩ := Tb.free
            refine hK.out _ _ (KK.out _ HB) (fun hHeld => ?_)
            clear hK K
            try simp only [Act.put, List.setIfInBounds_toArray, List.set_cons_zero, List.set_cons_succ]
            refine wpAnyH_ready (rs := [20]) (by kernel_rfl) (by simp) ?_
            refine AllReadyH.cons (o := { dst := none, op := Op.store 28 (Operand.tmp 8) (Operand.tmp 24), type := 0, pos := "law.go:92", after := #[{ on := 18, ground := Ground.data }, { on := 8, ground := Ground.data }, { on := 17, ground := Ground.chain }, { on := 0, ground := Ground.phase }, { on := 1, ground := Ground.phase }, { on := 2, ground := Ground.phase }, { on := 3, ground := Ground.phase }, { on := 4, ground := Ground.phase }, { on := 5, ground := Ground.phase }, { on := 6, ground := Ground.phase }, { on := 7, ground := Ground.phase }, { on := 8, ground := Ground.phase }, { on := 9, ground := Ground.textOnly Departure.lateStores }, { on := 10, ground := Ground.textOnly Departure.lateStores }, { on := 11, ground := Ground.textOnly Departure.lateStores }, { on := 12, ground := Ground.textOnly Departure.lateStores }, { on := 13, ground := Ground.textOnly Departure.lateStores }, { on := 14, ground := Ground.textOnly Departure.lateStores }, { on := 15, ground := Ground.textOnly Departure.lateStores }, { on := 16, ground := Ground.textOnly Departure.lateStores }, { on := 17, ground := Ground.textOnly Departure.lateStoresUnsure }, { on := 18, ground := Ground.phase }, { on := 19, ground := Ground.phase }], guard := none }) rfl (fun K hK => ?_) AllReadyH.nil
            · skip
              go_simp
              refine hK.out _ _ (KK.out _ (below_4v HB (by omega) _ _ _ _)) (fun hHeld => ?_)
              clear hK K
              try simp only [Act.put, List.setIfInBounds_toArray, List.set_cons_zero, List.set_cons_succ]
              refine wpAnyH_ready (rs := [21]) (by kernel_rfl) (by simp) ?_
              refine AllReadyH.cons (o := { dst := none, op := Op.store 28 (Operand.tmp 9) (Operand.tmp 33), type := 0, pos := "law.go:92", after := #[{ on := 19, ground := Ground.data }, { on := 17, ground := Ground.data }, { on := 20, ground := Ground.chain }, { on := 0, ground := Ground.phase }, { on := 1, ground := Ground.phase }, { on := 2, ground := Ground.phase }, { on := 3, ground := Ground.phase }, { on := 4, ground := Ground.phase }, { on := 5, ground := Ground.phase }, { on := 6, ground := Ground.phase }, { on := 7, ground := Ground.phase }, { on := 8, ground := Ground.phase }, { on := 9, ground := Ground.phase }, { on := 10, ground := Ground.phase }, { on := 11, ground := Ground.phase }, { on := 12, ground := Ground.phase }, { on := 13, ground := Ground.phase }, { on := 14, ground := Ground.phase }, { on := 15, ground := Ground.phase }, { on := 16, ground := Ground.phase }, { on := 17, ground := Ground.phase }, { on := 18, ground := Ground.phase }, { on := 19, ground := Ground.phase }, { on := 20, ground := Ground.phase }], guard := none }) rfl (fun K hK => ?_) AllReadyH.nil
              · skip
                go_simp
                refine hK.out _ _ (KK.out _ (below_4v (below_4v HB (by omega) _ _ _ _) (by omega) _ _ _ _)) (fun hHeld => ?_)
                clear hK K
                try simp only [Act.put, List.setIfInBounds_toArray, List.set_cons_zero, List.set_cons_succ]
                refine wpAnyH_done (by kernel_rfl) ?_ _
                go_wp2_with fail
                go_meet
                exact ⟨_, _, rfl, rfl, Lib.hid ⟨x2.out.after (below_4v (below_4v HB (by omega) _ _ _ _) (by omega) _ _ _ _), (fB.others (fB.set Ta.fB a) (by omega)), (fB.set (fB.others Tb.fB (by omega)) b)⟩⟩
      · skip
        go_simp
        refine hK.out _ _ (KK.out _ HA2) (fun hHeld => ?_)
        clear hK K
        try simp only [Act.put, List.setIfInBounds_toArray, List.set_cons_zero, List.set_cons_succ]
        refine wpAnyH_ready (rs := [8]) (by kernel_rfl) (by simp) ?_
        refine AllReadyH.cons (o := { dst := some 24, op := Op.call { callee := Callee.value (Operand.func 35), args := #[Operand.tmp 17, Operand.tmp 19, Operand.tmp 21, Operand.tmp 23], argTypes := #[22, 22, 22, 22] }, type := 28, pos := "law.go:92", after := #[{ on := 1, ground := Ground.data }, { on := 3, ground := Ground.data }, { on := 5, ground := Ground.data }, { on := 7, ground := Ground.data }], guard := none }) rfl (fun K hK => ?_) AllReadyH.nil
        · skip
          go_simp
          refine (M1.out _).mono ?_; rintro e w6 ⟨rfl, hb⟩
          have TT := nB.twod hb
          obtain ⟨Ta, Tb⟩ := TT
          replace HB := below_next' HA2 hb
          clear hb
          have mw6 := HB.size
          have law6 := Blk.lt Ta
          have lbw6 := Blk.lt Tb
          go_wp2_with fail
          refine hK.out _ _ (KK.out _ HB) (fun hHeld => ?_)
          clear hK K
          try simp only [Act.put, List.setIfInBounds_toArray, List.set_cons_zero, List.set_cons_succ]
          refine wpAnyH_ready (rs := [17]) (by kernel_rfl) (by simp) ?_
          refine AllReadyH.cons (o := { dst := some 33, op := Op.call { callee := Callee.value (Operand.func 35), args := #[Operand.tmp 26, Operand.tmp 28, Operand.tmp 30, Operand.tmp 32], argTypes := #[22, 22, 22, 22] }, type := 28, pos := "law.go:92", after := #[{ on := 10, ground := Ground.data }, { on := 12, ground := Ground.data }, { on := 14, ground := Ground.data }, { on := 16, ground := Ground.data }, { on := 8, ground := Ground.chain }], guard := none }) rfl (fun K hK => ?_) AllReadyH.nil
          · skip
            go_simp
            refine (M2.out _).mono ?_; rintro e w7 ⟨rfl, hb⟩
            replace Ta := nB.after Ta hb
            replace Tb := nB.after Tb hb
            replace HB := below_next' HB hb
            clear hb
            have mw7 := HB.size
            have law7 := Blk.lt Ta
            have lbw7 := Blk.lt Tb
            go_wp2_with fail
            obtain ⟨ta0, ta1, ta2, ta3⟩ := Ta.cells
            obtain ⟨fa0, fa1, fa2, fa3⟩ := Ta.free
            obtain ⟨tb0, tb1, tb2, tb3⟩ := Tb.cells
            obtain ⟨fb0, fb1, fb2, fb3⟩ := Tb.free
            refine hK.out _ _ (KK.out _ HB) (fun hHeld => ?_)
            clear hK K
            try simp only [Act.put, List.setIfInBounds_toArray, List.set_cons_zero, List.set_cons_succ]
            refine wpAnyH_ready (rs := [20]) (by kernel_rfl) (by simp) ?_
            refine AllReadyH.cons (o := { dst := none, op := Op.store 28 (Operand.tmp 8) (Operand.tmp 24), type := 0, pos := "law.go:92", after := #[{ on := 18, ground := Ground.data }, { on := 8, ground := Ground.data }, { on := 17, ground := Ground.chain }, { on := 0, ground := Ground.phase }, { on := 1, ground := Ground.phase }, { on := 2, ground := Ground.phase }, { on := 3, ground := Ground.phase }, { on := 4, ground := Ground.phase }, { on := 5, ground := Ground.phase }, { on := 6, ground := Ground.phase }, { on := 7, ground := Ground.phase }, { on := 8, ground := Ground.phase }, { on := 9, ground := Ground.textOnly Departure.lateStores }, { on := 10, ground := Ground.textOnly Departure.lateStores }, { on := 11, ground := Ground.textOnly Departure.lateStores }, { on := 12, ground := Ground.textOnly Departure.lateStores }, { on := 13, ground := Ground.textOnly Departure.lateStores }, { on := 14, ground := Ground.textOnly Departure.lateStores }, { on := 15, ground := Ground.textOnly Departure.lateStores }, { on := 16, ground := Ground.textOnly Departure.lateStores }, { on := 17, ground := Ground.textOnly Departure.lateStoresUnsure }, { on := 18, ground := Ground.phase }, { on := 19, ground := Ground.phase }], guard := none }) rfl (fun K hK => ?_) AllReadyH.nil
            · skip
              go_simp
              refine hK.out _ _ (KK.out _ (below_4v HB (by omega) _ _ _ _)) (fun hHeld => ?_)
              clear hK K
              try simp only [Act.put, List.setIfInBounds_toArray, List.set_cons_zero, List.set_cons_succ]
              refine wpAnyH_ready (rs := [21]) (by kernel_rfl) (by simp) ?_
              refine AllReadyH.cons (o := { dst := none, op := Op.store 28 (Operand.tmp 9) (Operand.tmp 33), type := 0, pos := "law.go:92", after := #[{ on := 19, ground := Ground.data }, { on := 17, ground := Ground.data }, { on := 20, ground := Ground.chain }, { on := 0, ground := Ground.phase }, { on := 1, ground := Ground.phase }, { on := 2, ground := Ground.phase }, { on := 3, ground := Ground.phase }, { on := 4, ground := Ground.phase }, { on := 5, ground := Ground.phase }, { on := 6, ground := Ground.phase }, { on := 7, ground := Ground.phase }, { on := 8, ground := Ground.phase }, { on := 9, ground := Ground.phase }, { on := 10, ground := Ground.phase }, { on := 11, ground := Ground.phase }, { on := 12, ground := Ground.phase }, { on := 13, ground := Ground.phase }, { on := 14, ground := Ground.phase }, { on := 15, ground := Ground.phase }, { on := 16, ground := Ground.phase }, { on := 17, ground := Ground.phase }, { on := 18, ground := Ground.phase }, { on := 19, ground := Ground.phase }, { on := 20, ground := Ground.phase }], guard := none }) rfl (fun K hK => ?_) AllReadyH.nil
              · skip
                go_simp
                refine hK.out _ _ (KK.out _ (below_4v (below_4v HB (by omega) _ _ _ _) (by omega) _ _ _ _)) (fun hHeld => ?_)
                clear hK K
                try simp only [Act.put, List.setIfInBounds_toArray, List.set_cons_zero, List.set_cons_succ]
                refine wpAnyH_done (by kernel_rfl) ?_ _
                go_wp2_with fail
                go_meet
                exact ⟨_, _, rfl, rfl, Lib.hid ⟨x2.out.after (below_4v (below_4v HB (by omega) _ _ _ _) (by omega) _ _ _ _), (fB.others (fB.set Ta.fB a) (by omega)), (fB.set (fB.others Tb.fB (by omega)) b)⟩⟩
    · skip
      go_simp
      refine hK.out _ _ (KK.out _ HA1) (fun hHeld => ?_)
      clear hK K
      try simp only [Act.put, List.setIfInBounds_toArray, List.set_cons_zero, List.set_cons_succ]
      refine wpAnyH_ready (rs := [8, 18]) (by kernel_rfl) (by simp) ?_
      refine AllReadyH.cons (o := { dst := some 24, op := Op.call { callee := Callee.value (Operand.func 35), args := #[Operand.tmp 17, Operand.tmp 19, Operand.tmp 21, Operand.tmp 23], argTypes := #[22, 22, 22, 22] }, type := 28, pos := "law.go:92", after := #[{ on := 1, ground := Ground.data }, { on := 3, ground := Ground.data }, { on := 5, ground := Ground.data }, { on := 7, ground := Ground.data }], guard := none }) rfl (fun K hK => ?_) (AllReadyH.cons (o := { dst := some 8, op := Op.alloc 28, type := 0, pos := "law.go:92", after := #[], guard := none }) rfl (fun K hK => ?_) AllReadyH.nil)
      · skip
        go_simp
        refine (M1.out _).mono ?_; rintro e w6 ⟨rfl, hb⟩
        have Tb := nB.oned hb
        replace HB := below_next' HA1 hb
        clear hb
        have mw6 := HB.size
        have lbw6 := Blk.lt Tb
        go_wp2_with fail
        refine hK.out _ _ (KK.out _ HB) (fun hHeld => ?_)
        clear hK K
        try simp only [Act.put, List.setIfInBounds_toArray, List.set_cons_zero, List.set_cons_succ]
        refine wpAnyH_ready (rs := [17, 18]) (by kernel_rfl) (by simp) ?_
        refine AllReadyH.cons (o := { dst := some 33, op := Op.call { callee := Callee.value (Operand.func 35), args := #[Operand.tmp 26, Operand.tmp 28, Operand.tmp 30, Operand.tmp 32], argTypes := #[22, 22, 22, 22] }, type := 28, pos := "law.go:92", after := #[{ on := 10, ground := Ground.data }, { on := 12, ground := Ground.data }, { on := 14, ground := Ground.data }, { on := 16, ground := Ground.data }, { on := 8, ground := Ground.chain }], guard := none }) rfl (fun K hK => ?_) (AllReadyH.cons (o := { dst := some 8, op := Op.alloc 28, type := 0, pos := "law.go:92", after := #[], guard := none }) rfl (fun K hK => ?_) AllReadyH.nil)
        · skip
          go_simp
          refine (M2.out _).mono ?_; rintro e w7 ⟨rfl, hb⟩
          replace Tb := nB.after Tb hb
          replace HB := below_next' HB hb
          clear hb
          have mw7 := HB.size
          have lbw7 := Blk.lt Tb
          go_wp2_with fail
          obtain ⟨tb0, tb1, tb2, tb3⟩ := Tb.cells
          obtain ⟨fb0, fb1, fb2, fb3⟩ := Tb.free
          refine hK.out _ _ (KK.out _ HB) (fun hHeld => ?_)
          clear hK K
          try simp only [Act.put, List.setIfInBounds_toArray, List.set_cons_zero, List.set_cons_succ]
          refine wpAnyH_ready (rs := [18]) (by kernel_rfl) (by simp) ?_
          refine AllReadyH.cons (o := { dst := some 8, op := Op.alloc 28, type := 0, pos := "law.go:92", after := #[], guard := none }) rfl (fun K hK => ?_) AllReadyH.nil
          · skip
            go_simp
            refine hK.out _ _ (KK.out _ (below_alloc HB _)) (fun hHeld => ?_)
            clear hK K
            try simp only [Act.put, List.setIfInBounds_toArray, List.set_cons_zero, List.set_cons_succ]
            refine wpAnyH_ready (rs := [20]) (by kernel_rfl) (by simp) ?_
            refine AllReadyH.cons (o := { dst := none, op := Op.store 28 (Operand.tmp 8) (Operand.tmp 24), type := 0, pos := "law.go:92", after := #[{ on := 18, ground := Ground.data }, { on := 8, ground := Ground.data }, { on := 17, ground := Ground.chain }, { on := 0, ground := Ground.phase }, { on := 1, ground := Ground.phase }, { on := 2, ground := Ground.phase }, { on := 3, ground := Ground.phase }, { on := 4, ground := Ground.phase }, { on := 5, ground := Ground.phase }, { on := 6, ground := Ground.phase }, { on := 7, ground := Ground.phase }, { on := 8, ground := Ground.phase }, { on := 9, ground := Ground.textOnly Departure.lateStores }, { on := 10, ground := Ground.textOnly Departure.lateStores }, { on := 11, ground := Ground.textOnly Departure.lateStores }, { on := 12, ground := Ground.textOnly Departure.lateStores }, { on := 13, ground := Ground.textOnly Departure.lateStores }, { on := 14, ground := Ground.textOnly Departure.lateStores }, { on := 15, ground := Ground.textOnly Departure.lateStores }, { on := 16, ground := Ground.textOnly Departure.lateStores }, { on := 17, ground := Ground.textOnly Departure.lateStoresUnsure }, { on := 18, ground := Ground.phase }, { on := 19, ground := Ground.phase }], guard := none }) rfl (fun K hK => ?_) AllReadyH.nil
            · skip
              go_simp
              refine hK.out _ _ (KK.out _ (below_alloc HB _)) (fun hHeld => ?_)
              clear hK K
              try simp only [Act.put, List.setIfInBounds_toArray, List.set_cons_zero, List.set_cons_succ]
              refine wpAnyH_ready (rs := [21]) (by kernel_rfl) (by simp) ?_
              refine AllReadyH.cons (o := { dst := none, op := Op.store 28 (Operand.tmp 9) (Operand.tmp 33), type := 0, pos := "law.go:92", after := #[{ on := 19, ground := Ground.data }, { on := 17, ground := Ground.data }, { on := 20, ground := Ground.chain }, { on := 0, ground := Ground.phase }, { on := 1, ground := Ground.phase }, { on := 2, ground := Ground.phase }, { on := 3, ground := Ground.phase }, { on := 4, ground := Ground.phase }, { on := 5, ground := Ground.phase }, { on := 6, ground := Ground.phase }, { on := 7, ground := Ground.phase }, { on := 8, ground := Ground.phase }, { on := 9, ground := Ground.phase }, { on := 10, ground := Ground.phase }, { on := 11, ground := Ground.phase }, { on := 12, ground := Ground.phase }, { on := 13, ground := Ground.phase }, { on := 14, ground := Ground.phase }, { on := 15, ground := Ground.phase }, { on := 16, ground := Ground.phase }, { on := 17, ground := Ground.phase }, { on := 18, ground := Ground.phase }, { on := 19, ground := Ground.phase }, { on := 20, ground := Ground.phase }], guard := none }) rfl (fun K hK => ?_) AllReadyH.nil
              · skip
                go_simp
                refine hK.out _ _ (KK.out _ (below_alloc (below_4v HB (by omega) _ _ _ _) _)) (fun hHeld => ?_)
                clear hK K
                try simp only [Act.put, List.setIfInBounds_toArray, List.set_cons_zero, List.set_cons_succ]
                refine wpAnyH_done (by kernel_rfl) ?_ _
                go_wp2_with fail
                go_meet
                exact ⟨_, _, rfl, rfl, Lib.hid ⟨x2.out.after (below_alloc (below_4v HB (by omega) _ _ _ _) _), (fB.new _ a (by simp)), (fB.alloc (fB.set Tb.fB b) _)⟩⟩
        · skip
          go_simp
          refine hK.out _ _ (KK.out _ (below_alloc HB _)) (fun hHeld => ?_)
          clear hK K
          try simp only [Act.put, List.setIfInBounds_toArray, List.set_cons_zero, List.set_cons_succ]
          refine wpAnyH_ready (rs := [17]) (by kernel_rfl) (by simp) ?_
          refine AllReadyH.cons (o := { dst := some 33, op := Op.call { callee := Callee.value (Operand.func 35), args := #[Operand.tmp 26, Operand.tmp 28, Operand.tmp 30, Operand.tmp 32], argTypes := #[22, 22, 22, 22] }, type := 28, pos := "law.go:92", after := #[{ on := 10, ground := Ground.data }, { on := 12, ground := Ground.data }, { on := 14, ground := Ground.data }, { on := 16, ground := Ground.data }, { on := 8, ground := Ground.chain }], guard := none }) rfl (fun K hK => ?_) AllReadyH.nil
          · skip
            go_simp
            refine (M2.out _).mono ?_; rintro e w7 ⟨rfl, hb⟩
            have Ta := nB.one hb
            replace Tb := nB.after (nB.allocd Tb _) hb
            replace HB := below_next' (below_alloc HB _) hb
            clear hb
            have mw7 := HB.size
            have lbw7 := Blk.lt Tb
            have law7 := Blk.lt Ta
            go_wp2_with fail
            obtain ⟨tb0, tb1, tb2, tb3⟩ := Tb.cells
            obtain ⟨fb0, fb1, fb2, fb3⟩ := Tb.free
            obtain ⟨ta0, ta1, ta2, ta3⟩ := Ta.cells
            obtain ⟨fa0, fa1, fa2, fa3⟩ := Ta.free
            refine hK.out _ _ (KK.out _ HB) (fun hHeld => ?_)
            clear hK K
            try simp only [Act.put, List.setIfInBounds_toArray, List.set_cons_zero, List.set_cons_succ]
            refine wpAnyH_ready (rs := [20]) (by kernel_rfl) (by simp) ?_
            refine AllReadyH.cons (o := { dst := none, op := Op.store 28 (Operand.tmp 8) (Operand.tmp 24), type := 0, pos := "law.go:92", after := #[{ on := 18, ground := Ground.data }, { on := 8, ground := Ground.data }, { on := 17, ground := Ground.chain }, { on := 0, ground := Ground.phase }, { on := 1, ground := Ground.phase }, { on := 2, ground := Ground.phase }, { on := 3, ground := Ground.phase }, { on := 4, ground := Ground.phase }, { on := 5, ground := Ground.phase }, { on := 6, ground := Ground.phase }, { on := 7, ground := Ground.phase }, { on := 8, ground := Ground.phase }, { on := 9, ground := Ground.textOnly Departure.lateStores }, { on := 10, ground := Ground.textOnly Departure.lateStores }, { on := 11, ground := Ground.textOnly Departure.lateStores }, { on := 12, ground := Ground.textOnly Departure.lateStores }, { on := 13, ground := Ground.textOnly Departure.lateStores }, { on := 14, ground := Ground.textOnly Departure.lateStores }, { on := 15, ground := Ground.textOnly Departure.lateStores }, { on := 16, ground := Ground.textOnly Departure.lateStores }, { on := 17, ground := Ground.textOnly Departure.lateStoresUnsure }, { on := 18, ground := Ground.phase }, { on := 19, ground := Ground.phase }], guard := none }) rfl (fun K hK => ?_) AllReadyH.nil
            · skip
              go_simp
              refine hK.out _ _ (KK.out _ (below_4v HB (by omega) _ _ _ _)) (fun hHeld => ?_)
              clear hK K
              try simp only [Act.put, List.setIfInBounds_toArray, List.set_cons_zero, List.set_cons_succ]
              refine wpAnyH_ready (rs := [21]) (by kernel_rfl) (by simp) ?_
              refine AllReadyH.cons (o := { dst := none, op := Op.store 28 (Operand.tmp 9) (Operand.tmp 33), type := 0, pos := "law.go:92", after := #[{ on := 19, ground := Ground.data }, { on := 17, ground := Ground.data }, { on := 20, ground := Ground.chain }, { on := 0, ground := Ground.phase }, { on := 1, ground := Ground.phase }, { on := 2, ground := Ground.phase }, { on := 3, ground := Ground.phase }, { on := 4, ground := Ground.phase }, { on := 5, ground := Ground.phase }, { on := 6, ground := Ground.phase }, { on := 7, ground := Ground.phase }, { on := 8, ground := Ground.phase }, { on := 9, ground := Ground.phase }, { on := 10, ground := Ground.phase }, { on := 11, ground := Ground.phase }, { on := 12, ground := Ground.phase }, { on := 13, ground := Ground.phase }, { on := 14, ground := Ground.phase }, { on := 15, ground := Ground.phase }, { on := 16, ground := Ground.phase }, { on := 17, ground := Ground.phase }, { on := 18, ground := Ground.phase }, { on := 19, ground := Ground.phase }, { on := 20, ground := Ground.phase }], guard := none }) rfl (fun K hK => ?_) AllReadyH.nil
              · skip
                go_simp
                refine hK.out _ _ (KK.out _ (below_4v (below_4v HB (by omega) _ _ _ _) (by omega) _ _ _ _)) (fun hHeld => ?_)
                clear hK K
                try simp only [Act.put, List.setIfInBounds_toArray, List.set_cons_zero, List.set_cons_succ]
                refine wpAnyH_done (by kernel_rfl) ?_ _
                go_wp2_with fail
                go_meet
                exact ⟨_, _, rfl, rfl, Lib.hid ⟨x2.out.after (below_4v (below_4v HB (by omega) _ _ _ _) (by omega) _ _ _ _), (fB.others (fB.set Ta.fB a) (by omega)), (fB.set (fB.others Tb.fB (by omega)) b)⟩⟩
      · skip
        go_simp
        refine hK.out _ _ (KK.out _ HA2) (fun hHeld => ?_)
        clear hK K
        try simp only [Act.put, List.setIfInBounds_toArray, List.set_cons_zero, List.set_cons_succ]
        refine wpAnyH_ready (rs := [8]) (by kernel_rfl) (by simp) ?_
        refine AllReadyH.cons (o := { dst := some 24, op := Op.call { callee := Callee.value (Operand.func 35), args := #[Operand.tmp 17, Operand.tmp 19, Operand.tmp 21, Operand.tmp 23], argTypes := #[22, 22, 22, 22] }, type := 28, pos := "law.go:92", after := #[{ on := 1, ground := Ground.data }, { on := 3, ground := Ground.data }, { on := 5, ground := Ground.data }, { on := 7, ground := Ground.data }], guard := none }) rfl (fun K hK => ?_) AllReadyH.nil
        · skip
          go_simp
          refine (M1.out _).mono ?_; rintro e w6 ⟨rfl, hb⟩
          have TT := nB.twod hb
          obtain ⟨Tb, Ta⟩ := TT
          replace HB := below_next' HA2 hb
          clear hb
          have mw6 := HB.size
          have lbw6 := Blk.lt Tb
          have law6 := Blk.lt Ta
          go_wp2_with fail
          refine hK.out _ _ (KK.out _ HB) (fun hHeld => ?_)
          clear hK K
          try simp only [Act.put, List.setIfInBounds_toArray, List.set_cons_zero, List.set_cons_succ]
          refine wpAnyH_ready (rs := [17]) (by kernel_rfl) (by simp) ?_
          refine AllReadyH.cons (o := { dst := some 33, op := Op.call { callee := Callee.value (Operand.func 35), args := #[Operand.tmp 26, Operand.tmp 28, Operand.tmp 30, Operand.tmp 32], argTypes := #[22, 22, 22, 22] }, type := 28, pos := "law.go:92", after := #[{ on := 10, ground := Ground.data }, { on := 12, ground := Ground.data }, { on := 14, ground := Ground.data }, { on := 16, ground := Ground.data }, { on := 8, ground := Ground.chain }], guard := none }) rfl (fun K hK => ?_) AllReadyH.nil
          · skip
            go_simp
            refine (M2.out _).mono ?_; rintro e w7 ⟨rfl, hb⟩
            replace Tb := nB.after Tb hb
            replace Ta := nB.after Ta hb
            replace HB := below_next' HB hb
            clear hb
            have mw7 := HB.size
            have lbw7 := Blk.lt Tb
            have law7 := Blk.lt Ta
            go_wp2_with fail
            obtain ⟨tb0, tb1, tb2, tb3⟩ := Tb.cells
            obtain ⟨fb0, fb1, fb2, fb3⟩ := Tb.free
            obtain ⟨ta0, ta1, ta2, ta3⟩ := Ta.cells
            obtain ⟨fa0, fa1, fa2, fa3⟩ := Ta.free
            refine hK.out _ _ (KK.out _ HB) (fun hHeld => ?_)
            clear hK K
            try simp only [Act.put, List.setIfInBounds_toArray, List.set_cons_zero, List.set_cons_succ]
            refine wpAnyH_ready (rs := [20]) (by kernel_rfl) (by simp) ?_
            refine AllReadyH.cons (o := { dst := none, op := Op.store 28 (Operand.tmp 8) (Operand.tmp 24), type := 0, pos := "law.go:92", after := #[{ on := 18, ground := Ground.data }, { on := 8, ground := Ground.data }, { on := 17, ground := Ground.chain }, { on := 0, ground := Ground.phase }, { on := 1, ground := Ground.phase }, { on := 2, ground := Ground.phase }, { on := 3, ground := Ground.phase }, { on := 4, ground := Ground.phase }, { on := 5, ground := Ground.phase }, { on := 6, ground := Ground.phase }, { on := 7, ground := Ground.phase }, { on := 8, ground := Ground.phase }, { on := 9, ground := Ground.textOnly Departure.lateStores }, { on := 10, ground := Ground.textOnly Departure.lateStores }, { on := 11, ground := Ground.textOnly Departure.lateStores }, { on := 12, ground := Ground.textOnly Departure.lateStores }, { on := 13, ground := Ground.textOnly Departure.lateStores }, { on := 14, ground := Ground.textOnly Departure.lateStores }, { on := 15, ground := Ground.textOnly Departure.lateStores }, { on := 16, ground := Ground.textOnly Departure.lateStores }, { on := 17, ground := Ground.textOnly Departure.lateStoresUnsure }, { on := 18, ground := Ground.phase }, { on := 19, ground := Ground.phase }], guard := none }) rfl (fun K hK => ?_) AllReadyH.nil
            · skip
              go_simp
              refine hK.out _ _ (KK.out _ (below_4v HB (by omega) _ _ _ _)) (fun hHeld => ?_)
              clear hK K
              try simp only [Act.put, List.setIfInBounds_toArray, List.set_cons_zero, List.set_cons_succ]
              refine wpAnyH_ready (rs := [21]) (by kernel_rfl) (by simp) ?_
              refine AllReadyH.cons (o := { dst := none, op := Op.store 28 (Operand.tmp 9) (Operand.tmp 33), type := 0, pos := "law.go:92", after := #[{ on := 19, ground := Ground.data }, { on := 17, ground := Ground.data }, { on := 20, ground := Ground.chain }, { on := 0, ground := Ground.phase }, { on := 1, ground := Ground.phase }, { on := 2, ground := Ground.phase }, { on := 3, ground := Ground.phase }, { on := 4, ground := Ground.phase }, { on := 5, ground := Ground.phase }, { on := 6, ground := Ground.phase }, { on := 7, ground := Ground.phase }, { on := 8, ground := Ground.phase }, { on := 9, ground := Ground.phase }, { on := 10, ground := Ground.phase }, { on := 11, ground := Ground.phase }, { on := 12, ground := Ground.phase }, { on := 13, ground := Ground.phase }, { on := 14, ground := Ground.phase }, { on := 15, ground := Ground.phase }, { on := 16, ground := Ground.phase }, { on := 17, ground := Ground.phase }, { on := 18, ground := Ground.phase }, { on := 19, ground := Ground.phase }, { on := 20, ground := Ground.phase }], guard := none }) rfl (fun K hK => ?_) AllReadyH.nil
              · skip
                go_simp
                refine hK.out _ _ (KK.out _ (below_4v (below_4v HB (by omega) _ _ _ _) (by omega) _ _ _ _)) (fun hHeld => ?_)
                clear hK K
                try simp only [Act.put, List.setIfInBounds_toArray, List.set_cons_zero, List.set_cons_succ]
                refine wpAnyH_done (by kernel_rfl) ?_ _
                go_wp2_with fail
                go_meet
                exact ⟨_, _, rfl, rfl, Lib.hid ⟨x2.out.after (below_4v (below_4v HB (by omega) _ _ _ _) (by omega) _ _ _ _), (fB.others (fB.set Ta.fB a) (by omega)), (fB.set (fB.others Tb.fB (by omega)) b)⟩⟩
  case rest =>
    rcases hc with ⟨rfl, rfl⟩ | ⟨rfl, rfl⟩
    · skip
      obtain ⟨ga, gb, rfl, rfl, X⟩ := hcut
      clear x2
      obtain ⟨p0, p1, p2, p3⟩ := X.out.2.1.cells
      obtain ⟨q0, q1, q2, q3⟩ := X.out.2.2.cells
      go_wp2_with fail
      refine (D.out _).mono ?_; rintro e w3 ⟨rfl, b3⟩
      have BL := Lib.hid (X.out.1.after b3)
      have FA := Lib.hid (X.out.2.1.after b3)
      have FB := Lib.hid (X.out.2.2.after b3)
      clear D b3 p0 p1 p2 p3 q0 q1 q2 q3 X
      have kn := Blk.lt (BL.out.get (g := w.heap.size) (cs := #[uV n0, uV n1, uV n2, uV n3, uV n4, uV n5, uV n6, uV n7]) (t := 51) (by simp))
      obtain ⟨t0, t4⟩ : w3.cell? ⟨w.heap.size, 0, none⟩ = some (uV n0) ∧ w3.cell? ⟨w.heap.size, 4, none⟩ = some (uV n4) := ⟨Blk.cell (BL.out.get (g := w.heap.size) (cs := #[uV n0, uV n1, uV n2, uV n3, uV n4, uV n5, uV n6, uV n7]) (t := 51) (by simp)) 0, Blk.cell (BL.out.get (g := w.heap.size) (cs := #[uV n0, uV n1, uV n2, uV n3, uV n4, uV n5, uV n6, uV n7]) (t := 51) (by simp)) 4⟩
      have FX := Lib.hid ((fB.new w3 x rfl).alloc (.cells (fCells y) 28))
      have FY := Lib.hid (fB.new (w3.alloc (.cells (fCells x) 28)) y (g := w3.heap.size + 1) (by simp))
      replace BL := Lib.hid ((BL.out.alloc (.cells (fCells x) 28)).alloc (.cells (fCells y) 28))
      replace FA := Lib.hid ((FA.out.alloc (.cells (fCells x) 28)).alloc (.cells (fCells y) 28))
      replace FB := Lib.hid ((FB.out.alloc (.cells (fCells x) 28)).alloc (.cells (fCells y) 28))
      go_wp2_with fail
      refine (R.out _).mono ?_; rintro e w7 ⟨rfl, hb7⟩
      replace BL := Lib.hid (BL.out.after hb7)
      clear FA FB FX FY hb7 t0 t4 R kn
      go_wp2_with fail
      go_ret
      exact ⟨rfl, BL.out.1⟩
    · skip
      obtain ⟨ga, gb, rfl, rfl, X⟩ := hcut
      clear x2
      obtain ⟨p0, p1, p2, p3⟩ := X.out.2.1.cells
      obtain ⟨q0, q1, q2, q3⟩ := X.out.2.2.cells
      go_wp2_with fail
      refine (D.out _).mono ?_; rintro e w3 ⟨rfl, b3⟩
      have BL := Lib.hid (X.out.1.after b3)
      have FA := Lib.hid (X.out.2.1.after b3)
      have FB := Lib.hid (X.out.2.2.after b3)
      clear D b3 p0 p1 p2 p3 q0 q1 q2 q3 X
      have kn := Blk.lt (BL.out.get (g := w.heap.size) (cs := #[uV n0, uV n1, uV n2, uV n3, uV n4, uV n5, uV n6, uV n7]) (t := 51) (by simp))
      obtain ⟨t0, t4⟩ : w3.cell? ⟨w.heap.size, 0, none⟩ = some (uV n0) ∧ w3.cell? ⟨w.heap.size, 4, none⟩ = some (uV n4) := ⟨Blk.cell (BL.out.get (g := w.heap.size) (cs := #[uV n0, uV n1, uV n2, uV n3, uV n4, uV n5, uV n6, uV n7]) (t := 51) (by simp)) 0, Blk.cell (BL.out.get (g := w.heap.size) (cs := #[uV n0, uV n1, uV n2, uV n3, uV n4, uV n5, uV n6, uV n7]) (t := 51) (by simp)) 4⟩
      have FX := Lib.hid ((fB.new w3 x rfl).alloc (.cells (fCells y) 28))
      have FY := Lib.hid (fB.new (w3.alloc (.cells (fCells x) 28)) y (g := w3.heap.size + 1) (by simp))
      replace BL := Lib.hid ((BL.out.alloc (.cells (fCells x) 28)).alloc (.cells (fCells y) 28))
      replace FA := Lib.hid ((FA.out.alloc (.cells (fCells x) 28)).alloc (.cells (fCells y) 28))
      replace FB := Lib.hid ((FB.out.alloc (.cells (fCells x) 28)).alloc (.cells (fCells y) 28))
      go_wp2_with fail
      refine (R.out _).mono ?_; rintro e w7 ⟨rfl, hb7⟩
      replace BL := Lib.hid (BL.out.after hb7)
      clear FA FB FX FY hb7 t0 t4 R kn
      go_wp2_with fail
      go_ret
      exact ⟨rfl, BL.out.1⟩

set_option maxRecDepth 100000 in
set_option maxHeartbeats 32000000 in
theorem fholds_yes (op : Int) (wide : Bool) (n0 n1 n2 n3 n4 n5 n6 n7 : BitVec 64) (a b x y : Fc) (c : Bool) (k : Int) (w : World)
    (M1 : Hid (∀ w, Calls Try.prog 35 #[uV n0, uV n1, uV n2, uV n3] w (Gives (fV a) w)))
    (M2 : Hid (∀ w, Calls Try.prog 35 #[uV n4, uV n5, uV n6, uV n7] w (Gives (fV b) w)))
    (D : Hid (∀ w, Calls Try.prog 33 #[.int .u8 op, .bool wide, fV a, fV b] w (Gives (.tuple #[fV x, fV y, .bool true]) w)))
    (R : Hid (∀ w, Calls Try.prog 37 #[.int .u8 op, .bool wide, uV n0, uV n4] w (Gives (.tuple #[.bool c, .int .i64 k]) w)))
    (W1 : Hid (∀ w, Calls Try.prog 26 #[fV x, fV a] w (Gives (.bool true) w)))
    (W2 : Hid (∀ w, Calls Try.prog 26 #[fV y, fV b] w (Gives (.bool true) w)))
    (hc : (c = false ∧ k = 1) ∨ (c = false ∧ k = 0) ∨ (c = true ∧ k = 0 ∧ (∀ w, Calls Try.prog 23 #[fV x, uV n0] w (Gives (.bool true) w)) ∧ (∀ w, Calls Try.prog 23 #[fV y, uV n4] w (Gives (.bool true) w)))) :
    Calls Try.prog 8 #[.int .u8 op, .bool wide, .agg #[uV n0, uV n1, uV n2, uV n3, uV n4, uV n5, uV n6, uV n7]] w (Fine w) := by
  have hx := Lib.hid ((Blks.start w).new #[uV n0, uV n1, uV n2, uV n3, uV n4, uV n5, uV n6, uV n7] 51)
  go_enter Try.func8, Try.ntmps8
  go_wp2_with fail
  refine (fact_shown _).mono ?_; rintro e w1 ⟨rfl, b1⟩
  have x1 := hx.out.after b1
  clear hx b1
  go_upto_region 2 with fail
  generalize w1 = w2 at *
  have x2 := Lib.hid x1
  clear x1
  go_cut [8, 9] (fun s1 s2 wx => ∃ ga gb, s1 = .pointer (some ⟨ga, 0, none⟩) ∧ s2 = .pointer (some ⟨gb, 0, none⟩) ∧ Hid (Blks w [(w.heap.size, #[uV n0, uV n1, uV n2, uV n3, uV n4, uV n5, uV n6, uV n7], 51)] wx ∧ fB ga a wx ∧ fB gb b wx))
  case first =>
    have HB : Below w2.heap.size w2 w2.drew := Below.drew (Below.refl _ _)
    have HA1 : Below w2.heap.size w2 ((w2.alloc (.cells #[.int .u64 0, .int .u64 0, .int .u64 0, .int .u64 0] 28)).drew) := Below.drew (below_alloc (Below.refl _ _) _)
    have HA2 : Below w2.heap.size w2 (((w2.alloc (.cells #[.int .u64 0, .int .u64 0, .int .u64 0, .int .u64 0] 28)).alloc (.cells #[.int .u64 0, .int .u64 0, .int .u64 0, .int .u64 0] 28)).drew) := Below.drew (below_alloc (below_alloc (Below.refl _ _) _) _)
    have KK : Hid (∀ wx : World, Below w2.heap.size w2 wx → (wx.cell? ⟨w.heap.size, 0, none⟩ = some (uV n0) ∧ wx.cell? ⟨w.heap.size, 1, none⟩ = some (uV n1) ∧ wx.cell? ⟨w.heap.size, 2, none⟩ = some (uV n2) ∧ wx.cell? ⟨w.heap.size, 3, none⟩ = some (uV n3) ∧ wx.cell? ⟨w.heap.size, 4, none⟩ = some (uV n4) ∧ wx.cell? ⟨w.heap.size, 5, none⟩ = some (uV n5) ∧ wx.cell? ⟨w.heap.size, 6, none⟩ = some (uV n6) ∧ wx.cell? ⟨w.heap.size, 7, none⟩ = some (uV n7))) := Lib.hid fun wx hx => ⟨Blk.cell ((x2.out.after hx).one.1) 0, Blk.cell ((x2.out.after hx).one.1) 1, Blk.cell ((x2.out.after hx).one.1) 2, Blk.cell ((x2.out.after hx).one.1) 3, Blk.cell ((x2.out.after hx).one.1) 4, Blk.cell ((x2.out.after hx).one.1) 5, Blk.cell ((x2.out.after hx).one.1) 6, Blk.cell ((x2.out.after hx).one.1) 7⟩
    refine wp_region_held_drew (S := (fun w' => w'.cell? ⟨w.heap.size, 0, none⟩ = some (uV n0) ∧ w'.cell? ⟨w.heap.size, 1, none⟩ = some (uV n1) ∧ w'.cell? ⟨w.heap.size, 2, none⟩ = some (uV n2) ∧ w'.cell? ⟨w.heap.size, 3, none⟩ = some (uV n3) ∧ w'.cell? ⟨w.heap.size, 4, none⟩ = some (uV n4) ∧ w'.cell? ⟨w.heap.size, 5, none⟩ = some (uV n5) ∧ w'.cell? ⟨w.heap.size, 6, none⟩ = some (uV n6) ∧ w'.cell? ⟨w.heap.size, 7, none⟩ = some (uV n7))) (by kernel_rfl) (KK.out _ HB) (fun hHeld => ?_)
    refine wpAnyH_take (i := 0) (oi := { dst := some 16, op := Op.indexAddr 51 (Operand.tmp 5) (Operand.const (Value.int IntKind.i64 0)), type := 0, pos := "law.go:92", after := #[], guard := none }) (v := ?_) rfl (by kernel_rfl) (by kernel_rfl) (by kernel_rfl) (fun _ _ _ h => h) (Or.inl ⟨by rfl, ?_⟩) (by assumption) ?_
    rotate_left 1
    · intro w hSw; (try dsimp only at hSw); go_simp; try (with_reducible rfl)
    try simp only [Act.put, List.setIfInBounds_toArray, List.set_cons_zero, List.set_cons_succ]
    refine wpAnyH_take (i := 1) (oi := { dst := some 17, op := Op.load 22 (Operand.tmp 16), type := 22, pos := "law.go:92", after := #[{ on := 0, ground := Ground.data }], guard := none }) (v := ?_) rfl (by kernel_rfl) (by kernel_rfl) (by kernel_rfl) (fun _ _ _ h => h) (Or.inl ⟨by rfl, ?_⟩) (by assumption) ?_
    rotate_left 1
    · intro w hSw; (try dsimp only at hSw); go_simp; try (with_reducible rfl)
    try simp only [Act.put, List.setIfInBounds_toArray, List.set_cons_zero, List.set_cons_succ]
    refine wpAnyH_take (i := 2) (oi := { dst := some 18, op := Op.indexAddr 51 (Operand.tmp 5) (Operand.const (Value.int IntKind.i64 1)), type := 0, pos := "law.go:92", after := #[], guard := none }) (v := ?_) rfl (by kernel_rfl) (by kernel_rfl) (by kernel_rfl) (fun _ _ _ h => h) (Or.inl ⟨by rfl, ?_⟩) (by assumption) ?_
    rotate_left 1
    · intro w hSw; (try dsimp only at hSw); go_simp; try (with_reducible rfl)
    try simp only [Act.put, List.setIfInBounds_toArray, List.set_cons_zero, List.set_cons_succ]
    refine wpAnyH_take (i := 3) (oi := { dst := some 19, op := Op.load 22 (Operand.tmp 18), type := 22, pos := "law.go:92", after := #[{ on := 2, ground := Ground.data }], guard := none }) (v := ?_) rfl (by kernel_rfl) (by kernel_rfl) (by kernel_rfl) (fun _ _ _ h => h) (Or.inl ⟨by rfl, ?_⟩) (by assumption) ?_
    rotate_left 1
    · intro w hSw; (try dsimp only at hSw); go_simp; try (with_reducible rfl)
    try simp only [Act.put, List.setIfInBounds_toArray, List.set_cons_zero, List.set_cons_succ]
    refine wpAnyH_take (i := 4) (oi := { dst := some 20, op := Op.indexAddr 51 (Operand.tmp 5) (Operand.const (Value.int IntKind.i64 2)), type := 0, pos := "law.go:92", after := #[], guard := none }) (v := ?_) rfl (by kernel_rfl) (by kernel_rfl) (by kernel_rfl) (fun _ _ _ h => h) (Or.inl ⟨by rfl, ?_⟩) (by assumption) ?_
    rotate_left 1
    · intro w hSw; (try dsimp only at hSw); go_simp; try (with_reducible rfl)
    try simp only [Act.put, List.setIfInBounds_toArray, List.set_cons_zero, List.set_cons_succ]
    refine wpAnyH_take (i := 5) (oi := { dst := some 21, op := Op.load 22 (Operand.tmp 20), type := 22, pos := "law.go:92", after := #[{ on := 4, ground := Ground.data }], guard := none }) (v := ?_) rfl (by kernel_rfl) (by kernel_rfl) (by kernel_rfl) (fun _ _ _ h => h) (Or.inl ⟨by rfl, ?_⟩) (by assumption) ?_
    rotate_left 1
    · intro w hSw; (try dsimp only at hSw); go_simp; try (with_reducible rfl)
    try simp only [Act.put, List.setIfInBounds_toArray, List.set_cons_zero, List.set_cons_succ]
    refine wpAnyH_take (i := 6) (oi := { dst := some 22, op := Op.indexAddr 51 (Operand.tmp 5) (Operand.const (Value.int IntKind.i64 3)), type := 0, pos := "law.go:92", after := #[], guard := none }) (v := ?_) rfl (by kernel_rfl) (by kernel_rfl) (by kernel_rfl) (fun _ _ _ h => h) (Or.inl ⟨by rfl, ?_⟩) (by assumption) ?_
    rotate_left 1
    · intro w hSw; (try dsimp only at hSw); go_simp; try (with_reducible rfl)
    try simp only [Act.put, List.setIfInBounds_toArray, List.set_cons_zero, List.set_cons_succ]
    refine wpAnyH_take (i := 7) (oi := { dst := some 23, op := Op.load 22 (Operand.tmp 22), type := 22, pos := "law.go:92", after := #[{ on := 6, ground := Ground.data }], guard := none }) (v := ?_) rfl (by kernel_rfl) (by kernel_rfl) (by kernel_rfl) (fun _ _ _ h => h) (Or.inl ⟨by rfl, ?_⟩) (by assumption) ?_
    rotate_left 1
    · intro w hSw; (try dsimp only at hSw); go_simp; try (with_reducible rfl)
    try simp only [Act.put, List.setIfInBounds_toArray, List.set_cons_zero, List.set_cons_succ]
    refine wpAnyH_take (i := 9) (oi := { dst := some 25, op := Op.indexAddr 51 (Operand.tmp 5) (Operand.const (Value.int IntKind.i64 4)), type := 0, pos := "law.go:92", after := #[], guard := none }) (v := ?_) rfl (by kernel_rfl) (by kernel_rfl) (by kernel_rfl) (fun _ _ _ h => h) (Or.inl ⟨by rfl, ?_⟩) (by assumption) ?_
    rotate_left 1
    · intro w hSw; (try dsimp only at hSw); go_simp; try (with_reducible rfl)
    try simp only [Act.put, List.setIfInBounds_toArray, List.set_cons_zero, List.set_cons_succ]
    refine wpAnyH_take (i := 10) (oi := { dst := some 26, op := Op.load 22 (Operand.tmp 25), type := 22, pos := "law.go:92", after := #[{ on := 9, ground := Ground.data }], guard := none }) (v := ?_) rfl (by kernel_rfl) (by kernel_rfl) (by kernel_rfl) (fun _ _ _ h => h) (Or.inl ⟨by rfl, ?_⟩) (by assumption) ?_
    rotate_left 1
    · intro w hSw; (try dsimp only at hSw); go_simp; try (with_reducible rfl)
    try simp only [Act.put, List.setIfInBounds_toArray, List.set_cons_zero, List.set_cons_succ]
    refine wpAnyH_take (i := 11) (oi := { dst := some 27, op := Op.indexAddr 51 (Operand.tmp 5) (Operand.const (Value.int IntKind.i64 5)), type := 0, pos := "law.go:92", after := #[], guard := none }) (v := ?_) rfl (by kernel_rfl) (by kernel_rfl) (by kernel_rfl) (fun _ _ _ h => h) (Or.inl ⟨by rfl, ?_⟩) (by assumption) ?_
    rotate_left 1
    · intro w hSw; (try dsimp only at hSw); go_simp; try (with_reducible rfl)
    try simp only [Act.put, List.setIfInBounds_toArray, List.set_cons_zero, List.set_cons_succ]
    refine wpAnyH_take (i := 12) (oi := { dst := some 28, op := Op.load 22 (Operand.tmp 27), type := 22, pos := "law.go:92", after := #[{ on := 11, ground := Ground.data }], guard := none }) (v := ?_) rfl (by kernel_rfl) (by kernel_rfl) (by kernel_rfl) (fun _ _ _ h => h) (Or.inl ⟨by rfl, ?_⟩) (by assumption) ?_
    rotate_left 1
    · intro w hSw; (try dsimp only at hSw); go_simp; try (with_reducible rfl)
    try simp only [Act.put, List.setIfInBounds_toArray, List.set_cons_zero, List.set_cons_succ]
    refine wpAnyH_take (i := 13) (oi := { dst := some 29, op := Op.indexAddr 51 (Operand.tmp 5) (Operand.const (Value.int IntKind.i64 6)), type := 0, pos := "law.go:92", after := #[], guard := none }) (v := ?_) rfl (by kernel_rfl) (by kernel_rfl) (by kernel_rfl) (fun _ _ _ h => h) (Or.inl ⟨by rfl, ?_⟩) (by assumption) ?_
    rotate_left 1
    · intro w hSw; (try dsimp only at hSw); go_simp; try (with_reducible rfl)
    try simp only [Act.put, List.setIfInBounds_toArray, List.set_cons_zero, List.set_cons_succ]
    refine wpAnyH_take (i := 14) (oi := { dst := some 30, op := Op.load 22 (Operand.tmp 29), type := 22, pos := "law.go:92", after := #[{ on := 13, ground := Ground.data }], guard := none }) (v := ?_) rfl (by kernel_rfl) (by kernel_rfl) (by kernel_rfl) (fun _ _ _ h => h) (Or.inl ⟨by rfl, ?_⟩) (by assumption) ?_
    rotate_left 1
    · intro w hSw; (try dsimp only at hSw); go_simp; try (with_reducible rfl)
    try simp only [Act.put, List.setIfInBounds_toArray, List.set_cons_zero, List.set_cons_succ]
    refine wpAnyH_take (i := 15) (oi := { dst := some 31, op := Op.indexAddr 51 (Operand.tmp 5) (Operand.const (Value.int IntKind.i64 7)), type := 0, pos := "law.go:92", after := #[], guard := none }) (v := ?_) rfl (by kernel_rfl) (by kernel_rfl) (by kernel_rfl) (fun _ _ _ h => h) (Or.inl ⟨by rfl, ?_⟩) (by assumption) ?_
    rotate_left 1
    · intro w hSw; (try dsimp only at hSw); go_simp; try (with_reducible rfl)
    try simp only [Act.put, List.setIfInBounds_toArray, List.set_cons_zero, List.set_cons_succ]
    refine wpAnyH_take (i := 16) (oi := { dst := some 32, op := Op.load 22 (Operand.tmp 31), type := 22, pos := "law.go:92", after := #[{ on := 15, ground := Ground.data }], guard := none }) (v := ?_) rfl (by kernel_rfl) (by kernel_rfl) (by kernel_rfl) (fun _ _ _ h => h) (Or.inl ⟨by rfl, ?_⟩) (by assumption) ?_
    rotate_left 1
    · intro w hSw; (try dsimp only at hSw); go_simp; try (with_reducible rfl)
    try simp only [Act.put, List.setIfInBounds_toArray, List.set_cons_zero, List.set_cons_succ]
    refine wpAnyH_ready (rs := [8, 18, 19]) (by kernel_rfl) (by simp) ?_
    refine AllReadyH.cons (o := { dst := some 24, op := Op.call { callee := Callee.value (Operand.func 35), args := #[Operand.tmp 17, Operand.tmp 19, Operand.tmp 21, Operand.tmp 23], argTypes := #[22, 22, 22, 22] }, type := 28, pos := "law.go:92", after := #[{ on := 1, ground := Ground.data }, { on := 3, ground := Ground.data }, { on := 5, ground := Ground.data }, { on := 7, ground := Ground.data }], guard := none }) rfl (fun K hK => ?_) (AllReadyH.cons (o := { dst := some 8, op := Op.alloc 28, type := 0, pos := "law.go:92", after := #[], guard := none }) rfl (fun K hK => ?_) (AllReadyH.cons (o := { dst := some 9, op := Op.alloc 28, type := 0, pos := "law.go:92", after := #[], guard := none }) rfl (fun K hK => ?_) AllReadyH.nil))
    · skip
      go_simp
      refine (M1.out _).mono ?_; rintro e w6 ⟨rfl, hb⟩
      replace HB := below_next' HB hb
      clear hb
      have mw6 := HB.size
      go_wp2_with fail
      refine hK.out _ _ (KK.out _ HB) (fun hHeld => ?_)
      clear hK K
      try simp only [Act.put, List.setIfInBounds_toArray, List.set_cons_zero, List.set_cons_succ]
      refine wpAnyH_ready (rs := [17, 18, 19]) (by kernel_rfl) (by simp) ?_
      refine AllReadyH.cons (o := { dst := some 33, op := Op.call { callee := Callee.value (Operand.func 35), args := #[Operand.tmp 26, Operand.tmp 28, Operand.tmp 30, Operand.tmp 32], argTypes := #[22, 22, 22, 22] }, type := 28, pos := "law.go:92", after := #[{ on := 10, ground := Ground.data }, { on := 12, ground := Ground.data }, { on := 14, ground := Ground.data }, { on := 16, ground := Ground.data }, { on := 8, ground := Ground.chain }], guard := none }) rfl (fun K hK => ?_) (AllReadyH.cons (o := { dst := some 8, op := Op.alloc 28, type := 0, pos := "law.go:92", after := #[], guard := none }) rfl (fun K hK => ?_) (AllReadyH.cons (o := { dst := some 9, op := Op.alloc 28, type := 0, pos := "law.go:92", after := #[], guard := none }) rfl (fun K hK => ?_) AllReadyH.nil))
      · skip
        go_simp
        refine (M2.out _).mono ?_; rintro e w7 ⟨rfl, hb⟩
        replace HB := below_next' HB hb
        clear hb
        have mw7 := HB.size
        go_wp2_with fail
        refine hK.out _ _ (KK.out _ HB) (fun hHeld => ?_)
        clear hK K
        try simp only [Act.put, List.setIfInBounds_toArray, List.set_cons_zero, List.set_cons_succ]
        refine wpAnyH_ready (rs := [18, 19]) (by kernel_rfl) (by simp) ?_
        refine AllReadyH.cons (o := { dst := some 8, op := Op.alloc 28, type := 0, pos := "law.go:92", after := #[], guard := none }) rfl (fun K hK => ?_) (AllReadyH.cons (o := { dst := some 9, op := Op.alloc 28, type := 0, pos := "law.go:92", after := #[], guard := none }) rfl (fun K hK => ?_) AllReadyH.nil)
        · skip
          go_simp
          refine hK.out _ _ (KK.out _ (below_alloc HB _)) (fun hHeld => ?_)
          clear hK K
          try simp only [Act.put, List.setIfInBounds_toArray, List.set_cons_zero, List.set_cons_succ]
          refine wpAnyH_ready (rs := [19]) (by kernel_rfl) (by simp) ?_
          refine AllReadyH.cons (o := { dst := some 9, op := Op.alloc 28, type := 0, pos := "law.go:92", after := #[], guard := none }) rfl (fun K hK => ?_) AllReadyH.nil
          · skip
            go_simp
            refine hK.out _ _ (KK.out _ (below_alloc (below_alloc HB _) _)) (fun hHeld => ?_)
            clear hK K
            try simp only [Act.put, List.setIfInBounds_toArray, List.set_cons_zero, List.set_cons_succ]
            refine wpAnyH_ready (rs := [20]) (by kernel_rfl) (by simp) ?_
            refine AllReadyH.cons (o := { dst := none, op := Op.store 28 (Operand.tmp 8) (Operand.tmp 24), type := 0, pos := "law.go:92", after := #[{ on := 18, ground := Ground.data }, { on := 8, ground := Ground.data }, { on := 17, ground := Ground.chain }, { on := 0, ground := Ground.phase }, { on := 1, ground := Ground.phase }, { on := 2, ground := Ground.phase }, { on := 3, ground := Ground.phase }, { on := 4, ground := Ground.phase }, { on := 5, ground := Ground.phase }, { on := 6, ground := Ground.phase }, { on := 7, ground := Ground.phase }, { on := 8, ground := Ground.phase }, { on := 9, ground := Ground.textOnly Departure.lateStores }, { on := 10, ground := Ground.textOnly Departure.lateStores }, { on := 11, ground := Ground.textOnly Departure.lateStores }, { on := 12, ground := Ground.textOnly Departure.lateStores }, { on := 13, ground := Ground.textOnly Departure.lateStores }, { on := 14, ground := Ground.textOnly Departure.lateStores }, { on := 15, ground := Ground.textOnly Departure.lateStores }, { on := 16, ground := Ground.textOnly Departure.lateStores }, { on := 17, ground := Ground.textOnly Departure.lateStoresUnsure }, { on := 18, ground := Ground.phase }, { on := 19, ground := Ground.phase }], guard := none }) rfl (fun K hK => ?_) AllReadyH.nil
            · skip
              go_simp
              refine hK.out _ _ (KK.out _ (below_alloc (below_alloc HB _) _)) (fun hHeld => ?_)
              clear hK K
              try simp only [Act.put, List.setIfInBounds_toArray, List.set_cons_zero, List.set_cons_succ]
              refine wpAnyH_ready (rs := [21]) (by kernel_rfl) (by simp) ?_
              refine AllReadyH.cons (o := { dst := none, op := Op.store 28 (Operand.tmp 9) (Operand.tmp 33), type := 0, pos := "law.go:92", after := #[{ on := 19, ground := Ground.data }, { on := 17, ground := Ground.data }, { on := 20, ground := Ground.chain }, { on := 0, ground := Ground.phase }, { on := 1, ground := Ground.phase }, { on := 2, ground := Ground.phase }, { on := 3, ground := Ground.phase }, { on := 4, ground := Ground.phase }, { on := 5, ground := Ground.phase }, { on := 6, ground := Ground.phase }, { on := 7, ground := Ground.phase }, { on := 8, ground := Ground.phase }, { on := 9, ground := Ground.phase }, { on := 10, ground := Ground.phase }, { on := 11, ground := Ground.phase }, { on := 12, ground := Ground.phase }, { on := 13, ground := Ground.phase }, { on := 14, ground := Ground.phase }, { on := 15, ground := Ground.phase }, { on := 16, ground := Ground.phase }, { on := 17, ground := Ground.phase }, { on := 18, ground := Ground.phase }, { on := 19, ground := Ground.phase }, { on := 20, ground := Ground.phase }], guard := none }) rfl (fun K hK => ?_) AllReadyH.nil
              · skip
                go_simp
                refine hK.out _ _ (KK.out _ (below_alloc (below_alloc HB _) _)) (fun hHeld => ?_)
                clear hK K
                try simp only [Act.put, List.setIfInBounds_toArray, List.set_cons_zero, List.set_cons_succ]
                refine wpAnyH_done (by kernel_rfl) ?_ _
                go_wp2_with fail
                go_meet
                exact ⟨_, _, rfl, rfl, Lib.hid ⟨x2.out.after (below_alloc (below_alloc HB _) _), (fB.alloc (fB.new _ a (by simp)) _), (fB.new _ b (by simp))⟩⟩
        · skip
          go_simp
          refine hK.out _ _ (KK.out _ (below_alloc HB _)) (fun hHeld => ?_)
          clear hK K
          try simp only [Act.put, List.setIfInBounds_toArray, List.set_cons_zero, List.set_cons_succ]
          refine wpAnyH_ready (rs := [18]) (by kernel_rfl) (by simp) ?_
          refine AllReadyH.cons (o := { dst := some 8, op := Op.alloc 28, type := 0, pos := "law.go:92", after := #[], guard := none }) rfl (fun K hK => ?_) AllReadyH.nil
          · skip
            go_simp
            refine hK.out _ _ (KK.out _ (below_alloc (below_alloc HB _) _)) (fun hHeld => ?_)
            clear hK K
            try simp only [Act.put, List.setIfInBounds_toArray, List.set_cons_zero, List.set_cons_succ]
            refine wpAnyH_ready (rs := [20]) (by kernel_rfl) (by simp) ?_
            refine AllReadyH.cons (o := { dst := none, op := Op.store 28 (Operand.tmp 8) (Operand.tmp 24), type := 0, pos := "law.go:92", after := #[{ on := 18, ground := Ground.data }, { on := 8, ground := Ground.data }, { on := 17, ground := Ground.chain }, { on := 0, ground := Ground.phase }, { on := 1, ground := Ground.phase }, { on := 2, ground := Ground.phase }, { on := 3, ground := Ground.phase }, { on := 4, ground := Ground.phase }, { on := 5, ground := Ground.phase }, { on := 6, ground := Ground.phase }, { on := 7, ground := Ground.phase }, { on := 8, ground := Ground.phase }, { on := 9, ground := Ground.textOnly Departure.lateStores }, { on := 10, ground := Ground.textOnly Departure.lateStores }, { on := 11, ground := Ground.textOnly Departure.lateStores }, { on := 12, ground := Ground.textOnly Departure.lateStores }, { on := 13, ground := Ground.textOnly Departure.lateStores }, { on := 14, ground := Ground.textOnly Departure.lateStores }, { on := 15, ground := Ground.textOnly Departure.lateStores }, { on := 16, ground := Ground.textOnly Departure.lateStores }, { on := 17, ground := Ground.textOnly Departure.lateStoresUnsure }, { on := 18, ground := Ground.phase }, { on := 19, ground := Ground.phase }], guard := none }) rfl (fun K hK => ?_) AllReadyH.nil
            · skip
              go_simp
              refine hK.out _ _ (KK.out _ (below_alloc (below_alloc HB _) _)) (fun hHeld => ?_)
              clear hK K
              try simp only [Act.put, List.setIfInBounds_toArray, List.set_cons_zero, List.set_cons_succ]
              refine wpAnyH_ready (rs := [21]) (by kernel_rfl) (by simp) ?_
              refine AllReadyH.cons (o := { dst := none, op := Op.store 28 (Operand.tmp 9) (Operand.tmp 33), type := 0, pos := "law.go:92", after := #[{ on := 19, ground := Ground.data }, { on := 17, ground := Ground.data }, { on := 20, ground := Ground.chain }, { on := 0, ground := Ground.phase }, { on := 1, ground := Ground.phase }, { on := 2, ground := Ground.phase }, { on := 3, ground := Ground.phase }, { on := 4, ground := Ground.phase }, { on := 5, ground := Ground.phase }, { on := 6, ground := Ground.phase }, { on := 7, ground := Ground.phase }, { on := 8, ground := Ground.phase }, { on := 9, ground := Ground.phase }, { on := 10, ground := Ground.phase }, { on := 11, ground := Ground.phase }, { on := 12, ground := Ground.phase }, { on := 13, ground := Ground.phase }, { on := 14, ground := Ground.phase }, { on := 15, ground := Ground.phase }, { on := 16, ground := Ground.phase }, { on := 17, ground := Ground.phase }, { on := 18, ground := Ground.phase }, { on := 19, ground := Ground.phase }, { on := 20, ground := Ground.phase }], guard := none }) rfl (fun K hK => ?_) AllReadyH.nil
              · skip
                go_simp
                refine hK.out _ _ (KK.out _ (below_alloc (below_alloc HB _) _)) (fun hHeld => ?_)
                clear hK K
                try simp only [Act.put, List.setIfInBounds_toArray, List.set_cons_zero, List.set_cons_succ]
                refine wpAnyH_done (by kernel_rfl) ?_ _
                go_wp2_with fail
                go_meet
                exact ⟨_, _, rfl, rfl, Lib.hid ⟨x2.out.after (below_alloc (below_alloc HB _) _), (fB.new _ a (by simp)), (fB.alloc (fB.new _ b (by simp)) _)⟩⟩
      · skip
        go_simp
        refine hK.out _ _ (KK.out _ (below_alloc HB _)) (fun hHeld => ?_)
        clear hK K
        try simp only [Act.put, List.setIfInBounds_toArray, List.set_cons_zero, List.set_cons_succ]
        refine wpAnyH_ready (rs := [17, 19]) (by kernel_rfl) (by simp) ?_
        refine AllReadyH.cons (o := { dst := some 33, op := Op.call { callee := Callee.value (Operand.func 35), args := #[Operand.tmp 26, Operand.tmp 28, Operand.tmp 30, Operand.tmp 32], argTypes := #[22, 22, 22, 22] }, type := 28, pos := "law.go:92", after := #[{ on := 10, ground := Ground.data }, { on := 12, ground := Ground.data }, { on := 14, ground := Ground.data }, { on := 16, ground := Ground.data }, { on := 8, ground := Ground.chain }], guard := none }) rfl (fun K hK => ?_) (AllReadyH.cons (o := { dst := some 9, op := Op.alloc 28, type := 0, pos := "law.go:92", after := #[], guard := none }) rfl (fun K hK => ?_) AllReadyH.nil)
        · skip
          go_simp
          refine (M2.out _).mono ?_; rintro e w7 ⟨rfl, hb⟩
          have Ta := nB.one hb
          replace HB := below_next' (below_alloc HB _) hb
          clear hb
          have mw7 := HB.size
          have law7 := Blk.lt Ta
          go_wp2_with fail
          obtain ⟨ta0, ta1, ta2, ta3⟩ := Ta.cells
          obtain ⟨fa0, fa1, fa2, fa3⟩ := Ta.free
          refine hK.out _ _ (KK.out _ HB) (fun hHeld => ?_)
          clear hK K
          try simp only [Act.put, List.setIfInBounds_toArray, List.set_cons_zero, List.set_cons_succ]
          refine wpAnyH_ready (rs := [19]) (by kernel_rfl) (by simp) ?_
          refine AllReadyH.cons (o := { dst := some 9, op := Op.alloc 28, type := 0, pos := "law.go:92", after := #[], guard := none }) rfl (fun K hK => ?_) AllReadyH.nil
          · skip
            go_simp
            refine hK.out _ _ (KK.out _ (below_alloc HB _)) (fun hHeld => ?_)
            clear hK K
            try simp only [Act.put, List.setIfInBounds_toArray, List.set_cons_zero, List.set_cons_succ]
            refine wpAnyH_ready (rs := [20]) (by kernel_rfl) (by simp) ?_
            refine AllReadyH.cons (o := { dst := none, op := Op.store 28 (Operand.tmp 8) (Operand.tmp 24), type := 0, pos := "law.go:92", after := #[{ on := 18, ground := Ground.data }, { on := 8, ground := Ground.data }, { on := 17, ground := Ground.chain }, { on := 0, ground := Ground.phase }, { on := 1, ground := Ground.phase }, { on := 2, ground := Ground.phase }, { on := 3, ground := Ground.phase }, { on := 4, ground := Ground.phase }, { on := 5, ground := Ground.phase }, { on := 6, ground := Ground.phase }, { on := 7, ground := Ground.phase }, { on := 8, ground := Ground.phase }, { on := 9, ground := Ground.textOnly Departure.lateStores }, { on := 10, ground := Ground.textOnly Departure.lateStores }, { on := 11, ground := Ground.textOnly Departure.lateStores }, { on := 12, ground := Ground.textOnly Departure.lateStores }, { on := 13, ground := Ground.textOnly Departure.lateStores }, { on := 14, ground := Ground.textOnly Departure.lateStores }, { on := 15, ground := Ground.textOnly Departure.lateStores }, { on := 16, ground := Ground.textOnly Departure.lateStores }, { on := 17, ground := Ground.textOnly Departure.lateStoresUnsure }, { on := 18, ground := Ground.phase }, { on := 19, ground := Ground.phase }], guard := none }) rfl (fun K hK => ?_) AllReadyH.nil
            · skip
              go_simp
              refine hK.out _ _ (KK.out _ (below_alloc (below_4v HB (by omega) _ _ _ _) _)) (fun hHeld => ?_)
              clear hK K
              try simp only [Act.put, List.setIfInBounds_toArray, List.set_cons_zero, List.set_cons_succ]
              refine wpAnyH_ready (rs := [21]) (by kernel_rfl) (by simp) ?_
              refine AllReadyH.cons (o := { dst := none, op := Op.store 28 (Operand.tmp 9) (Operand.tmp 33), type := 0, pos := "law.go:92", after := #[{ on := 19, ground := Ground.data }, { on := 17, ground := Ground.data }, { on := 20, ground := Ground.chain }, { on := 0, ground := Ground.phase }, { on := 1, ground := Ground.phase }, { on := 2, ground := Ground.phase }, { on := 3, ground := Ground.phase }, { on := 4, ground := Ground.phase }, { on := 5, ground := Ground.phase }, { on := 6, ground := Ground.phase }, { on := 7, ground := Ground.phase }, { on := 8, ground := Ground.phase }, { on := 9, ground := Ground.phase }, { on := 10, ground := Ground.phase }, { on := 11, ground := Ground.phase }, { on := 12, ground := Ground.phase }, { on := 13, ground := Ground.phase }, { on := 14, ground := Ground.phase }, { on := 15, ground := Ground.phase }, { on := 16, ground := Ground.phase }, { on := 17, ground := Ground.phase }, { on := 18, ground := Ground.phase }, { on := 19, ground := Ground.phase }, { on := 20, ground := Ground.phase }], guard := none }) rfl (fun K hK => ?_) AllReadyH.nil
              · skip
                go_simp
                refine hK.out _ _ (KK.out _ (below_alloc (below_4v HB (by omega) _ _ _ _) _)) (fun hHeld => ?_)
                clear hK K
                try simp only [Act.put, List.setIfInBounds_toArray, List.set_cons_zero, List.set_cons_succ]
                refine wpAnyH_done (by kernel_rfl) ?_ _
                go_wp2_with fail
                go_meet
                exact ⟨_, _, rfl, rfl, Lib.hid ⟨x2.out.after (below_alloc (below_4v HB (by omega) _ _ _ _) _), (fB.alloc (fB.set Ta.fB a) _), (fB.new _ b (by simp))⟩⟩
        · skip
          go_simp
          refine hK.out _ _ (KK.out _ (below_alloc (below_alloc HB _) _)) (fun hHeld => ?_)
          clear hK K
          try simp only [Act.put, List.setIfInBounds_toArray, List.set_cons_zero, List.set_cons_succ]
          refine wpAnyH_ready (rs := [17]) (by kernel_rfl) (by simp) ?_
          refine AllReadyH.cons (o := { dst := some 33, op := Op.call { callee := Callee.value (Operand.func 35), args := #[Operand.tmp 26, Operand.tmp 28, Operand.tmp 30, Operand.tmp 32], argTypes := #[22, 22, 22, 22] }, type := 28, pos := "law.go:92", after := #[{ on := 10, ground := Ground.data }, { on := 12, ground := Ground.data }, { on := 14, ground := Ground.data }, { on := 16, ground := Ground.data }, { on := 8, ground := Ground.chain }], guard := none }) rfl (fun K hK => ?_) AllReadyH.nil
          · skip
            go_simp
            refine (M2.out _).mono ?_; rintro e w7 ⟨rfl, hb⟩
            have TT := nB.two hb
            obtain ⟨Ta, Tb⟩ := TT
            replace HB := below_next' (below_alloc (below_alloc HB _) _) hb
            clear hb
            have mw7 := HB.size
            have law7 := Blk.lt Ta
            have lbw7 := Blk.lt Tb
            go_wp2_with fail
            obtain ⟨ta0, ta1, ta2, ta3⟩ := Ta.cells
            obtain ⟨fa0, fa1, fa2, fa3⟩ := Ta.free
            obtain ⟨tb0, tb1, tb2, tb3⟩ := Tb.cells
            obtain ⟨fb0, fb1, fb2, fb3⟩ := Tb.free
            refine hK.out _ _ (KK.out _ HB) (fun hHeld => ?_)
            clear hK K
            try simp only [Act.put, List.setIfInBounds_toArray, List.set_cons_zero, List.set_cons_succ]
            refine wpAnyH_ready (rs := [20]) (by kernel_rfl) (by simp) ?_
            refine AllReadyH.cons (o := { dst := none, op := Op.store 28 (Operand.tmp 8) (Operand.tmp 24), type := 0, pos := "law.go:92", after := #[{ on := 18, ground := Ground.data }, { on := 8, ground := Ground.data }, { on := 17, ground := Ground.chain }, { on := 0, ground := Ground.phase }, { on := 1, ground := Ground.phase }, { on := 2, ground := Ground.phase }, { on := 3, ground := Ground.phase }, { on := 4, ground := Ground.phase }, { on := 5, ground := Ground.phase }, { on := 6, ground := Ground.phase }, { on := 7, ground := Ground.phase }, { on := 8, ground := Ground.phase }, { on := 9, ground := Ground.textOnly Departure.lateStores }, { on := 10, ground := Ground.textOnly Departure.lateStores }, { on := 11, ground := Ground.textOnly Departure.lateStores }, { on := 12, ground := Ground.textOnly Departure.lateStores }, { on := 13, ground := Ground.textOnly Departure.lateStores }, { on := 14, ground := Ground.textOnly Departure.lateStores }, { on := 15, ground := Ground.textOnly Departure.lateStores }, { on := 16, ground := Ground.textOnly Departure.lateStores }, { on := 17, ground := Ground.textOnly Departure.lateStoresUnsure }, { on := 18, ground := Ground.phase }, { on := 19, ground := Ground.phase }], guard := none }) rfl (fun K hK => ?_) AllReadyH.nil
            · skip
              go_simp
              refine hK.out _ _ (KK.out _ (below_4v HB (by omega) _ _ _ _)) (fun hHeld => ?_)
              clear hK K
              try simp only [Act.put, List.setIfInBounds_toArray, List.set_cons_zero, List.set_cons_succ]
              refine wpAnyH_ready (rs := [21]) (by kernel_rfl) (by simp) ?_
              refine AllReadyH.cons (o := { dst := none, op := Op.store 28 (Operand.tmp 9) (Operand.tmp 33), type := 0, pos := "law.go:92", after := #[{ on := 19, ground := Ground.data }, { on := 17, ground := Ground.data }, { on := 20, ground := Ground.chain }, { on := 0, ground := Ground.phase }, { on := 1, ground := Ground.phase }, { on := 2, ground := Ground.phase }, { on := 3, ground := Ground.phase }, { on := 4, ground := Ground.phase }, { on := 5, ground := Ground.phase }, { on := 6, ground := Ground.phase }, { on := 7, ground := Ground.phase }, { on := 8, ground := Ground.phase }, { on := 9, ground := Ground.phase }, { on := 10, ground := Ground.phase }, { on := 11, ground := Ground.phase }, { on := 12, ground := Ground.phase }, { on := 13, ground := Ground.phase }, { on := 14, ground := Ground.phase }, { on := 15, ground := Ground.phase }, { on := 16, ground := Ground.phase }, { on := 17, ground := Ground.phase }, { on := 18, ground := Ground.phase }, { on := 19, ground := Ground.phase }, { on := 20, ground := Ground.phase }], guard := none }) rfl (fun K hK => ?_) AllReadyH.nil
              · skip
                go_simp
                refine hK.out _ _ (KK.out _ (below_4v (below_4v HB (by omega) _ _ _ _) (by omega) _ _ _ _)) (fun hHeld => ?_)
                clear hK K
                try simp only [Act.put, List.setIfInBounds_toArray, List.set_cons_zero, List.set_cons_succ]
                refine wpAnyH_done (by kernel_rfl) ?_ _
                go_wp2_with fail
                go_meet
                exact ⟨_, _, rfl, rfl, Lib.hid ⟨x2.out.after (below_4v (below_4v HB (by omega) _ _ _ _) (by omega) _ _ _ _), (fB.others (fB.set Ta.fB a) (by omega)), (fB.set (fB.others Tb.fB (by omega)) b)⟩⟩
      · skip
        go_simp
        refine hK.out _ _ (KK.out _ (below_alloc HB _)) (fun hHeld => ?_)
        clear hK K
        try simp only [Act.put, List.setIfInBounds_toArray, List.set_cons_zero, List.set_cons_succ]
        refine wpAnyH_ready (rs := [17, 18]) (by kernel_rfl) (by simp) ?_
        refine AllReadyH.cons (o := { dst := some 33, op := Op.call { callee := Callee.value (Operand.func 35), args := #[Operand.tmp 26, Operand.tmp 28, Operand.tmp 30, Operand.tmp 32], argTypes := #[22, 22, 22, 22] }, type := 28, pos := "law.go:92", after := #[{ on := 10, ground := Ground.data }, { on := 12, ground := Ground.data }, { on := 14, ground := Ground.data }, { on := 16, ground := Ground.data }, { on := 8, ground := Ground.chain }], guard := none }) rfl (fun K hK => ?_) (AllReadyH.cons (o := { dst := some 8, op := Op.alloc 28, type := 0, pos := "law.go:92", after := #[], guard := none }) rfl (fun K hK => ?_) AllReadyH.nil)
        · skip
          go_simp
          refine (M2.out _).mono ?_; rintro e w7 ⟨rfl, hb⟩
          have Tb := nB.one hb
          replace HB := below_next' (below_alloc HB _) hb
          clear hb
          have mw7 := HB.size
          have lbw7 := Blk.lt Tb
          go_wp2_with fail
          obtain ⟨tb0, tb1, tb2, tb3⟩ := Tb.cells
          obtain ⟨fb0, fb1, fb2, fb3⟩ := Tb.free
          refine hK.out _ _ (KK.out _ HB) (fun hHeld => ?_)
          clear hK K
          try simp only [Act.put, List.setIfInBounds_toArray, List.set_cons_zero, List.set_cons_succ]
          refine wpAnyH_ready (rs := [18]) (by kernel_rfl) (by simp) ?_
          refine AllReadyH.cons (o := { dst := some 8, op := Op.alloc 28, type := 0, pos := "law.go:92", after := #[], guard := none }) rfl (fun K hK => ?_) AllReadyH.nil
          · skip
            go_simp
            refine hK.out _ _ (KK.out _ (below_alloc HB _)) (fun hHeld => ?_)
            clear hK K
            try simp only [Act.put, List.setIfInBounds_toArray, List.set_cons_zero, List.set_cons_succ]
            refine wpAnyH_ready (rs := [20]) (by kernel_rfl) (by simp) ?_
            refine AllReadyH.cons (o := { dst := none, op := Op.store 28 (Operand.tmp 8) (Operand.tmp 24), type := 0, pos := "law.go:92", after := #[{ on := 18, ground := Ground.data }, { on := 8, ground := Ground.data }, { on := 17, ground := Ground.chain }, { on := 0, ground := Ground.phase }, { on := 1, ground := Ground.phase }, { on := 2, ground := Ground.phase }, { on := 3, ground := Ground.phase }, { on := 4, ground := Ground.phase }, { on := 5, ground := Ground.phase }, { on := 6, ground := Ground.phase }, { on := 7, ground := Ground.phase }, { on := 8, ground := Ground.phase }, { on := 9, ground := Ground.textOnly Departure.lateStores }, { on := 10, ground := Ground.textOnly Departure.lateStores }, { on := 11, ground := Ground.textOnly Departure.lateStores }, { on := 12, ground := Ground.textOnly Departure.lateStores }, { on := 13, ground := Ground.textOnly Departure.lateStores }, { on := 14, ground := Ground.textOnly Departure.lateStores }, { on := 15, ground := Ground.textOnly Departure.lateStores }, { on := 16, ground := Ground.textOnly Departure.lateStores }, { on := 17, ground := Ground.textOnly Departure.lateStoresUnsure }, { on := 18, ground := Ground.phase }, { on := 19, ground := Ground.phase }], guard := none }) rfl (fun K hK => ?_) AllReadyH.nil
            · skip
              go_simp
              refine hK.out _ _ (KK.out _ (below_alloc HB _)) (fun hHeld => ?_)
              clear hK K
              try simp only [Act.put, List.setIfInBounds_toArray, List.set_cons_zero, List.set_cons_succ]
              refine wpAnyH_ready (rs := [21]) (by kernel_rfl) (by simp) ?_
              refine AllReadyH.cons (o := { dst := none, op := Op.store 28 (Operand.tmp 9) (Operand.tmp 33), type := 0, pos := "law.go:92", after := #[{ on := 19, ground := Ground.data }, { on := 17, ground := Ground.data }, { on := 20, ground := Ground.chain }, { on := 0, ground := Ground.phase }, { on := 1, ground := Ground.phase }, { on := 2, ground := Ground.phase }, { on := 3, ground := Ground.phase }, { on := 4, ground := Ground.phase }, { on := 5, ground := Ground.phase }, { on := 6, ground := Ground.phase }, { on := 7, ground := Ground.phase }, { on := 8, ground := Ground.phase }, { on := 9, ground := Ground.phase }, { on := 10, ground := Ground.phase }, { on := 11, ground := Ground.phase }, { on := 12, ground := Ground.phase }, { on := 13, ground := Ground.phase }, { on := 14, ground := Ground.phase }, { on := 15, ground := Ground.phase }, { on := 16, ground := Ground.phase }, { on := 17, ground := Ground.phase }, { on := 18, ground := Ground.phase }, { on := 19, ground := Ground.phase }, { on := 20, ground := Ground.phase }], guard := none }) rfl (fun K hK => ?_) AllReadyH.nil
              · skip
                go_simp
                refine hK.out _ _ (KK.out _ (below_alloc (below_4v HB (by omega) _ _ _ _) _)) (fun hHeld => ?_)
                clear hK K
                try simp only [Act.put, List.setIfInBounds_toArray, List.set_cons_zero, List.set_cons_succ]
                refine wpAnyH_done (by kernel_rfl) ?_ _
                go_wp2_with fail
                go_meet
                exact ⟨_, _, rfl, rfl, Lib.hid ⟨x2.out.after (below_alloc (below_4v HB (by omega) _ _ _ _) _), (fB.new _ a (by simp)), (fB.alloc (fB.set Tb.fB b) _)⟩⟩
        · skip
          go_simp
          refine hK.out _ _ (KK.out _ (below_alloc (below_alloc HB _) _)) (fun hHeld => ?_)
          clear hK K
          try simp only [Act.put, List.setIfInBounds_toArray, List.set_cons_zero, List.set_cons_succ]
          refine wpAnyH_ready (rs := [17]) (by kernel_rfl) (by simp) ?_
          refine AllReadyH.cons (o := { dst := some 33, op := Op.call { callee := Callee.value (Operand.func 35), args := #[Operand.tmp 26, Operand.tmp 28, Operand.tmp 30, Operand.tmp 32], argTypes := #[22, 22, 22, 22] }, type := 28, pos := "law.go:92", after := #[{ on := 10, ground := Ground.data }, { on := 12, ground := Ground.data }, { on := 14, ground := Ground.data }, { on := 16, ground := Ground.data }, { on := 8, ground := Ground.chain }], guard := none }) rfl (fun K hK => ?_) AllReadyH.nil
          · skip
            go_simp
            refine (M2.out _).mono ?_; rintro e w7 ⟨rfl, hb⟩
            have TT := nB.two hb
            obtain ⟨Tb, Ta⟩ := TT
            replace HB := below_next' (below_alloc (below_alloc HB _) _) hb
            clear hb
            have mw7 := HB.size
            have lbw7 := Blk.lt Tb
            have law7 := Blk.lt Ta
            go_wp2_with fail
            obtain ⟨tb0, tb1, tb2, tb3⟩ := Tb.cells
            obtain ⟨fb0, fb1, fb2, fb3⟩ := Tb.free
            obtain ⟨ta0, ta1, ta2, ta3⟩ := Ta.cells
            obtain ⟨fa0, fa1, fa2, fa3⟩ := Ta.free
            refine hK.out _ _ (KK.out _ HB) (fun hHeld => ?_)
            clear hK K
            try simp only [Act.put, List.setIfInBounds_toArray, List.set_cons_zero, List.set_cons_succ]
            refine wpAnyH_ready (rs := [20]) (by kernel_rfl) (by simp) ?_
            refine AllReadyH.cons (o := { dst := none, op := Op.store 28 (Operand.tmp 8) (Operand.tmp 24), type := 0, pos := "law.go:92", after := #[{ on := 18, ground := Ground.data }, { on := 8, ground := Ground.data }, { on := 17, ground := Ground.chain }, { on := 0, ground := Ground.phase }, { on := 1, ground := Ground.phase }, { on := 2, ground := Ground.phase }, { on := 3, ground := Ground.phase }, { on := 4, ground := Ground.phase }, { on := 5, ground := Ground.phase }, { on := 6, ground := Ground.phase }, { on := 7, ground := Ground.phase }, { on := 8, ground := Ground.phase }, { on := 9, ground := Ground.textOnly Departure.lateStores }, { on := 10, ground := Ground.textOnly Departure.lateStores }, { on := 11, ground := Ground.textOnly Departure.lateStores }, { on := 12, ground := Ground.textOnly Departure.lateStores }, { on := 13, ground := Ground.textOnly Departure.lateStores }, { on := 14, ground := Ground.textOnly Departure.lateStores }, { on := 15, ground := Ground.textOnly Departure.lateStores }, { on := 16, ground := Ground.textOnly Departure.lateStores }, { on := 17, ground := Ground.textOnly Departure.lateStoresUnsure }, { on := 18, ground := Ground.phase }, { on := 19, ground := Ground.phase }], guard := none }) rfl (fun K hK => ?_) AllReadyH.nil
            · skip
              go_simp
              refine hK.out _ _ (KK.out _ (below_4v HB (by omega) _ _ _ _)) (fun hHeld => ?_)
              clear hK K
              try simp only [Act.put, List.setIfInBounds_toArray, List.set_cons_zero, List.set_cons_succ]
              refine wpAnyH_ready (rs := [21]) (by kernel_rfl) (by simp) ?_
              refine AllReadyH.cons (o := { dst := none, op := Op.store 28 (Operand.tmp 9) (Operand.tmp 33), type := 0, pos := "law.go:92", after := #[{ on := 19, ground := Ground.data }, { on := 17, ground := Ground.data }, { on := 20, ground := Ground.chain }, { on := 0, ground := Ground.phase }, { on := 1, ground := Ground.phase }, { on := 2, ground := Ground.phase }, { on := 3, ground := Ground.phase }, { on := 4, ground := Ground.phase }, { on := 5, ground := Ground.phase }, { on := 6, ground := Ground.phase }, { on := 7, ground := Ground.phase }, { on := 8, ground := Ground.phase }, { on := 9, ground := Ground.phase }, { on := 10, ground := Ground.phase }, { on := 11, ground := Ground.phase }, { on := 12, ground := Ground.phase }, { on := 13, ground := Ground.phase }, { on := 14, ground := Ground.phase }, { on := 15, ground := Ground.phase }, { on := 16, ground := Ground.phase }, { on := 17, ground := Ground.phase }, { on := 18, ground := Ground.phase }, { on := 19, ground := Ground.phase }, { on := 20, ground := Ground.phase }], guard := none }) rfl (fun K hK => ?_) AllReadyH.nil
              · skip
                go_simp
                refine hK.out _ _ (KK.out _ (below_4v (below_4v HB (by omega) _ _ _ _) (by omega) _ _ _ _)) (fun hHeld => ?_)
                clear hK K
                try simp only [Act.put, List.setIfInBounds_toArray, List.set_cons_zero, List.set_cons_succ]
                refine wpAnyH_done (by kernel_rfl) ?_ _
                go_wp2_with fail
                go_meet
                exact ⟨_, _, rfl, rfl, Lib.hid ⟨x2.out.after (below_4v (below_4v HB (by omega) _ _ _ _) (by omega) _ _ _ _), (fB.others (fB.set Ta.fB a) (by omega)), (fB.set (fB.others Tb.fB (by omega)) b)⟩⟩
    · skip
      go_simp
      refine hK.out _ _ (KK.out _ HA1) (fun hHeld => ?_)
      clear hK K
      try simp only [Act.put, List.setIfInBounds_toArray, List.set_cons_zero, List.set_cons_succ]
      refine wpAnyH_ready (rs := [8, 19]) (by kernel_rfl) (by simp) ?_
      refine AllReadyH.cons (o := { dst := some 24, op := Op.call { callee := Callee.value (Operand.func 35), args := #[Operand.tmp 17, Operand.tmp 19, Operand.tmp 21, Operand.tmp 23], argTypes := #[22, 22, 22, 22] }, type := 28, pos := "law.go:92", after := #[{ on := 1, ground := Ground.data }, { on := 3, ground := Ground.data }, { on := 5, ground := Ground.data }, { on := 7, ground := Ground.data }], guard := none }) rfl (fun K hK => ?_) (AllReadyH.cons (o := { dst := some 9, op := Op.alloc 28, type := 0, pos := "law.go:92", after := #[], guard := none }) rfl (fun K hK => ?_) AllReadyH.nil)
      · skip
        go_simp
        refine (M1.out _).mono ?_; rintro e w6 ⟨rfl, hb⟩
        have Ta := nB.oned hb
        replace HB := below_next' HA1 hb
        clear hb
        have mw6 := HB.size
        have law6 := Blk.lt Ta
        go_wp2_with fail
        refine hK.out _ _ (KK.out _ HB) (fun hHeld => ?_)
        clear hK K
        try simp only [Act.put, List.setIfInBounds_toArray, List.set_cons_zero, List.set_cons_succ]
        refine wpAnyH_ready (rs := [17, 19]) (by kernel_rfl) (by simp) ?_
        refine AllReadyH.cons (o := { dst := some 33, op := Op.call { callee := Callee.value (Operand.func 35), args := #[Operand.tmp 26, Operand.tmp 28, Operand.tmp 30, Operand.tmp 32], argTypes := #[22, 22, 22, 22] }, type := 28, pos := "law.go:92", after := #[{ on := 10, ground := Ground.data }, { on := 12, ground := Ground.data }, { on := 14, ground := Ground.data }, { on := 16, ground := Ground.data }, { on := 8, ground := Ground.chain }], guard := none }) rfl (fun K hK => ?_) (AllReadyH.cons (o := { dst := some 9, op := Op.alloc 28, type := 0, pos := "law.go:92", after := #[], guard := none }) rfl (fun K hK => ?_) AllReadyH.nil)
        · skip
          go_simp
          refine (M2.out _).mono ?_; rintro e w7 ⟨rfl, hb⟩
          replace Ta := nB.after Ta hb
          replace HB := below_next' HB hb
          clear hb
          have mw7 := HB.size
          have law7 := Blk.lt Ta
          go_wp2_with fail
          obtain ⟨ta0, ta1, ta2, ta3⟩ := Ta.cells
          obtain ⟨fa0, fa1, fa2, fa3⟩ := Ta.free
          refine hK.out _ _ (KK.out _ HB) (fun hHeld => ?_)
          clear hK K
          try simp only [Act.put, List.setIfInBounds_toArray, List.set_cons_zero, List.set_cons_succ]
          refine wpAnyH_ready (rs := [19]) (by kernel_rfl) (by simp) ?_
          refine AllReadyH.cons (o := { dst := some 9, op := Op.alloc 28, type := 0, pos := "law.go:92", after := #[], guard := none }) rfl (fun K hK => ?_) AllReadyH.nil
          · skip
            go_simp
            refine hK.out _ _ (KK.out _ (below_alloc HB _)) (fun hHeld => ?_)
            clear hK K
            try simp only [Act.put, List.setIfInBounds_toArray, List.set_cons_zero, List.set_cons_succ]
            refine wpAnyH_ready (rs := [20]) (by kernel_rfl) (by simp) ?_
            refine AllReadyH.cons (o := { dst := none, op := Op.store 28 (Operand.tmp 8) (Operand.tmp 24), type := 0, pos := "law.go:92", after := #[{ on := 18, ground := Ground.data }, { on := 8, ground := Ground.data }, { on := 17, ground := Ground.chain }, { on := 0, ground := Ground.phase }, { on := 1, ground := Ground.phase }, { on := 2, ground := Ground.phase }, { on := 3, ground := Ground.phase }, { on := 4, ground := Ground.phase }, { on := 5, ground := Ground.phase }, { on := 6, ground := Ground.phase }, { on := 7, ground := Ground.phase }, { on := 8, ground := Ground.phase }, { on := 9, ground := Ground.textOnly Departure.lateStores }, { on := 10, ground := Ground.textOnly Departure.lateStores }, { on := 11, ground := Ground.textOnly Departure.lateStores }, { on := 12, ground := Ground.textOnly Departure.lateStores }, { on := 13, ground := Ground.textOnly Departure.lateStores }, { on := 14, ground := Ground.textOnly Departure.lateStores }, { on := 15, ground := Ground.textOnly Departure.lateStores }, { on := 16, ground := Ground.textOnly Departure.lateStores }, { on := 17, ground := Ground.textOnly Departure.lateStoresUnsure }, { on := 18, ground := Ground.phase }, { on := 19, ground := Ground.phase }], guard := none }) rfl (fun K hK => ?_) AllReadyH.nil
            · skip
              go_simp
              refine hK.out _ _ (KK.out _ (below_alloc (below_4v HB (by omega) _ _ _ _) _)) (fun hHeld => ?_)
              clear hK K
              try simp only [Act.put, List.setIfInBounds_toArray, List.set_cons_zero, List.set_cons_succ]
              refine wpAnyH_ready (rs := [21]) (by kernel_rfl) (by simp) ?_
              refine AllReadyH.cons (o := { dst := none, op := Op.store 28 (Operand.tmp 9) (Operand.tmp 33), type := 0, pos := "law.go:92", after := #[{ on := 19, ground := Ground.data }, { on := 17, ground := Ground.data }, { on := 20, ground := Ground.chain }, { on := 0, ground := Ground.phase }, { on := 1, ground := Ground.phase }, { on := 2, ground := Ground.phase }, { on := 3, ground := Ground.phase }, { on := 4, ground := Ground.phase }, { on := 5, ground := Ground.phase }, { on := 6, ground := Ground.phase }, { on := 7, ground := Ground.phase }, { on := 8, ground := Ground.phase }, { on := 9, ground := Ground.phase }, { on := 10, ground := Ground.phase }, { on := 11, ground := Ground.phase }, { on := 12, ground := Ground.phase }, { on := 13, ground := Ground.phase }, { on := 14, ground := Ground.phase }, { on := 15, ground := Ground.phase }, { on := 16, ground := Ground.phase }, { on := 17, ground := Ground.phase }, { on := 18, ground := Ground.phase }, { on := 19, ground := Ground.phase }, { on := 20, ground := Ground.phase }], guard := none }) rfl (fun K hK => ?_) AllReadyH.nil
              · skip
                go_simp
                refine hK.out _ _ (KK.out _ (below_alloc (below_4v HB (by omega) _ _ _ _) _)) (fun hHeld => ?_)
                clear hK K
                try simp only [Act.put, List.setIfInBounds_toArray, List.set_cons_zero, List.set_cons_succ]
                refine wpAnyH_done (by kernel_rfl) ?_ _
                go_wp2_with fail
                go_meet
                exact ⟨_, _, rfl, rfl, Lib.hid ⟨x2.out.after (below_alloc (below_4v HB (by omega) _ _ _ _) _), (fB.alloc (fB.set Ta.fB a) _), (fB.new _ b (by simp))⟩⟩
        · skip
          go_simp
          refine hK.out _ _ (KK.out _ (below_alloc HB _)) (fun hHeld => ?_)
          clear hK K
          try simp only [Act.put, List.setIfInBounds_toArray, List.set_cons_zero, List.set_cons_succ]
          refine wpAnyH_ready (rs := [17]) (by kernel_rfl) (by simp) ?_
          refine AllReadyH.cons (o := { dst := some 33, op := Op.call { callee := Callee.value (Operand.func 35), args := #[Operand.tmp 26, Operand.tmp 28, Operand.tmp 30, Operand.tmp 32], argTypes := #[22, 22, 22, 22] }, type := 28, pos := "law.go:92", after := #[{ on := 10, ground := Ground.data }, { on := 12, ground := Ground.data }, { on := 14, ground := Ground.data }, { on := 16, ground := Ground.data }, { on := 8, ground := Ground.chain }], guard := none }) rfl (fun K hK => ?_) AllReadyH.nil
          · skip
            go_simp
            refine (M2.out _).mono ?_; rintro e w7 ⟨rfl, hb⟩
            have Tb := nB.one hb
            replace Ta := nB.after (nB.allocd Ta _) hb
            replace HB := below_next' (below_alloc HB _) hb
            clear hb
            have mw7 := HB.size
            have law7 := Blk.lt Ta
            have lbw7 := Blk.lt Tb
            go_wp2_with fail
            obtain ⟨ta0, ta1, ta2, ta3⟩ := Ta.cells
            obtain ⟨fa0, fa1, fa2, fa3⟩ := Ta.free
            obtain ⟨tb0, tb1, tb2, tb3⟩ := Tb.cells
            obtain ⟨fb0, fb1, fb2, fb3⟩ := Tb.free
            refine hK.out _ _ (KK.out _ HB) (fun hHeld => ?_)
            clear hK K
            try simp only [Act.put, List.setIfInBounds_toArray, List.set_cons_zero, List.set_cons_succ]
            refine wpAnyH_ready (rs := [20]) (by kernel_rfl) (by simp) ?_
            refine AllReadyH.cons (o := { dst := none, op := Op.store 28 (Operand.tmp 8) (Operand.tmp 24), type := 0, pos := "law.go:92", after := #[{ on := 18, ground := Ground.data }, { on := 8, ground := Ground.data }, { on := 17, ground := Ground.chain }, { on := 0, ground := Ground.phase }, { on := 1, ground := Ground.phase }, { on := 2, ground := Ground.phase }, { on := 3, ground := Ground.phase }, { on := 4, ground := Ground.phase }, { on := 5, ground := Ground.phase }, { on := 6, ground := Ground.phase }, { on := 7, ground := Ground.phase }, { on := 8, ground := Ground.phase }, { on := 9, ground := Ground.textOnly Departure.lateStores }, { on := 10, ground := Ground.textOnly Departure.lateStores }, { on := 11, ground := Ground.textOnly Departure.lateStores }, { on := 12, ground := Ground.textOnly Departure.lateStores }, { on := 13, ground := Ground.textOnly Departure.lateStores }, { on := 14, ground := Ground.textOnly Departure.lateStores }, { on := 15, ground := Ground.textOnly Departure.lateStores }, { on := 16, ground := Ground.textOnly Departure.lateStores }, { on := 17, ground := Ground.textOnly Departure.lateStoresUnsure }, { on := 18, ground := Ground.phase }, { on := 19, ground := Ground.phase }], guard := none }) rfl (fun K hK => ?_) AllReadyH.nil
            · skip
              go_simp
              refine hK.out _ _ (KK.out _ (below_4v HB (by omega) _ _ _ _)) (fun hHeld => ?_)
              clear hK K
              try simp only [Act.put, List.setIfInBounds_toArray, List.set_cons_zero, List.set_cons_succ]
              refine wpAnyH_ready (rs := [21]) (by kernel_rfl) (by simp) ?_
              refine AllReadyH.cons (o := { dst := none, op := Op.store 28 (Operand.tmp 9) (Operand.tmp 33), type := 0, pos := "law.go:92", after := #[{ on := 19, ground := Ground.data }, { on := 17, ground := Ground.data }, { on := 20, ground := Ground.chain }, { on := 0, ground := Ground.phase }, { on := 1, ground := Ground.phase }, { on := 2, ground := Ground.phase }, { on := 3, ground := Ground.phase }, { on := 4, ground := Ground.phase }, { on := 5, ground := Ground.phase }, { on := 6, ground := Ground.phase }, { on := 7, ground := Ground.phase }, { on := 8, ground := Ground.phase }, { on := 9, ground := Ground.phase }, { on := 10, ground := Ground.phase }, { on := 11, ground := Ground.phase }, { on := 12, ground := Ground.phase }, { on := 13, ground := Ground.phase }, { on := 14, ground := Ground.phase }, { on := 15, ground := Ground.phase }, { on := 16, ground := Ground.phase }, { on := 17, ground := Ground.phase }, { on := 18, ground := Ground.phase }, { on := 19, ground := Ground.phase }, { on := 20, ground := Ground.phase }], guard := none }) rfl (fun K hK => ?_) AllReadyH.nil
              · skip
                go_simp
                refine hK.out _ _ (KK.out _ (below_4v (below_4v HB (by omega) _ _ _ _) (by omega) _ _ _ _)) (fun hHeld => ?_)
                clear hK K
                try simp only [Act.put, List.setIfInBounds_toArray, List.set_cons_zero, List.set_cons_succ]
                refine wpAnyH_done (by kernel_rfl) ?_ _
                go_wp2_with fail
                go_meet
                exact ⟨_, _, rfl, rfl, Lib.hid ⟨x2.out.after (below_4v (below_4v HB (by omega) _ _ _ _) (by omega) _ _ _ _), (fB.others (fB.set Ta.fB a) (by omega)), (fB.set (fB.others Tb.fB (by omega)) b)⟩⟩
      · skip
        go_simp
        refine hK.out _ _ (KK.out _ HA2) (fun hHeld => ?_)
        clear hK K
        try simp only [Act.put, List.setIfInBounds_toArray, List.set_cons_zero, List.set_cons_succ]
        refine wpAnyH_ready (rs := [8]) (by kernel_rfl) (by simp) ?_
        refine AllReadyH.cons (o := { dst := some 24, op := Op.call { callee := Callee.value (Operand.func 35), args := #[Operand.tmp 17, Operand.tmp 19, Operand.tmp 21, Operand.tmp 23], argTypes := #[22, 22, 22, 22] }, type := 28, pos := "law.go:92", after := #[{ on := 1, ground := Ground.data }, { on := 3, ground := Ground.data }, { on := 5, ground := Ground.data }, { on := 7, ground := Ground.data }], guard := none }) rfl (fun K hK => ?_) AllReadyH.nil
        · skip
          go_simp
          refine (M1.out _).mono ?_; rintro e w6 ⟨rfl, hb⟩
          have TT := nB.twod hb
          obtain ⟨Ta, Tb⟩ := TT
          replace HB := below_next' HA2 hb
          clear hb
          have mw6 := HB.size
          have law6 := Blk.lt Ta
          have lbw6 := Blk.lt Tb
          go_wp2_with fail
          refine hK.out _ _ (KK.out _ HB) (fun hHeld => ?_)
          clear hK K
          try simp only [Act.put, List.setIfInBounds_toArray, List.set_cons_zero, List.set_cons_succ]
          refine wpAnyH_ready (rs := [17]) (by kernel_rfl) (by simp) ?_
          refine AllReadyH.cons (o := { dst := some 33, op := Op.call { callee := Callee.value (Operand.func 35), args := #[Operand.tmp 26, Operand.tmp 28, Operand.tmp 30, Operand.tmp 32], argTypes := #[22, 22, 22, 22] }, type := 28, pos := "law.go:92", after := #[{ on := 10, ground := Ground.data }, { on := 12, ground := Ground.data }, { on := 14, ground := Ground.data }, { on := 16, ground := Ground.data }, { on := 8, ground := Ground.chain }], guard := none }) rfl (fun K hK => ?_) AllReadyH.nil
          · skip
            go_simp
            refine (M2.out _).mono ?_; rintro e w7 ⟨rfl, hb⟩
            replace Ta := nB.after Ta hb
            replace Tb := nB.after Tb hb
            replace HB := below_next' HB hb
            clear hb
            have mw7 := HB.size
            have law7 := Blk.lt Ta
            have lbw7 := Blk.lt Tb
            go_wp2_with fail
            obtain ⟨ta0, ta1, ta2, ta3⟩ := Ta.cells
            obtain ⟨fa0, fa1, fa2, fa3⟩ := Ta.free
            obtain ⟨tb0, tb1, tb2, tb3⟩ := Tb.cells
            obtain ⟨fb0, fb1, fb2, fb3⟩ := Tb.free
            refine hK.out _ _ (KK.out _ HB) (fun hHeld => ?_)
            clear hK K
            try simp only [Act.put, List.setIfInBounds_toArray, List.set_cons_zero, List.set_cons_succ]
            refine wpAnyH_ready (rs := [20]) (by kernel_rfl) (by simp) ?_
            refine AllReadyH.cons (o := { dst := none, op := Op.store 28 (Operand.tmp 8) (Operand.tmp 24), type := 0, pos := "law.go:92", after := #[{ on := 18, ground := Ground.data }, { on := 8, ground := Ground.data }, { on := 17, ground := Ground.chain }, { on := 0, ground := Ground.phase }, { on := 1, ground := Ground.phase }, { on := 2, ground := Ground.phase }, { on := 3, ground := Ground.phase }, { on := 4, ground := Ground.phase }, { on := 5, ground := Ground.phase }, { on := 6, ground := Ground.phase }, { on := 7, ground := Ground.phase }, { on := 8, ground := Ground.phase }, { on := 9, ground := Ground.textOnly Departure.lateStores }, { on := 10, ground := Ground.textOnly Departure.lateStores }, { on := 11, ground := Ground.textOnly Departure.lateStores }, { on := 12, ground := Ground.textOnly Departure.lateStores }, { on := 13, ground := Ground.textOnly Departure.lateStores }, { on := 14, ground := Ground.textOnly Departure.lateStores }, { on := 15, ground := Ground.textOnly Departure.lateStores }, { on := 16, ground := Ground.textOnly Departure.lateStores }, { on := 17, ground := Ground.textOnly Departure.lateStoresUnsure }, { on := 18, ground := Ground.phase }, { on := 19, ground := Ground.phase }], guard := none }) rfl (fun K hK => ?_) AllReadyH.nil
            · skip
              go_simp
              refine hK.out _ _ (KK.out _ (below_4v HB (by omega) _ _ _ _)) (fun hHeld => ?_)
              clear hK K
              try simp only [Act.put, List.setIfInBounds_toArray, List.set_cons_zero, List.set_cons_succ]
              refine wpAnyH_ready (rs := [21]) (by kernel_rfl) (by simp) ?_
              refine AllReadyH.cons (o := { dst := none, op := Op.store 28 (Operand.tmp 9) (Operand.tmp 33), type := 0, pos := "law.go:92", after := #[{ on := 19, ground := Ground.data }, { on := 17, ground := Ground.data }, { on := 20, ground := Ground.chain }, { on := 0, ground := Ground.phase }, { on := 1, ground := Ground.phase }, { on := 2, ground := Ground.phase }, { on := 3, ground := Ground.phase }, { on := 4, ground := Ground.phase }, { on := 5, ground := Ground.phase }, { on := 6, ground := Ground.phase }, { on := 7, ground := Ground.phase }, { on := 8, ground := Ground.phase }, { on := 9, ground := Ground.phase }, { on := 10, ground := Ground.phase }, { on := 11, ground := Ground.phase }, { on := 12, ground := Ground.phase }, { on := 13, ground := Ground.phase }, { on := 14, ground := Ground.phase }, { on := 15, ground := Ground.phase }, { on := 16, ground := Ground.phase }, { on := 17, ground := Ground.phase }, { on := 18, ground := Ground.phase }, { on := 19, ground := Ground.phase }, { on := 20, ground := Ground.phase }], guard := none }) rfl (fun K hK => ?_) AllReadyH.nil
              · skip
                go_simp
                refine hK.out _ _ (KK.out _ (below_4v (below_4v HB (by omega) _ _ _ _) (by omega) _ _ _ _)) (fun hHeld => ?_)
                clear hK K
                try simp only [Act.put, List.setIfInBounds_toArray, List.set_cons_zero, List.set_cons_succ]
                refine wpAnyH_done (by kernel_rfl) ?_ _
                go_wp2_with fail
                go_meet
                exact ⟨_, _, rfl, rfl, Lib.hid ⟨x2.out.after (below_4v (below_4v HB (by omega) _ _ _ _) (by omega) _ _ _ _), (fB.others (fB.set Ta.fB a) (by omega)), (fB.set (fB.others Tb.fB (by omega)) b)⟩⟩
    · skip
      go_simp
      refine hK.out _ _ (KK.out _ HA1) (fun hHeld => ?_)
      clear hK K
      try simp only [Act.put, List.setIfInBounds_toArray, List.set_cons_zero, List.set_cons_succ]
      refine wpAnyH_ready (rs := [8, 18]) (by kernel_rfl) (by simp) ?_
      refine AllReadyH.cons (o := { dst := some 24, op := Op.call { callee := Callee.value (Operand.func 35), args := #[Operand.tmp 17, Operand.tmp 19, Operand.tmp 21, Operand.tmp 23], argTypes := #[22, 22, 22, 22] }, type := 28, pos := "law.go:92", after := #[{ on := 1, ground := Ground.data }, { on := 3, ground := Ground.data }, { on := 5, ground := Ground.data }, { on := 7, ground := Ground.data }], guard := none }) rfl (fun K hK => ?_) (AllReadyH.cons (o := { dst := some 8, op := Op.alloc 28, type := 0, pos := "law.go:92", after := #[], guard := none }) rfl (fun K hK => ?_) AllReadyH.nil)
      · skip
        go_simp
        refine (M1.out _).mono ?_; rintro e w6 ⟨rfl, hb⟩
        have Tb := nB.oned hb
        replace HB := below_next' HA1 hb
        clear hb
        have mw6 := HB.size
        have lbw6 := Blk.lt Tb
        go_wp2_with fail
        refine hK.out _ _ (KK.out _ HB) (fun hHeld => ?_)
        clear hK K
        try simp only [Act.put, List.setIfInBounds_toArray, List.set_cons_zero, List.set_cons_succ]
        refine wpAnyH_ready (rs := [17, 18]) (by kernel_rfl) (by simp) ?_
        refine AllReadyH.cons (o := { dst := some 33, op := Op.call { callee := Callee.value (Operand.func 35), args := #[Operand.tmp 26, Operand.tmp 28, Operand.tmp 30, Operand.tmp 32], argTypes := #[22, 22, 22, 22] }, type := 28, pos := "law.go:92", after := #[{ on := 10, ground := Ground.data }, { on := 12, ground := Ground.data }, { on := 14, ground := Ground.data }, { on := 16, ground := Ground.data }, { on := 8, ground := Ground.chain }], guard := none }) rfl (fun K hK => ?_) (AllReadyH.cons (o := { dst := some 8, op := Op.alloc 28, type := 0, pos := "law.go:92", after := #[], guard := none }) rfl (fun K hK => ?_) AllReadyH.nil)
        · skip
          go_simp
          refine (M2.out _).mono ?_; rintro e w7 ⟨rfl, hb⟩
          replace Tb := nB.after Tb hb
          replace HB := below_next' HB hb
          clear hb
          have mw7 := HB.size
          have lbw7 := Blk.lt Tb
          go_wp2_with fail
          obtain ⟨tb0, tb1, tb2, tb3⟩ := Tb.cells
          obtain ⟨fb0, fb1, fb2, fb3⟩ := Tb.free
          refine hK.out _ _ (KK.out _ HB) (fun hHeld => ?_)
          clear hK K
          try simp only [Act.put, List.setIfInBounds_toArray, List.set_cons_zero, List.set_cons_succ]
          refine wpAnyH_ready (rs := [18]) (by kernel_rfl) (by simp) ?_
          refine AllReadyH.cons (o := { dst := some 8, op := Op.alloc 28, type := 0, pos := "law.go:92", after := #[], guard := none }) rfl (fun K hK => ?_) AllReadyH.nil
          · skip
            go_simp
            refine hK.out _ _ (KK.out _ (below_alloc HB _)) (fun hHeld => ?_)
            clear hK K
            try simp only [Act.put, List.setIfInBounds_toArray, List.set_cons_zero, List.set_cons_succ]
            refine wpAnyH_ready (rs := [20]) (by kernel_rfl) (by simp) ?_
            refine AllReadyH.cons (o := { dst := none, op := Op.store 28 (Operand.tmp 8) (Operand.tmp 24), type := 0, pos := "law.go:92", after := #[{ on := 18, ground := Ground.data }, { on := 8, ground := Ground.data }, { on := 17, ground := Ground.chain }, { on := 0, ground := Ground.phase }, { on := 1, ground := Ground.phase }, { on := 2, ground := Ground.phase }, { on := 3, ground := Ground.phase }, { on := 4, ground := Ground.phase }, { on := 5, ground := Ground.phase }, { on := 6, ground := Ground.phase }, { on := 7, ground := Ground.phase }, { on := 8, ground := Ground.phase }, { on := 9, ground := Ground.textOnly Departure.lateStores }, { on := 10, ground := Ground.textOnly Departure.lateStores }, { on := 11, ground := Ground.textOnly Departure.lateStores }, { on := 12, ground := Ground.textOnly Departure.lateStores }, { on := 13, ground := Ground.textOnly Departure.lateStores }, { on := 14, ground := Ground.textOnly Departure.lateStores }, { on := 15, ground := Ground.textOnly Departure.lateStores }, { on := 16, ground := Ground.textOnly Departure.lateStores }, { on := 17, ground := Ground.textOnly Departure.lateStoresUnsure }, { on := 18, ground := Ground.phase }, { on := 19, ground := Ground.phase }], guard := none }) rfl (fun K hK => ?_) AllReadyH.nil
            · skip
              go_simp
              refine hK.out _ _ (KK.out _ (below_alloc HB _)) (fun hHeld => ?_)
              clear hK K
              try simp only [Act.put, List.setIfInBounds_toArray, List.set_cons_zero, List.set_cons_succ]
              refine wpAnyH_ready (rs := [21]) (by kernel_rfl) (by simp) ?_
              refine AllReadyH.cons (o := { dst := none, op := Op.store 28 (Operand.tmp 9) (Operand.tmp 33), type := 0, pos := "law.go:92", after := #[{ on := 19, ground := Ground.data }, { on := 17, ground := Ground.data }, { on := 20, ground := Ground.chain }, { on := 0, ground := Ground.phase }, { on := 1, ground := Ground.phase }, { on := 2, ground := Ground.phase }, { on := 3, ground := Ground.phase }, { on := 4, ground := Ground.phase }, { on := 5, ground := Ground.phase }, { on := 6, ground := Ground.phase }, { on := 7, ground := Ground.phase }, { on := 8, ground := Ground.phase }, { on := 9, ground := Ground.phase }, { on := 10, ground := Ground.phase }, { on := 11, ground := Ground.phase }, { on := 12, ground := Ground.phase }, { on := 13, ground := Ground.phase }, { on := 14, ground := Ground.phase }, { on := 15, ground := Ground.phase }, { on := 16, ground := Ground.phase }, { on := 17, ground := Ground.phase }, { on := 18, ground := Ground.phase }, { on := 19, ground := Ground.phase }, { on := 20, ground := Ground.phase }], guard := none }) rfl (fun K hK => ?_) AllReadyH.nil
              · skip
                go_simp
                refine hK.out _ _ (KK.out _ (below_alloc (below_4v HB (by omega) _ _ _ _) _)) (fun hHeld => ?_)
                clear hK K
                try simp only [Act.put, List.setIfInBounds_toArray, List.set_cons_zero, List.set_cons_succ]
                refine wpAnyH_done (by kernel_rfl) ?_ _
                go_wp2_with fail
                go_meet
                exact ⟨_, _, rfl, rfl, Lib.hid ⟨x2.out.after (below_alloc (below_4v HB (by omega) _ _ _ _) _), (fB.new _ a (by simp)), (fB.alloc (fB.set Tb.fB b) _)⟩⟩
        · skip
          go_simp
          refine hK.out _ _ (KK.out _ (below_alloc HB _)) (fun hHeld => ?_)
          clear hK K
          try simp only [Act.put, List.setIfInBounds_toArray, List.set_cons_zero, List.set_cons_succ]
          refine wpAnyH_ready (rs := [17]) (by kernel_rfl) (by simp) ?_
          refine AllReadyH.cons (o := { dst := some 33, op := Op.call { callee := Callee.value (Operand.func 35), args := #[Operand.tmp 26, Operand.tmp 28, Operand.tmp 30, Operand.tmp 32], argTypes := #[22, 22, 22, 22] }, type := 28, pos := "law.go:92", after := #[{ on := 10, ground := Ground.data }, { on := 12, ground := Ground.data }, { on := 14, ground := Ground.data }, { on := 16, ground := Ground.data }, { on := 8, ground := Ground.chain }], guard := none }) rfl (fun K hK => ?_) AllReadyH.nil
          · skip
            go_simp
            refine (M2.out _).mono ?_; rintro e w7 ⟨rfl, hb⟩
            have Ta := nB.one hb
            replace Tb := nB.after (nB.allocd Tb _) hb
            replace HB := below_next' (below_alloc HB _) hb
            clear hb
            have mw7 := HB.size
            have lbw7 := Blk.lt Tb
            have law7 := Blk.lt Ta
            go_wp2_with fail
            obtain ⟨tb0, tb1, tb2, tb3⟩ := Tb.cells
            obtain ⟨fb0, fb1, fb2, fb3⟩ := Tb.free
            obtain ⟨ta0, ta1, ta2, ta3⟩ := Ta.cells
            obtain ⟨fa0, fa1, fa2, fa3⟩ := Ta.free
            refine hK.out _ _ (KK.out _ HB) (fun hHeld => ?_)
            clear hK K
            try simp only [Act.put, List.setIfInBounds_toArray, List.set_cons_zero, List.set_cons_succ]
            refine wpAnyH_ready (rs := [20]) (by kernel_rfl) (by simp) ?_
            refine AllReadyH.cons (o := { dst := none, op := Op.store 28 (Operand.tmp 8) (Operand.tmp 24), type := 0, pos := "law.go:92", after := #[{ on := 18, ground := Ground.data }, { on := 8, ground := Ground.data }, { on := 17, ground := Ground.chain }, { on := 0, ground := Ground.phase }, { on := 1, ground := Ground.phase }, { on := 2, ground := Ground.phase }, { on := 3, ground := Ground.phase }, { on := 4, ground := Ground.phase }, { on := 5, ground := Ground.phase }, { on := 6, ground := Ground.phase }, { on := 7, ground := Ground.phase }, { on := 8, ground := Ground.phase }, { on := 9, ground := Ground.textOnly Departure.lateStores }, { on := 10, ground := Ground.textOnly Departure.lateStores }, { on := 11, ground := Ground.textOnly Departure.lateStores }, { on := 12, ground := Ground.textOnly Departure.lateStores }, { on := 13, ground := Ground.textOnly Departure.lateStores }, { on := 14, ground := Ground.textOnly Departure.lateStores }, { on := 15, ground := Ground.textOnly Departure.lateStores }, { on := 16, ground := Ground.textOnly Departure.lateStores }, { on := 17, ground := Ground.textOnly Departure.lateStoresUnsure }, { on := 18, ground := Ground.phase }, { on := 19, ground := Ground.phase }], guard := none }) rfl (fun K hK => ?_) AllReadyH.nil
            · skip
              go_simp
              refine hK.out _ _ (KK.out _ (below_4v HB (by omega) _ _ _ _)) (fun hHeld => ?_)
              clear hK K
              try simp only [Act.put, List.setIfInBounds_toArray, List.set_cons_zero, List.set_cons_succ]
              refine wpAnyH_ready (rs := [21]) (by kernel_rfl) (by simp) ?_
              refine AllReadyH.cons (o := { dst := none, op := Op.store 28 (Operand.tmp 9) (Operand.tmp 33), type := 0, pos := "law.go:92", after := #[{ on := 19, ground := Ground.data }, { on := 17, ground := Ground.data }, { on := 20, ground := Ground.chain }, { on := 0, ground := Ground.phase }, { on := 1, ground := Ground.phase }, { on := 2, ground := Ground.phase }, { on := 3, ground := Ground.phase }, { on := 4, ground := Ground.phase }, { on := 5, ground := Ground.phase }, { on := 6, ground := Ground.phase }, { on := 7, ground := Ground.phase }, { on := 8, ground := Ground.phase }, { on := 9, ground := Ground.phase }, { on := 10, ground := Ground.phase }, { on := 11, ground := Ground.phase }, { on := 12, ground := Ground.phase }, { on := 13, ground := Ground.phase }, { on := 14, ground := Ground.phase }, { on := 15, ground := Ground.phase }, { on := 16, ground := Ground.phase }, { on := 17, ground := Ground.phase }, { on := 18, ground := Ground.phase }, { on := 19, ground := Ground.phase }, { on := 20, ground := Ground.phase }], guard := none }) rfl (fun K hK => ?_) AllReadyH.nil
              · skip
                go_simp
                refine hK.out _ _ (KK.out _ (below_4v (below_4v HB (by omega) _ _ _ _) (by omega) _ _ _ _)) (fun hHeld => ?_)
                clear hK K
                try simp only [Act.put, List.setIfInBounds_toArray, List.set_cons_zero, List.set_cons_succ]
                refine wpAnyH_done (by kernel_rfl) ?_ _
                go_wp2_with fail
                go_meet
                exact ⟨_, _, rfl, rfl, Lib.hid ⟨x2.out.after (below_4v (below_4v HB (by omega) _ _ _ _) (by omega) _ _ _ _), (fB.others (fB.set Ta.fB a) (by omega)), (fB.set (fB.others Tb.fB (by omega)) b)⟩⟩
      · skip
        go_simp
        refine hK.out _ _ (KK.out _ HA2) (fun hHeld => ?_)
        clear hK K
        try simp only [Act.put, List.setIfInBounds_toArray, List.set_cons_zero, List.set_cons_succ]
        refine wpAnyH_ready (rs := [8]) (by kernel_rfl) (by simp) ?_
        refine AllReadyH.cons (o := { dst := some 24, op := Op.call { callee := Callee.value (Operand.func 35), args := #[Operand.tmp 17, Operand.tmp 19, Operand.tmp 21, Operand.tmp 23], argTypes := #[22, 22, 22, 22] }, type := 28, pos := "law.go:92", after := #[{ on := 1, ground := Ground.data }, { on := 3, ground := Ground.data }, { on := 5, ground := Ground.data }, { on := 7, ground := Ground.data }], guard := none }) rfl (fun K hK => ?_) AllReadyH.nil
        · skip
          go_simp
          refine (M1.out _).mono ?_; rintro e w6 ⟨rfl, hb⟩
          have TT := nB.twod hb
          obtain ⟨Tb, Ta⟩ := TT
          replace HB := below_next' HA2 hb
          clear hb
          have mw6 := HB.size
          have lbw6 := Blk.lt Tb
          have law6 := Blk.lt Ta
          go_wp2_with fail
          refine hK.out _ _ (KK.out _ HB) (fun hHeld => ?_)
          clear hK K
          try simp only [Act.put, List.setIfInBounds_toArray, List.set_cons_zero, List.set_cons_succ]
          refine wpAnyH_ready (rs := [17]) (by kernel_rfl) (by simp) ?_
          refine AllReadyH.cons (o := { dst := some 33, op := Op.call { callee := Callee.value (Operand.func 35), args := #[Operand.tmp 26, Operand.tmp 28, Operand.tmp 30, Operand.tmp 32], argTypes := #[22, 22, 22, 22] }, type := 28, pos := "law.go:92", after := #[{ on := 10, ground := Ground.data }, { on := 12, ground := Ground.data }, { on := 14, ground := Ground.data }, { on := 16, ground := Ground.data }, { on := 8, ground := Ground.chain }], guard := none }) rfl (fun K hK => ?_) AllReadyH.nil
          · skip
            go_simp
            refine (M2.out _).mono ?_; rintro e w7 ⟨rfl, hb⟩
            replace Tb := nB.after Tb hb
            replace Ta := nB.after Ta hb
            replace HB := below_next' HB hb
            clear hb
            have mw7 := HB.size
            have lbw7 := Blk.lt Tb
            have law7 := Blk.lt Ta
            go_wp2_with fail
            obtain ⟨tb0, tb1, tb2, tb3⟩ := Tb.cells
            obtain ⟨fb0, fb1, fb2, fb3⟩ := Tb.free
            obtain ⟨ta0, ta1, ta2, ta3⟩ := Ta.cells
            obtain ⟨fa0, fa1, fa2, fa3⟩ := Ta.free
            refine hK.out _ _ (KK.out _ HB) (fun hHeld => ?_)
            clear hK K
            try simp only [Act.put, List.setIfInBounds_toArray, List.set_cons_zero, List.set_cons_succ]
            refine wpAnyH_ready (rs := [20]) (by kernel_rfl) (by simp) ?_
            refine AllReadyH.cons (o := { dst := none, op := Op.store 28 (Operand.tmp 8) (Operand.tmp 24), type := 0, pos := "law.go:92", after := #[{ on := 18, ground := Ground.data }, { on := 8, ground := Ground.data }, { on := 17, ground := Ground.chain }, { on := 0, ground := Ground.phase }, { on := 1, ground := Ground.phase }, { on := 2, ground := Ground.phase }, { on := 3, ground := Ground.phase }, { on := 4, ground := Ground.phase }, { on := 5, ground := Ground.phase }, { on := 6, ground := Ground.phase }, { on := 7, ground := Ground.phase }, { on := 8, ground := Ground.phase }, { on := 9, ground := Ground.textOnly Departure.lateStores }, { on := 10, ground := Ground.textOnly Departure.lateStores }, { on := 11, ground := Ground.textOnly Departure.lateStores }, { on := 12, ground := Ground.textOnly Departure.lateStores }, { on := 13, ground := Ground.textOnly Departure.lateStores }, { on := 14, ground := Ground.textOnly Departure.lateStores }, { on := 15, ground := Ground.textOnly Departure.lateStores }, { on := 16, ground := Ground.textOnly Departure.lateStores }, { on := 17, ground := Ground.textOnly Departure.lateStoresUnsure }, { on := 18, ground := Ground.phase }, { on := 19, ground := Ground.phase }], guard := none }) rfl (fun K hK => ?_) AllReadyH.nil
            · skip
              go_simp
              refine hK.out _ _ (KK.out _ (below_4v HB (by omega) _ _ _ _)) (fun hHeld => ?_)
              clear hK K
              try simp only [Act.put, List.setIfInBounds_toArray, List.set_cons_zero, List.set_cons_succ]
              refine wpAnyH_ready (rs := [21]) (by kernel_rfl) (by simp) ?_
              refine AllReadyH.cons (o := { dst := none, op := Op.store 28 (Operand.tmp 9) (Operand.tmp 33), type := 0, pos := "law.go:92", after := #[{ on := 19, ground := Ground.data }, { on := 17, ground := Ground.data }, { on := 20, ground := Ground.chain }, { on := 0, ground := Ground.phase }, { on := 1, ground := Ground.phase }, { on := 2, ground := Ground.phase }, { on := 3, ground := Ground.phase }, { on := 4, ground := Ground.phase }, { on := 5, ground := Ground.phase }, { on := 6, ground := Ground.phase }, { on := 7, ground := Ground.phase }, { on := 8, ground := Ground.phase }, { on := 9, ground := Ground.phase }, { on := 10, ground := Ground.phase }, { on := 11, ground := Ground.phase }, { on := 12, ground := Ground.phase }, { on := 13, ground := Ground.phase }, { on := 14, ground := Ground.phase }, { on := 15, ground := Ground.phase }, { on := 16, ground := Ground.phase }, { on := 17, ground := Ground.phase }, { on := 18, ground := Ground.phase }, { on := 19, ground := Ground.phase }, { on := 20, ground := Ground.phase }], guard := none }) rfl (fun K hK => ?_) AllReadyH.nil
              · skip
                go_simp
                refine hK.out _ _ (KK.out _ (below_4v (below_4v HB (by omega) _ _ _ _) (by omega) _ _ _ _)) (fun hHeld => ?_)
                clear hK K
                try simp only [Act.put, List.setIfInBounds_toArray, List.set_cons_zero, List.set_cons_succ]
                refine wpAnyH_done (by kernel_rfl) ?_ _
                go_wp2_with fail
                go_meet
                exact ⟨_, _, rfl, rfl, Lib.hid ⟨x2.out.after (below_4v (below_4v HB (by omega) _ _ _ _) (by omega) _ _ _ _), (fB.others (fB.set Ta.fB a) (by omega)), (fB.set (fB.others Tb.fB (by omega)) b)⟩⟩
  case rest =>
    rcases hc with ⟨rfl, rfl⟩ | ⟨rfl, rfl⟩ | ⟨rfl, rfl, h1, h2⟩
    · skip
      obtain ⟨ga, gb, rfl, rfl, X⟩ := hcut
      clear x2
      obtain ⟨p0, p1, p2, p3⟩ := X.out.2.1.cells
      obtain ⟨q0, q1, q2, q3⟩ := X.out.2.2.cells
      go_wp2_with fail
      refine (D.out _).mono ?_; rintro e w3 ⟨rfl, b3⟩
      have BL := Lib.hid (X.out.1.after b3)
      have FA := Lib.hid (X.out.2.1.after b3)
      have FB := Lib.hid (X.out.2.2.after b3)
      clear D b3 p0 p1 p2 p3 q0 q1 q2 q3 X
      have kn := Blk.lt (BL.out.get (g := w.heap.size) (cs := #[uV n0, uV n1, uV n2, uV n3, uV n4, uV n5, uV n6, uV n7]) (t := 51) (by simp))
      obtain ⟨p0, p1, p2, p3⟩ := FA.out.cells
      have la := FA.out.lt
      have FX := Lib.hid ((fB.new w3 x rfl).alloc (.cells (fCells y) 28))
      have FY := Lib.hid (fB.new (w3.alloc (.cells (fCells x) 28)) y (g := w3.heap.size + 1) (by simp))
      replace BL := Lib.hid ((BL.out.alloc (.cells (fCells x) 28)).alloc (.cells (fCells y) 28))
      replace FA := Lib.hid ((FA.out.alloc (.cells (fCells x) 28)).alloc (.cells (fCells y) 28))
      replace FB := Lib.hid ((FB.out.alloc (.cells (fCells x) 28)).alloc (.cells (fCells y) 28))
      go_wp2_with fail
      refine (W1.out _).mono ?_; rintro e w6 ⟨rfl, hb6⟩
      replace FB := Lib.hid (FB.out.after hb6)
      replace FX := Lib.hid (FX.out.after hb6)
      replace FY := Lib.hid (FY.out.after hb6)
      replace BL := Lib.hid (BL.out.after hb6)
      clear FA hb6 p0 p1 p2 p3 W1 kn la
      generalize w3.heap.size = gx at *
      obtain ⟨q0, q1, q2, q3⟩ := FB.out.cells
      obtain ⟨y0, y1, y2, y3⟩ := FY.out.cells
      go_wp2_with fail
      refine (W2.out _).mono ?_; rintro e w7 ⟨rfl, hb7⟩
      replace FX := Lib.hid (FX.out.after hb7)
      replace FY := Lib.hid (FY.out.after hb7)
      replace BL := Lib.hid (BL.out.after hb7)
      clear FB hb7 q0 q1 q2 q3 y0 y1 y2 y3 W2
      obtain ⟨t0, t4⟩ : w7.cell? ⟨w.heap.size, 0, none⟩ = some (uV n0) ∧ w7.cell? ⟨w.heap.size, 4, none⟩ = some (uV n4) := ⟨Blk.cell (BL.out.get (g := w.heap.size) (cs := #[uV n0, uV n1, uV n2, uV n3, uV n4, uV n5, uV n6, uV n7]) (t := 51) (by simp)) 0, Blk.cell (BL.out.get (g := w.heap.size) (cs := #[uV n0, uV n1, uV n2, uV n3, uV n4, uV n5, uV n6, uV n7]) (t := 51) (by simp)) 4⟩
      go_wp2_with fail
      refine (R.out _).mono ?_; rintro e w8 ⟨rfl, hb8⟩
      replace FX := Lib.hid (FX.out.after hb8)
      replace FY := Lib.hid (FY.out.after hb8)
      replace BL := Lib.hid (BL.out.after hb8)
      clear hb8 R t0 t4
      go_wp2_with fail
      go_ret
      exact ⟨rfl, BL.out.1⟩
    · skip
      obtain ⟨ga, gb, rfl, rfl, X⟩ := hcut
      clear x2
      obtain ⟨p0, p1, p2, p3⟩ := X.out.2.1.cells
      obtain ⟨q0, q1, q2, q3⟩ := X.out.2.2.cells
      go_wp2_with fail
      refine (D.out _).mono ?_; rintro e w3 ⟨rfl, b3⟩
      have BL := Lib.hid (X.out.1.after b3)
      have FA := Lib.hid (X.out.2.1.after b3)
      have FB := Lib.hid (X.out.2.2.after b3)
      clear D b3 p0 p1 p2 p3 q0 q1 q2 q3 X
      have kn := Blk.lt (BL.out.get (g := w.heap.size) (cs := #[uV n0, uV n1, uV n2, uV n3, uV n4, uV n5, uV n6, uV n7]) (t := 51) (by simp))
      obtain ⟨p0, p1, p2, p3⟩ := FA.out.cells
      have la := FA.out.lt
      have FX := Lib.hid ((fB.new w3 x rfl).alloc (.cells (fCells y) 28))
      have FY := Lib.hid (fB.new (w3.alloc (.cells (fCells x) 28)) y (g := w3.heap.size + 1) (by simp))
      replace BL := Lib.hid ((BL.out.alloc (.cells (fCells x) 28)).alloc (.cells (fCells y) 28))
      replace FA := Lib.hid ((FA.out.alloc (.cells (fCells x) 28)).alloc (.cells (fCells y) 28))
      replace FB := Lib.hid ((FB.out.alloc (.cells (fCells x) 28)).alloc (.cells (fCells y) 28))
      go_wp2_with fail
      refine (W1.out _).mono ?_; rintro e w6 ⟨rfl, hb6⟩
      replace FB := Lib.hid (FB.out.after hb6)
      replace FX := Lib.hid (FX.out.after hb6)
      replace FY := Lib.hid (FY.out.after hb6)
      replace BL := Lib.hid (BL.out.after hb6)
      clear FA hb6 p0 p1 p2 p3 W1 kn la
      generalize w3.heap.size = gx at *
      obtain ⟨q0, q1, q2, q3⟩ := FB.out.cells
      obtain ⟨y0, y1, y2, y3⟩ := FY.out.cells
      go_wp2_with fail
      refine (W2.out _).mono ?_; rintro e w7 ⟨rfl, hb7⟩
      replace FX := Lib.hid (FX.out.after hb7)
      replace FY := Lib.hid (FY.out.after hb7)
      replace BL := Lib.hid (BL.out.after hb7)
      clear FB hb7 q0 q1 q2 q3 y0 y1 y2 y3 W2
      obtain ⟨t0, t4⟩ : w7.cell? ⟨w.heap.size, 0, none⟩ = some (uV n0) ∧ w7.cell? ⟨w.heap.size, 4, none⟩ = some (uV n4) := ⟨Blk.cell (BL.out.get (g := w.heap.size) (cs := #[uV n0, uV n1, uV n2, uV n3, uV n4, uV n5, uV n6, uV n7]) (t := 51) (by simp)) 0, Blk.cell (BL.out.get (g := w.heap.size) (cs := #[uV n0, uV n1, uV n2, uV n3, uV n4, uV n5, uV n6, uV n7]) (t := 51) (by simp)) 4⟩
      go_wp2_with fail
      refine (R.out _).mono ?_; rintro e w8 ⟨rfl, hb8⟩
      replace FX := Lib.hid (FX.out.after hb8)
      replace FY := Lib.hid (FY.out.after hb8)
      replace BL := Lib.hid (BL.out.after hb8)
      clear hb8 R t0 t4
      go_wp2_with fail
      go_ret
      exact ⟨rfl, BL.out.1⟩
    · skip
      have H1 := Lib.hid h1
      have H2 := Lib.hid h2
      clear h1 h2
      obtain ⟨ga, gb, rfl, rfl, X⟩ := hcut
      clear x2
      obtain ⟨p0, p1, p2, p3⟩ := X.out.2.1.cells
      obtain ⟨q0, q1, q2, q3⟩ := X.out.2.2.cells
      go_wp2_with fail
      refine (D.out _).mono ?_; rintro e w3 ⟨rfl, b3⟩
      have BL := Lib.hid (X.out.1.after b3)
      have FA := Lib.hid (X.out.2.1.after b3)
      have FB := Lib.hid (X.out.2.2.after b3)
      clear D b3 p0 p1 p2 p3 q0 q1 q2 q3 X
      have kn := Blk.lt (BL.out.get (g := w.heap.size) (cs := #[uV n0, uV n1, uV n2, uV n3, uV n4, uV n5, uV n6, uV n7]) (t := 51) (by simp))
      obtain ⟨p0, p1, p2, p3⟩ := FA.out.cells
      have la := FA.out.lt
      have FX := Lib.hid ((fB.new w3 x rfl).alloc (.cells (fCells y) 28))
      have FY := Lib.hid (fB.new (w3.alloc (.cells (fCells x) 28)) y (g := w3.heap.size + 1) (by simp))
      replace BL := Lib.hid ((BL.out.alloc (.cells (fCells x) 28)).alloc (.cells (fCells y) 28))
      replace FA := Lib.hid ((FA.out.alloc (.cells (fCells x) 28)).alloc (.cells (fCells y) 28))
      replace FB := Lib.hid ((FB.out.alloc (.cells (fCells x) 28)).alloc (.cells (fCells y) 28))
      go_wp2_with fail
      refine (W1.out _).mono ?_; rintro e w6 ⟨rfl, hb6⟩
      replace FB := Lib.hid (FB.out.after hb6)
      replace FX := Lib.hid (FX.out.after hb6)
      replace FY := Lib.hid (FY.out.after hb6)
      replace BL := Lib.hid (BL.out.after hb6)
      clear FA hb6 p0 p1 p2 p3 W1 kn la
      generalize w3.heap.size = gx at *
      obtain ⟨q0, q1, q2, q3⟩ := FB.out.cells
      obtain ⟨y0, y1, y2, y3⟩ := FY.out.cells
      go_wp2_with fail
      refine (W2.out _).mono ?_; rintro e w7 ⟨rfl, hb7⟩
      replace FX := Lib.hid (FX.out.after hb7)
      replace FY := Lib.hid (FY.out.after hb7)
      replace BL := Lib.hid (BL.out.after hb7)
      clear FB hb7 q0 q1 q2 q3 y0 y1 y2 y3 W2
      obtain ⟨t0, t4⟩ : w7.cell? ⟨w.heap.size, 0, none⟩ = some (uV n0) ∧ w7.cell? ⟨w.heap.size, 4, none⟩ = some (uV n4) := ⟨Blk.cell (BL.out.get (g := w.heap.size) (cs := #[uV n0, uV n1, uV n2, uV n3, uV n4, uV n5, uV n6, uV n7]) (t := 51) (by simp)) 0, Blk.cell (BL.out.get (g := w.heap.size) (cs := #[uV n0, uV n1, uV n2, uV n3, uV n4, uV n5, uV n6, uV n7]) (t := 51) (by simp)) 4⟩
      go_wp2_with fail
      refine (R.out _).mono ?_; rintro e w8 ⟨rfl, hb8⟩
      replace FX := Lib.hid (FX.out.after hb8)
      replace FY := Lib.hid (FY.out.after hb8)
      replace BL := Lib.hid (BL.out.after hb8)
      clear hb8 R t0 t4
      obtain ⟨x0, x1, x2, x3⟩ := FX.out.cells
      obtain ⟨t0, t4⟩ : w8.cell? ⟨w.heap.size, 0, none⟩ = some (uV n0) ∧ w8.cell? ⟨w.heap.size, 4, none⟩ = some (uV n4) := ⟨Blk.cell (BL.out.get (g := w.heap.size) (cs := #[uV n0, uV n1, uV n2, uV n3, uV n4, uV n5, uV n6, uV n7]) (t := 51) (by simp)) 0, Blk.cell (BL.out.get (g := w.heap.size) (cs := #[uV n0, uV n1, uV n2, uV n3, uV n4, uV n5, uV n6, uV n7]) (t := 51) (by simp)) 4⟩
      go_wp2_with fail
      refine (H1.out _).mono ?_; rintro e w9 ⟨rfl, hb9⟩
      replace FY := Lib.hid (FY.out.after hb9)
      replace BL := Lib.hid (BL.out.after hb9)
      clear FX hb9 x0 x1 x2 x3 t0 t4 H1
      obtain ⟨y0, y1, y2, y3⟩ := FY.out.cells
      obtain ⟨t0, t4⟩ : w9.cell? ⟨w.heap.size, 0, none⟩ = some (uV n0) ∧ w9.cell? ⟨w.heap.size, 4, none⟩ = some (uV n4) := ⟨Blk.cell (BL.out.get (g := w.heap.size) (cs := #[uV n0, uV n1, uV n2, uV n3, uV n4, uV n5, uV n6, uV n7]) (t := 51) (by simp)) 0, Blk.cell (BL.out.get (g := w.heap.size) (cs := #[uV n0, uV n1, uV n2, uV n3, uV n4, uV n5, uV n6, uV n7]) (t := 51) (by simp)) 4⟩
      go_wp2_with fail
      refine (H2.out _).mono ?_; rintro e w10 ⟨rfl, hb10⟩
      replace BL := Lib.hid (BL.out.after hb10)
      clear FY hb10 y0 y1 y2 y3 t0 t4 H2
      go_wp2_with fail
      go_ret
      exact ⟨rfl, BL.out.1⟩

theorem fholds_walk (op : Int) (wide : Bool) (n0 n1 n2 n3 n4 n5 n6 n7 : BitVec 64) (w : World) : Calls Try.prog 8 #[.int .u8 op, .bool wide, .agg #[uV n0, uV n1, uV n2, uV n3, uV n4, uV n5, uV n6, uV n7]] w (Fine w) := by
  have Ga := fMade_good n0 n1 n2 n3
  have Gb := fMade_good n4 n5 n6 n7
  have M1 := Lib.hid (made_fact n0 n1 n2 n3)
  have M2 := Lib.hid (made_fact n4 n5 n6 n7)
  generalize fMade n0 n1 n2 n3 = a at *
  generalize fMade n4 n5 n6 n7 = b at *
  have D := fun w => fp_if op wide a b w Ga.inn Gb.inn
  have R : ∀ w, Calls Try.prog 37 #[.int .u8 op, .bool wide, uV n0, uV n4] w (Gives (.tuple #[.bool (condV op wide (n0.toNat : Int) (n4.toNat : Int)), .int .i64 (condE op)]) w) := fun w =>
    (ref_is_any op wide (n0.toNat : Int) (n4.toNat : Int) w (bv_rng n0) (bv_rng n4)).mono (by
      rintro e w' ⟨rfl, h⟩
      exact ⟨rfl, h⟩)
  have G : condE op = 0 → condV op wide (n0.toNat : Int) (n4.toNat : Int) = true → ∃ x y, fIf op wide a b = some (x, y) ∧ Good x n0 ∧ Good y n4 := fun he hc => fIf_good Ga Gb he hc
  have E : (condE op = 1 ∧ condV op wide (n0.toNat : Int) (n4.toNat : Int) = false) ∨ condE op = 0 := by
    cases hf : condFits op
    · exact Or.inl ⟨by unfold condE; rw [hf]; rfl, condV_none hf _ _ _⟩
    · exact Or.inr (by unfold condE; rw [hf]; rfl)
  generalize condV op wide (n0.toNat : Int) (n4.toNat : Int) = c at *
  generalize condE op = k at *
  cases h : fIf op wide a b with
  | none =>
    rw [h] at D
    refine fholds_no op wide n0 n1 n2 n3 n4 n5 n6 n7 a b fZ fZ c k w M1 M2 (Lib.hid D) (Lib.hid R) ?_
    rcases E with ⟨rfl, rfl⟩ | rfl
    · exact Or.inl ⟨rfl, rfl⟩
    · cases c
      · exact Or.inr ⟨rfl, rfl⟩
      · obtain ⟨x, y, h', _⟩ := G rfl rfl
        rw [h] at h'
        cases h'
  | some p =>
    obtain ⟨x, y⟩ := p
    rw [h] at D
    obtain ⟨l1, l2⟩ := fIf_le h
    have ix : fIn x ∧ fIn y := fIf_in Ga Gb h
    have W1 := fun w => fp_within x a w ix.1 Ga.inn
    have W2 := fun w => fp_within y b w ix.2 Gb.inn
    rw [l1] at W1
    rw [l2] at W2
    refine fholds_yes op wide n0 n1 n2 n3 n4 n5 n6 n7 a b x y c k w M1 M2 (Lib.hid D) (Lib.hid R) (Lib.hid W1) (Lib.hid W2) ?_
    rcases E with ⟨rfl, rfl⟩ | rfl
    · exact Or.inl ⟨rfl, rfl⟩
    · cases c
      · exact Or.inr (Or.inl ⟨rfl, rfl⟩)
      · obtain ⟨x', y', h', g1, g2⟩ := G rfl rfl
        rw [h] at h'
        cases h'
        have H1 := fun w => fp_has x n0 w ix.1
        have H2 := fun w => fp_has y n4 w ix.2
        rw [show fHs x n0 = true by unfold fHs; rw [fR_iff.mpr g1.fix, g1.has]; rfl] at H1
        rw [show fHs y n4 = true by unfold fHs; rw [fR_iff.mpr g2.fix, g2.has]; rfl] at H2
        exact Or.inr (Or.inr ⟨rfl, rfl, H1, H2⟩)

end Go.Proofs.Ytfepokiibdkoeaa
