/-
  The statement ValOrder: for every three Vals, the law returns true, and its arguments read as they did.
  Conditions: none beyond the row's own.
-/
import Derived.Deep.RegionHeld
import Derived.Deep.RegionHeld3
import Derived.Deep.DeepCutAuto
import Derived.Test.YtgjcbcpedoihaaaMg11

namespace Go.Proofs.Ytgjcbcpedoihaaa
open Go Go.RowKit
set_option maxRecDepth 100000
set_option linter.unusedVariables false
set_option linter.unusedSimpArgs false

theorem vR_Z : vR vZ = true := by decide +kernel
theorem vW_self (a : Vl) : vW a a = vR a := by
  unfold vW
  rw [vEq_refl]
  simp
theorem vW_zero (a : Vl) : vW a vZ = vR a := by
  unfold vW
  rw [vR_Z]
  simp [vZ]
theorem vW_parts {a b : Vl} (h : vW a b = true) : vR a = true ∧ vR b = true ∧ (b.k = 0 ∨ a = b ∨ (a.k = 1 ∧ b.k = 1 ∧ fWi a.n b.n = true)) := by
  unfold vW at h
  simp only [Bool.and_eq_true, Bool.or_eq_true, beq_iff_eq] at h
  obtain ⟨⟨h1, h2⟩, h3⟩ := h
  refine ⟨h1, h2, ?_⟩
  rcases h3 with h | h | ⟨⟨h, h'⟩, h''⟩
  · exact Or.inl h
  · exact Or.inr (Or.inl (vEq_iff.mp h))
  · exact Or.inr (Or.inr ⟨h, h', h''⟩)
theorem vW_mk {a b : Vl} (h1 : vR a = true) (h2 : vR b = true) (h : b.k = 0 ∨ a = b ∨ (a.k = 1 ∧ b.k = 1 ∧ fWi a.n b.n = true)) : vW a b = true := by
  unfold vW
  simp only [Bool.and_eq_true, Bool.or_eq_true, beq_iff_eq]
  refine ⟨⟨h1, h2⟩, ?_⟩
  rcases h with h | h | ⟨h, h', h''⟩
  · exact Or.inl h
  · exact Or.inr (Or.inl (vEq_iff.mpr h))
  · exact Or.inr (Or.inr ⟨⟨h, h'⟩, h''⟩)
theorem fWi_on {a b c : Fc} (h1 : fWi a b = true) (h2 : fWi b c = true) : fWi a c = true := by
  unfold fWi at *
  simp only [Bool.and_eq_true] at *
  exact ⟨⟨h1.1.1, h2.1.2⟩, fLe_on h1.2 h2.2⟩
theorem vW_on {a b c : Vl} (h1 : vW a b = true) (h2 : vW b c = true) : vW a c = true := by
  obtain ⟨ra, rb, k1⟩ := vW_parts h1
  obtain ⟨_, rc, k2⟩ := vW_parts h2
  refine vW_mk ra rc ?_
  rcases k2 with h | h | ⟨h, h', h''⟩
  · exact Or.inl h
  · subst h; exact k1
  · rcases k1 with g | g | ⟨g, g', g''⟩
    · rw [g] at h; exact absurd h (by decide)
    · subst g; exact Or.inr (Or.inr ⟨h, h', h''⟩)
    · exact Or.inr (Or.inr ⟨g, h', fWi_on g'' h''⟩)
set_option maxRecDepth 100000 in
set_option maxHeartbeats 8000000 in
theorem vorder_walk (a b c : Vl) (w : World) (ha : vIn a) (hb : vIn b) (hc : vIn c) : Calls Try.prog 7 #[vV a, vV b, vV c] w (Gives (.bool true) w) := by
  have SH := Lib.hid l12_shown
  have W1 := Lib.hid fun w => vp_within a b w ha hb
  have W2 := Lib.hid fun w => vp_within b c w hb hc
  have W3 := Lib.hid fun w => vp_within a c w ha hc
  have W4 := Lib.hid fun w => vp_within a a w ha ha
  have W5 : Hid (∀ w, Calls Try.prog 20 #[vV a, .agg #[.int .u8 0, .int .u64 0, .int .u64 0, .int .u64 0, .int .u64 0, .int .i64 0, .int .i64 0]] w (Gives (.bool (vW a vZ)) w)) := Lib.hid fun w => vp_within a vZ w ha vZ_in
  have R := Lib.hid fun w => vp_right a w ha
  have HX : Hid (vW a b = true → vW b c = true → vW a c = true) := Lib.hid vW_on
  rw [vW_self] at W4
  rw [vW_zero] at W5
  have X0 := Lib.hid ((((Blks.start w).new (vCells a) 30).new (vCells b) 30).new (vCells c) 30)
  generalize vW a b = x at *
  generalize vW b c = y at *
  generalize vW a c = z at *
  generalize vR a = r at *
  go_enter Try.func7, Try.ntmps7
  go_wp2_with fail
  generalize (((w.alloc (.cells (vCells a) 30)).alloc (.cells (vCells b) 30)).alloc (.cells (vCells c) 30)) = w1 at *
  refine (SH.out _).mono ?_; rintro e w2 ⟨rfl, b2⟩
  have X2 := Lib.hid (X0.out.after b2)
  clear X0 b2 SH
  go_upto_region 2 with fail
  have SD : Hid (∀ u, Below w2.heap.size w2 u → ((u.cell? ⟨w.heap.size, 0, none⟩ = some (.int .u8 a.k) ∧ u.cell? ⟨w.heap.size, 1, none⟩ = some (uV a.n.1.1) ∧ u.cell? ⟨w.heap.size, 2, none⟩ = some (uV a.n.1.2) ∧ u.cell? ⟨w.heap.size, 3, none⟩ = some (.int .u64 a.n.2.1) ∧ u.cell? ⟨w.heap.size, 4, none⟩ = some (.int .u64 a.n.2.2) ∧ u.cell? ⟨w.heap.size, 5, none⟩ = some (.int .i64 a.i) ∧ u.cell? ⟨w.heap.size, 6, none⟩ = some (.int .i64 a.o)) ∧ (u.cell? ⟨(w.heap.size + 1), 0, none⟩ = some (.int .u8 b.k) ∧ u.cell? ⟨(w.heap.size + 1), 1, none⟩ = some (uV b.n.1.1) ∧ u.cell? ⟨(w.heap.size + 1), 2, none⟩ = some (uV b.n.1.2) ∧ u.cell? ⟨(w.heap.size + 1), 3, none⟩ = some (.int .u64 b.n.2.1) ∧ u.cell? ⟨(w.heap.size + 1), 4, none⟩ = some (.int .u64 b.n.2.2) ∧ u.cell? ⟨(w.heap.size + 1), 5, none⟩ = some (.int .i64 b.i) ∧ u.cell? ⟨(w.heap.size + 1), 6, none⟩ = some (.int .i64 b.o)) ∧ (u.cell? ⟨(w.heap.size + 2), 0, none⟩ = some (.int .u8 c.k) ∧ u.cell? ⟨(w.heap.size + 2), 1, none⟩ = some (uV c.n.1.1) ∧ u.cell? ⟨(w.heap.size + 2), 2, none⟩ = some (uV c.n.1.2) ∧ u.cell? ⟨(w.heap.size + 2), 3, none⟩ = some (.int .u64 c.n.2.1) ∧ u.cell? ⟨(w.heap.size + 2), 4, none⟩ = some (.int .u64 c.n.2.2) ∧ u.cell? ⟨(w.heap.size + 2), 5, none⟩ = some (.int .i64 c.i) ∧ u.cell? ⟨(w.heap.size + 2), 6, none⟩ = some (.int .i64 c.o)))) := Lib.hid fun u bb => ⟨vB.cells ((X2.out.after bb).get (g := w.heap.size) (cs := vCells a) (t := 30) (by simp)), vB.cells ((X2.out.after bb).get (g := (w.heap.size + 1)) (cs := vCells b) (t := 30) (by simp)), vB.cells ((X2.out.after bb).get (g := (w.heap.size + 2)) (cs := vCells c) (t := 30) (by simp))⟩
  have QB : Hid (Below w2.heap.size w2 w2.drew) := Lib.hid (Below.drew (Below.refl _ _))
  refine wp_region_held_drew (S := fun w' => (w'.cell? ⟨w.heap.size, 0, none⟩ = some (.int .u8 a.k) ∧ w'.cell? ⟨w.heap.size, 1, none⟩ = some (uV a.n.1.1) ∧ w'.cell? ⟨w.heap.size, 2, none⟩ = some (uV a.n.1.2) ∧ w'.cell? ⟨w.heap.size, 3, none⟩ = some (.int .u64 a.n.2.1) ∧ w'.cell? ⟨w.heap.size, 4, none⟩ = some (.int .u64 a.n.2.2) ∧ w'.cell? ⟨w.heap.size, 5, none⟩ = some (.int .i64 a.i) ∧ w'.cell? ⟨w.heap.size, 6, none⟩ = some (.int .i64 a.o)) ∧ (w'.cell? ⟨(w.heap.size + 1), 0, none⟩ = some (.int .u8 b.k) ∧ w'.cell? ⟨(w.heap.size + 1), 1, none⟩ = some (uV b.n.1.1) ∧ w'.cell? ⟨(w.heap.size + 1), 2, none⟩ = some (uV b.n.1.2) ∧ w'.cell? ⟨(w.heap.size + 1), 3, none⟩ = some (.int .u64 b.n.2.1) ∧ w'.cell? ⟨(w.heap.size + 1), 4, none⟩ = some (.int .u64 b.n.2.2) ∧ w'.cell? ⟨(w.heap.size + 1), 5, none⟩ = some (.int .i64 b.i) ∧ w'.cell? ⟨(w.heap.size + 1), 6, none⟩ = some (.int .i64 b.o)) ∧ (w'.cell? ⟨(w.heap.size + 2), 0, none⟩ = some (.int .u8 c.k) ∧ w'.cell? ⟨(w.heap.size + 2), 1, none⟩ = some (uV c.n.1.1) ∧ w'.cell? ⟨(w.heap.size + 2), 2, none⟩ = some (uV c.n.1.2) ∧ w'.cell? ⟨(w.heap.size + 2), 3, none⟩ = some (.int .u64 c.n.2.1) ∧ w'.cell? ⟨(w.heap.size + 2), 4, none⟩ = some (.int .u64 c.n.2.2) ∧ w'.cell? ⟨(w.heap.size + 2), 5, none⟩ = some (.int .i64 c.i) ∧ w'.cell? ⟨(w.heap.size + 2), 6, none⟩ = some (.int .i64 c.o))) (by kernel_rfl) (SD.out _ QB.out) (fun hHeld => ?_)
  generalize w2.drew = wd at *
  refine wpAnyH_take (i := 0) (oi := { dst := some 12, op := Op.load 30 (Operand.tmp 3), type := 30, pos := "law.go:59", after := #[], guard := none }) (v := ?_) rfl (by kernel_rfl) (by kernel_rfl) (by kernel_rfl) (fun _ _ _ h => h) (Or.inl ⟨by rfl, ?_⟩) (by first | exact hHeld | assumption) ?_
  rotate_left 1
  · intro w hSw; (try dsimp only at hSw); go_simp; try (with_reducible rfl)
  try simp only [Act.put, List.setIfInBounds_toArray, List.set_cons_zero, List.set_cons_succ]
  refine wpAnyH_take (i := 1) (oi := { dst := some 13, op := Op.load 30 (Operand.tmp 4), type := 30, pos := "law.go:59", after := #[], guard := none }) (v := ?_) rfl (by kernel_rfl) (by kernel_rfl) (by kernel_rfl) (fun _ _ _ h => h) (Or.inl ⟨by rfl, ?_⟩) (by first | exact hHeld | assumption) ?_
  rotate_left 1
  · intro w hSw; (try dsimp only at hSw); go_simp; try (with_reducible rfl)
  try simp only [Act.put, List.setIfInBounds_toArray, List.set_cons_zero, List.set_cons_succ]
  refine wpAnyH_take (i := 3) (oi := { dst := some 15, op := Op.load 30 (Operand.tmp 4), type := 30, pos := "law.go:59", after := #[], guard := none }) (v := ?_) rfl (by kernel_rfl) (by kernel_rfl) (by kernel_rfl) (fun _ _ _ h => h) (Or.inl ⟨by rfl, ?_⟩) (by first | exact hHeld | assumption) ?_
  rotate_left 1
  · intro w hSw; (try dsimp only at hSw); go_simp; try (with_reducible rfl)
  try simp only [Act.put, List.setIfInBounds_toArray, List.set_cons_zero, List.set_cons_succ]
  refine wpAnyH_take (i := 4) (oi := { dst := some 16, op := Op.load 30 (Operand.tmp 5), type := 30, pos := "law.go:59", after := #[], guard := none }) (v := ?_) rfl (by kernel_rfl) (by kernel_rfl) (by kernel_rfl) (fun _ _ _ h => h) (Or.inl ⟨by rfl, ?_⟩) (by first | exact hHeld | assumption) ?_
  rotate_left 1
  · intro w hSw; (try dsimp only at hSw); go_simp; try (with_reducible rfl)
  try simp only [Act.put, List.setIfInBounds_toArray, List.set_cons_zero, List.set_cons_succ]
  refine wpAnyH_take (i := 6) (oi := { dst := some 18, op := Op.load 30 (Operand.tmp 3), type := 30, pos := "law.go:59", after := #[], guard := none }) (v := ?_) rfl (by kernel_rfl) (by kernel_rfl) (by kernel_rfl) (fun _ _ _ h => h) (Or.inl ⟨by rfl, ?_⟩) (by first | exact hHeld | assumption) ?_
  rotate_left 1
  · intro w hSw; (try dsimp only at hSw); go_simp; try (with_reducible rfl)
  try simp only [Act.put, List.setIfInBounds_toArray, List.set_cons_zero, List.set_cons_succ]
  refine wpAnyH_take (i := 7) (oi := { dst := some 19, op := Op.load 30 (Operand.tmp 5), type := 30, pos := "law.go:59", after := #[], guard := none }) (v := ?_) rfl (by kernel_rfl) (by kernel_rfl) (by kernel_rfl) (fun _ _ _ h => h) (Or.inl ⟨by rfl, ?_⟩) (by first | exact hHeld | assumption) ?_
  rotate_left 1
  · intro w hSw; (try dsimp only at hSw); go_simp; try (with_reducible rfl)
  try simp only [Act.put, List.setIfInBounds_toArray, List.set_cons_zero, List.set_cons_succ]
  refine wpAnyH_ready (rs := [2]) (by kernel_rfl) (by simp) ?_
  refine AllReadyH.cons (o := { dst := some 14, op := Op.call { callee := Callee.value (Operand.func 20), args := #[Operand.tmp 12, Operand.tmp 13], argTypes := #[30, 30] }, type := 4, pos := "law.go:59", after := #[{ on := 0, ground := Ground.data }, { on := 1, ground := Ground.data }], guard := none }) rfl (fun K hK => ?_) AllReadyH.nil
  go_simp
  refine (W1.out _).mono ?_; rintro e u1 ⟨rfl, b⟩
  replace QB := Lib.hid (below_next' QB.out b)
  clear b
  go_wp2_with fail
  refine hK.out _ _ (SD.out _ QB.out) (fun hHeld => ?_)
  clear hK K
  try simp only [Act.put, List.setIfInBounds_toArray, List.set_cons_zero, List.set_cons_succ]
  refine wpAnyH_ready (rs := [5]) (by kernel_rfl) (by simp) ?_
  refine AllReadyH.cons (o := { dst := some 17, op := Op.call { callee := Callee.value (Operand.func 20), args := #[Operand.tmp 15, Operand.tmp 16], argTypes := #[30, 30] }, type := 4, pos := "law.go:59", after := #[{ on := 3, ground := Ground.data }, { on := 4, ground := Ground.data }, { on := 2, ground := Ground.chain }], guard := none }) rfl (fun K hK => ?_) AllReadyH.nil
  go_simp
  refine (W2.out _).mono ?_; rintro e u1 ⟨rfl, b⟩
  replace QB := Lib.hid (below_next' QB.out b)
  clear b
  go_wp2_with fail
  refine hK.out _ _ (SD.out _ QB.out) (fun hHeld => ?_)
  clear hK K
  try simp only [Act.put, List.setIfInBounds_toArray, List.set_cons_zero, List.set_cons_succ]
  refine wpAnyH_ready (rs := [8]) (by kernel_rfl) (by simp) ?_
  refine AllReadyH.cons (o := { dst := some 20, op := Op.call { callee := Callee.value (Operand.func 20), args := #[Operand.tmp 18, Operand.tmp 19], argTypes := #[30, 30] }, type := 4, pos := "law.go:59", after := #[{ on := 6, ground := Ground.data }, { on := 7, ground := Ground.data }, { on := 5, ground := Ground.chain }], guard := none }) rfl (fun K hK => ?_) AllReadyH.nil
  go_simp
  refine (W3.out _).mono ?_; rintro e u1 ⟨rfl, b⟩
  replace QB := Lib.hid (below_next' QB.out b)
  clear b
  go_wp2_with fail
  refine hK.out _ _ (SD.out _ QB.out) (fun hHeld => ?_)
  clear hK K
  try simp only [Act.put, List.setIfInBounds_toArray, List.set_cons_zero, List.set_cons_succ]
  refine wpAnyH_take (i := 9) (oi := { dst := some 8, op := Op.assign (Operand.tmp 14), type := 4, pos := "law.go:59", after := #[{ on := 2, ground := Ground.data }, { on := 8, ground := Ground.chain }, { on := 0, ground := Ground.phase }, { on := 1, ground := Ground.phase }, { on := 2, ground := Ground.phase }, { on := 3, ground := Ground.textOnly Departure.lateStores }, { on := 4, ground := Ground.textOnly Departure.lateStores }, { on := 5, ground := Ground.textOnly Departure.lateStoresUnsure }, { on := 6, ground := Ground.textOnly Departure.lateStores }, { on := 7, ground := Ground.textOnly Departure.lateStores }, { on := 8, ground := Ground.textOnly Departure.lateStoresUnsure }], guard := none }) (v := ?_) rfl (by kernel_rfl) (by kernel_rfl) (by kernel_rfl) (fun _ _ _ h => h) (Or.inl ⟨by rfl, ?_⟩) (by first | exact hHeld | assumption) ?_
  rotate_left 1
  · intro w hSw; (try dsimp only at hSw); go_simp; try (with_reducible rfl)
  try simp only [Act.put, List.setIfInBounds_toArray, List.set_cons_zero, List.set_cons_succ]
  refine wpAnyH_take (i := 10) (oi := { dst := some 9, op := Op.assign (Operand.tmp 17), type := 4, pos := "law.go:59", after := #[{ on := 5, ground := Ground.data }, { on := 9, ground := Ground.chain }, { on := 0, ground := Ground.phase }, { on := 1, ground := Ground.phase }, { on := 2, ground := Ground.phase }, { on := 3, ground := Ground.phase }, { on := 4, ground := Ground.phase }, { on := 5, ground := Ground.phase }, { on := 6, ground := Ground.textOnly Departure.lateStores }, { on := 7, ground := Ground.textOnly Departure.lateStores }, { on := 8, ground := Ground.textOnly Departure.lateStoresUnsure }, { on := 9, ground := Ground.phase }], guard := none }) (v := ?_) rfl (by kernel_rfl) (by kernel_rfl) (by kernel_rfl) (fun _ _ _ h => h) (Or.inl ⟨by rfl, ?_⟩) (by first | exact hHeld | assumption) ?_
  rotate_left 1
  · intro w hSw; (try dsimp only at hSw); go_simp; try (with_reducible rfl)
  try simp only [Act.put, List.setIfInBounds_toArray, List.set_cons_zero, List.set_cons_succ]
  refine wpAnyH_take (i := 11) (oi := { dst := some 10, op := Op.assign (Operand.tmp 20), type := 4, pos := "law.go:59", after := #[{ on := 8, ground := Ground.data }, { on := 10, ground := Ground.chain }, { on := 0, ground := Ground.phase }, { on := 1, ground := Ground.phase }, { on := 2, ground := Ground.phase }, { on := 3, ground := Ground.phase }, { on := 4, ground := Ground.phase }, { on := 5, ground := Ground.phase }, { on := 6, ground := Ground.phase }, { on := 7, ground := Ground.phase }, { on := 8, ground := Ground.phase }, { on := 9, ground := Ground.phase }, { on := 10, ground := Ground.phase }], guard := none }) (v := ?_) rfl (by kernel_rfl) (by kernel_rfl) (by kernel_rfl) (fun _ _ _ h => h) (Or.inl ⟨by rfl, ?_⟩) (by first | exact hHeld | assumption) ?_
  rotate_left 1
  · intro w hSw; (try dsimp only at hSw); go_simp; try (with_reducible rfl)
  try simp only [Act.put, List.setIfInBounds_toArray, List.set_cons_zero, List.set_cons_succ]
  refine wpAnyH_done (by kernel_rfl) ?_ _
  have X3 := Lib.hid (X2.out.after QB.out)
  clear X2 SD QB W1 W2 W3 hHeld
  skip
  cases x
  · clear HX
    go_upto_region 3 with fail
    have SD : Hid (∀ u, Below u1.heap.size u1 u → ((u.cell? ⟨w.heap.size, 0, none⟩ = some (.int .u8 a.k) ∧ u.cell? ⟨w.heap.size, 1, none⟩ = some (uV a.n.1.1) ∧ u.cell? ⟨w.heap.size, 2, none⟩ = some (uV a.n.1.2) ∧ u.cell? ⟨w.heap.size, 3, none⟩ = some (.int .u64 a.n.2.1) ∧ u.cell? ⟨w.heap.size, 4, none⟩ = some (.int .u64 a.n.2.2) ∧ u.cell? ⟨w.heap.size, 5, none⟩ = some (.int .i64 a.i) ∧ u.cell? ⟨w.heap.size, 6, none⟩ = some (.int .i64 a.o)) ∧ (u.cell? ⟨(w.heap.size + 1), 0, none⟩ = some (.int .u8 b.k) ∧ u.cell? ⟨(w.heap.size + 1), 1, none⟩ = some (uV b.n.1.1) ∧ u.cell? ⟨(w.heap.size + 1), 2, none⟩ = some (uV b.n.1.2) ∧ u.cell? ⟨(w.heap.size + 1), 3, none⟩ = some (.int .u64 b.n.2.1) ∧ u.cell? ⟨(w.heap.size + 1), 4, none⟩ = some (.int .u64 b.n.2.2) ∧ u.cell? ⟨(w.heap.size + 1), 5, none⟩ = some (.int .i64 b.i) ∧ u.cell? ⟨(w.heap.size + 1), 6, none⟩ = some (.int .i64 b.o)) ∧ (u.cell? ⟨(w.heap.size + 2), 0, none⟩ = some (.int .u8 c.k) ∧ u.cell? ⟨(w.heap.size + 2), 1, none⟩ = some (uV c.n.1.1) ∧ u.cell? ⟨(w.heap.size + 2), 2, none⟩ = some (uV c.n.1.2) ∧ u.cell? ⟨(w.heap.size + 2), 3, none⟩ = some (.int .u64 c.n.2.1) ∧ u.cell? ⟨(w.heap.size + 2), 4, none⟩ = some (.int .u64 c.n.2.2) ∧ u.cell? ⟨(w.heap.size + 2), 5, none⟩ = some (.int .i64 c.i) ∧ u.cell? ⟨(w.heap.size + 2), 6, none⟩ = some (.int .i64 c.o)))) := Lib.hid fun u bb => ⟨vB.cells ((X3.out.after bb).get (g := w.heap.size) (cs := vCells a) (t := 30) (by simp)), vB.cells ((X3.out.after bb).get (g := (w.heap.size + 1)) (cs := vCells b) (t := 30) (by simp)), vB.cells ((X3.out.after bb).get (g := (w.heap.size + 2)) (cs := vCells c) (t := 30) (by simp))⟩
    have QB : Hid (Below u1.heap.size u1 u1.drew) := Lib.hid (Below.drew (Below.refl _ _))
    refine wp_region_held_drew (S := fun w' => (w'.cell? ⟨w.heap.size, 0, none⟩ = some (.int .u8 a.k) ∧ w'.cell? ⟨w.heap.size, 1, none⟩ = some (uV a.n.1.1) ∧ w'.cell? ⟨w.heap.size, 2, none⟩ = some (uV a.n.1.2) ∧ w'.cell? ⟨w.heap.size, 3, none⟩ = some (.int .u64 a.n.2.1) ∧ w'.cell? ⟨w.heap.size, 4, none⟩ = some (.int .u64 a.n.2.2) ∧ w'.cell? ⟨w.heap.size, 5, none⟩ = some (.int .i64 a.i) ∧ w'.cell? ⟨w.heap.size, 6, none⟩ = some (.int .i64 a.o)) ∧ (w'.cell? ⟨(w.heap.size + 1), 0, none⟩ = some (.int .u8 b.k) ∧ w'.cell? ⟨(w.heap.size + 1), 1, none⟩ = some (uV b.n.1.1) ∧ w'.cell? ⟨(w.heap.size + 1), 2, none⟩ = some (uV b.n.1.2) ∧ w'.cell? ⟨(w.heap.size + 1), 3, none⟩ = some (.int .u64 b.n.2.1) ∧ w'.cell? ⟨(w.heap.size + 1), 4, none⟩ = some (.int .u64 b.n.2.2) ∧ w'.cell? ⟨(w.heap.size + 1), 5, none⟩ = some (.int .i64 b.i) ∧ w'.cell? ⟨(w.heap.size + 1), 6, none⟩ = some (.int .i64 b.o)) ∧ (w'.cell? ⟨(w.heap.size + 2), 0, none⟩ = some (.int .u8 c.k) ∧ w'.cell? ⟨(w.heap.size + 2), 1, none⟩ = some (uV c.n.1.1) ∧ w'.cell? ⟨(w.heap.size + 2), 2, none⟩ = some (uV c.n.1.2) ∧ w'.cell? ⟨(w.heap.size + 2), 3, none⟩ = some (.int .u64 c.n.2.1) ∧ w'.cell? ⟨(w.heap.size + 2), 4, none⟩ = some (.int .u64 c.n.2.2) ∧ w'.cell? ⟨(w.heap.size + 2), 5, none⟩ = some (.int .i64 c.i) ∧ w'.cell? ⟨(w.heap.size + 2), 6, none⟩ = some (.int .i64 c.o))) (by kernel_rfl) (SD.out _ QB.out) (fun hHeld => ?_)
    generalize u1.drew = wd at *
    refine wpAnyH_take (i := 0) (oi := { dst := some 21, op := Op.move (Operand.tmp 7), type := 4, pos := "law.go:60", after := #[], guard := none }) (v := ?_) rfl (by kernel_rfl) (by kernel_rfl) (by kernel_rfl) (fun _ _ _ h => h) (Or.inl ⟨by rfl, ?_⟩) (by first | exact hHeld | assumption) ?_
    rotate_left 1
    · intro w hSw; (try dsimp only at hSw); go_simp; try (with_reducible rfl)
    try simp only [Act.put, List.setIfInBounds_toArray, List.set_cons_zero, List.set_cons_succ]
    refine wpAnyH_take (i := 1) (oi := { dst := some 22, op := Op.move (Operand.tmp 21), type := 4, pos := "law.go:60", after := #[{ on := 0, ground := Ground.data }], guard := none }) (v := ?_) rfl (by kernel_rfl) (by kernel_rfl) (by kernel_rfl) (fun _ _ _ h => h) (Or.inl ⟨by rfl, ?_⟩) (by first | exact hHeld | assumption) ?_
    rotate_left 1
    · intro w hSw; (try dsimp only at hSw); go_simp; try (with_reducible rfl)
    try simp only [Act.put, List.setIfInBounds_toArray, List.set_cons_zero, List.set_cons_succ]
    refine wpAnyH_take (i := 2) (oi := { dst := some 23, op := Op.load 30 (Operand.tmp 3), type := 30, pos := "law.go:60", after := #[{ on := 1, ground := Ground.guard }], guard := some (1, true) }) (v := ?_) rfl (by kernel_rfl) (by kernel_rfl) (by kernel_rfl) (fun _ _ _ h => h) (Or.inl ⟨by rfl, ?_⟩) (by first | exact hHeld | assumption) ?_
    rotate_left 1
    · intro w hSw; (try dsimp only at hSw); go_simp; try (with_reducible rfl)
    try simp only [Act.put, List.setIfInBounds_toArray, List.set_cons_zero, List.set_cons_succ]
    refine wpAnyH_take (i := 3) (oi := { dst := some 24, op := Op.load 30 (Operand.tmp 3), type := 30, pos := "law.go:60", after := #[{ on := 1, ground := Ground.guard }], guard := some (1, true) }) (v := ?_) rfl (by kernel_rfl) (by kernel_rfl) (by kernel_rfl) (fun _ _ _ h => h) (Or.inl ⟨by rfl, ?_⟩) (by first | exact hHeld | assumption) ?_
    rotate_left 1
    · intro w hSw; (try dsimp only at hSw); go_simp; try (with_reducible rfl)
    try simp only [Act.put, List.setIfInBounds_toArray, List.set_cons_zero, List.set_cons_succ]
    refine wpAnyH_take (i := 5) (oi := { dst := some 26, op := Op.load 30 (Operand.tmp 3), type := 30, pos := "law.go:60", after := #[{ on := 1, ground := Ground.guard }], guard := some (1, true) }) (v := ?_) rfl (by kernel_rfl) (by kernel_rfl) (by kernel_rfl) (fun _ _ _ h => h) (Or.inl ⟨by rfl, ?_⟩) (by first | exact hHeld | assumption) ?_
    rotate_left 1
    · intro w hSw; (try dsimp only at hSw); go_simp; try (with_reducible rfl)
    try simp only [Act.put, List.setIfInBounds_toArray, List.set_cons_zero, List.set_cons_succ]
    refine wpAnyH_ready (rs := [4]) (by kernel_rfl) (by simp) ?_
    refine AllReadyH.cons (o := { dst := some 25, op := Op.call { callee := Callee.value (Operand.func 20), args := #[Operand.tmp 23, Operand.tmp 24], argTypes := #[30, 30] }, type := 4, pos := "law.go:60", after := #[{ on := 2, ground := Ground.data }, { on := 3, ground := Ground.data }, { on := 1, ground := Ground.chain }, { on := 1, ground := Ground.guard }], guard := some (1, true) }) rfl (fun K hK => ?_) AllReadyH.nil
    go_simp
    refine (W4.out _).mono ?_; rintro e u1 ⟨rfl, b⟩
    replace QB := Lib.hid (below_next' QB.out b)
    clear b
    go_wp2_with fail
    refine hK.out _ _ (SD.out _ QB.out) (fun hHeld => ?_)
    clear hK K
    try simp only [Act.put, List.setIfInBounds_toArray, List.set_cons_zero, List.set_cons_succ]
    refine wpAnyH_ready (rs := [6]) (by kernel_rfl) (by simp) ?_
    refine AllReadyH.cons (o := { dst := some 27, op := Op.call { callee := Callee.value (Operand.func 12), args := #[Operand.tmp 26], argTypes := #[30] }, type := 4, pos := "law.go:60", after := #[{ on := 5, ground := Ground.data }, { on := 4, ground := Ground.chain }, { on := 1, ground := Ground.guard }], guard := some (1, true) }) rfl (fun K hK => ?_) AllReadyH.nil
    go_simp
    refine (R.out _).mono ?_; rintro e u1 ⟨rfl, b⟩
    replace QB := Lib.hid (below_next' QB.out b)
    clear b
    go_wp2_with fail
    refine hK.out _ _ (SD.out _ QB.out) (fun hHeld => ?_)
    clear hK K
    try simp only [Act.put, List.setIfInBounds_toArray, List.set_cons_zero, List.set_cons_succ]
    refine wpAnyH_take (i := 7) (oi := { dst := some 28, op := Op.binOp BinOp.eql 4 (Operand.tmp 25) (Operand.tmp 27) 4, type := 4, pos := "law.go:60", after := #[{ on := 4, ground := Ground.data }, { on := 6, ground := Ground.data }, { on := 1, ground := Ground.guard }], guard := some (1, true) }) (v := ?_) rfl (by kernel_rfl) (by kernel_rfl) (by kernel_rfl) (fun _ _ _ h => h) (Or.inl ⟨by rfl, ?_⟩) (by first | exact hHeld | assumption) ?_
    rotate_left 1
    · intro w hSw; (try dsimp only at hSw); go_simp; first | with_reducible rfl | (simp; done)
    try simp only [Act.put, List.setIfInBounds_toArray, List.set_cons_zero, List.set_cons_succ]
    refine wpAnyH_take (i := 8) (oi := { dst := some 29, op := Op.pick (Operand.tmp 22) (Operand.tmp 28) (Operand.const (Value.bool false)), type := 4, pos := "law.go:60", after := #[{ on := 1, ground := Ground.data }, { on := 7, ground := Ground.data }], guard := none }) (v := ?_) rfl (by kernel_rfl) (by kernel_rfl) (by kernel_rfl) (fun _ _ _ h => h) (Or.inl ⟨by rfl, ?_⟩) (by first | exact hHeld | assumption) ?_
    rotate_left 1
    · intro w hSw; (try dsimp only at hSw); go_simp; try (with_reducible rfl)
    try simp only [Act.put, List.setIfInBounds_toArray, List.set_cons_zero, List.set_cons_succ]
    refine wpAnyH_take (i := 9) (oi := { dst := some 30, op := Op.move (Operand.tmp 29), type := 4, pos := "law.go:60", after := #[{ on := 8, ground := Ground.data }, { on := 6, ground := Ground.chain }], guard := none }) (v := ?_) rfl (by kernel_rfl) (by kernel_rfl) (by kernel_rfl) (fun _ _ _ h => h) (Or.inl ⟨by rfl, ?_⟩) (by first | exact hHeld | assumption) ?_
    rotate_left 1
    · intro w hSw; (try dsimp only at hSw); go_simp; try (with_reducible rfl)
    try simp only [Act.put, List.setIfInBounds_toArray, List.set_cons_zero, List.set_cons_succ]
    refine wpAnyH_take (i := 10) (oi := { dst := some 31, op := Op.load 30 (Operand.tmp 3), type := 30, pos := "law.go:60", after := #[{ on := 9, ground := Ground.guard }], guard := some (9, true) }) (v := ?_) rfl (by kernel_rfl) (by kernel_rfl) (by kernel_rfl) (fun _ _ _ h => h) (Or.inl ⟨by rfl, ?_⟩) (by first | exact hHeld | assumption) ?_
    rotate_left 1
    · intro w hSw; (try dsimp only at hSw); go_simp; try (with_reducible rfl)
    try simp only [Act.put, List.setIfInBounds_toArray, List.set_cons_zero, List.set_cons_succ]
    refine wpAnyH_take (i := 11) (oi := { dst := some 32, op := Op.build 30 #[], type := 30, pos := "law.go:60", after := #[{ on := 9, ground := Ground.guard }], guard := some (9, true) }) (v := ?_) rfl (by kernel_rfl) (by kernel_rfl) (by kernel_rfl) (fun _ _ _ h => h) (Or.inl ⟨by rfl, ?_⟩) (by first | exact hHeld | assumption) ?_
    rotate_left 1
    · intro w hSw; (try dsimp only at hSw); go_simp; try (with_reducible rfl)
    try simp only [Act.put, List.setIfInBounds_toArray, List.set_cons_zero, List.set_cons_succ]
    refine wpAnyH_take (i := 13) (oi := { dst := some 34, op := Op.load 30 (Operand.tmp 3), type := 30, pos := "law.go:60", after := #[{ on := 9, ground := Ground.guard }], guard := some (9, true) }) (v := ?_) rfl (by kernel_rfl) (by kernel_rfl) (by kernel_rfl) (fun _ _ _ h => h) (Or.inl ⟨by rfl, ?_⟩) (by first | exact hHeld | assumption) ?_
    rotate_left 1
    · intro w hSw; (try dsimp only at hSw); go_simp; try (with_reducible rfl)
    try simp only [Act.put, List.setIfInBounds_toArray, List.set_cons_zero, List.set_cons_succ]
    refine wpAnyH_ready (rs := [12]) (by kernel_rfl) (by simp) ?_
    refine AllReadyH.cons (o := { dst := some 33, op := Op.call { callee := Callee.value (Operand.func 20), args := #[Operand.tmp 31, Operand.tmp 32], argTypes := #[30, 30] }, type := 4, pos := "law.go:60", after := #[{ on := 10, ground := Ground.data }, { on := 11, ground := Ground.data }, { on := 9, ground := Ground.chain }, { on := 9, ground := Ground.guard }], guard := some (9, true) }) rfl (fun K hK => ?_) AllReadyH.nil
    go_simp
    refine (W5.out _).mono ?_; rintro e u1 ⟨rfl, b⟩
    replace QB := Lib.hid (below_next' QB.out b)
    clear b
    go_wp2_with fail
    refine hK.out _ _ (SD.out _ QB.out) (fun hHeld => ?_)
    clear hK K
    try simp only [Act.put, List.setIfInBounds_toArray, List.set_cons_zero, List.set_cons_succ]
    refine wpAnyH_ready (rs := [14]) (by kernel_rfl) (by simp) ?_
    refine AllReadyH.cons (o := { dst := some 35, op := Op.call { callee := Callee.value (Operand.func 12), args := #[Operand.tmp 34], argTypes := #[30] }, type := 4, pos := "law.go:60", after := #[{ on := 13, ground := Ground.data }, { on := 12, ground := Ground.chain }, { on := 9, ground := Ground.guard }], guard := some (9, true) }) rfl (fun K hK => ?_) AllReadyH.nil
    go_simp
    refine (R.out _).mono ?_; rintro e u1 ⟨rfl, b⟩
    replace QB := Lib.hid (below_next' QB.out b)
    clear b
    go_wp2_with fail
    refine hK.out _ _ (SD.out _ QB.out) (fun hHeld => ?_)
    clear hK K
    try simp only [Act.put, List.setIfInBounds_toArray, List.set_cons_zero, List.set_cons_succ]
    refine wpAnyH_take (i := 15) (oi := { dst := some 36, op := Op.binOp BinOp.eql 4 (Operand.tmp 33) (Operand.tmp 35) 4, type := 4, pos := "law.go:60", after := #[{ on := 12, ground := Ground.data }, { on := 14, ground := Ground.data }, { on := 9, ground := Ground.guard }], guard := some (9, true) }) (v := ?_) rfl (by kernel_rfl) (by kernel_rfl) (by kernel_rfl) (fun _ _ _ h => h) (Or.inl ⟨by rfl, ?_⟩) (by first | exact hHeld | assumption) ?_
    rotate_left 1
    · intro w hSw; (try dsimp only at hSw); go_simp; first | with_reducible rfl | (simp; done)
    try simp only [Act.put, List.setIfInBounds_toArray, List.set_cons_zero, List.set_cons_succ]
    refine wpAnyH_take (i := 16) (oi := { dst := some 37, op := Op.pick (Operand.tmp 30) (Operand.tmp 36) (Operand.const (Value.bool false)), type := 4, pos := "law.go:60", after := #[{ on := 9, ground := Ground.data }, { on := 15, ground := Ground.data }], guard := none }) (v := ?_) rfl (by kernel_rfl) (by kernel_rfl) (by kernel_rfl) (fun _ _ _ h => h) (Or.inl ⟨by rfl, ?_⟩) (by first | exact hHeld | assumption) ?_
    rotate_left 1
    · intro w hSw; (try dsimp only at hSw); go_simp; try (with_reducible rfl)
    try simp only [Act.put, List.setIfInBounds_toArray, List.set_cons_zero, List.set_cons_succ]
    refine wpAnyH_take (i := 17) (oi := { dst := some 38, op := Op.move (Operand.tmp 37), type := 4, pos := "law.go:60", after := #[{ on := 16, ground := Ground.data }, { on := 14, ground := Ground.chain }], guard := none }) (v := ?_) rfl (by kernel_rfl) (by kernel_rfl) (by kernel_rfl) (fun _ _ _ h => h) (Or.inl ⟨by rfl, ?_⟩) (by first | exact hHeld | assumption) ?_
    rotate_left 1
    · intro w hSw; (try dsimp only at hSw); go_simp; try (with_reducible rfl)
    try simp only [Act.put, List.setIfInBounds_toArray, List.set_cons_zero, List.set_cons_succ]
    refine wpAnyH_take (i := 18) (oi := { dst := some 39, op := Op.move (Operand.tmp 8), type := 4, pos := "law.go:60", after := #[{ on := 17, ground := Ground.guard }], guard := some (17, true) }) (v := ?_) rfl (by kernel_rfl) (by kernel_rfl) (by kernel_rfl) (fun _ _ _ h => h) (Or.inl ⟨by rfl, ?_⟩) (by first | exact hHeld | assumption) ?_
    rotate_left 1
    · intro w hSw; (try dsimp only at hSw); go_simp; try (with_reducible rfl)
    try simp only [Act.put, List.setIfInBounds_toArray, List.set_cons_zero, List.set_cons_succ]
    refine wpAnyH_take (i := 19) (oi := { dst := some 40, op := Op.unOp UnOp.not 4 (Operand.tmp 39), type := 4, pos := "law.go:60", after := #[{ on := 18, ground := Ground.data }, { on := 17, ground := Ground.guard }], guard := some (17, true) }) (v := ?_) rfl (by kernel_rfl) (by kernel_rfl) (by kernel_rfl) (fun _ _ _ h => h) (Or.inl ⟨by rfl, ?_⟩) (by first | exact hHeld | assumption) ?_
    rotate_left 1
    · intro w hSw; (try dsimp only at hSw); go_simp; try (with_reducible rfl)
    try simp only [Act.put, List.setIfInBounds_toArray, List.set_cons_zero, List.set_cons_succ]
    refine wpAnyH_take (i := 20) (oi := { dst := some 41, op := Op.move (Operand.tmp 40), type := 4, pos := "law.go:60", after := #[{ on := 19, ground := Ground.data }, { on := 17, ground := Ground.chain }, { on := 17, ground := Ground.guard }], guard := some (17, true) }) (v := ?_) rfl (by kernel_rfl) (by kernel_rfl) (by kernel_rfl) (fun _ _ _ h => h) (Or.inl ⟨by rfl, ?_⟩) (by first | exact hHeld | assumption) ?_
    rotate_left 1
    · intro w hSw; (try dsimp only at hSw); go_simp; try (with_reducible rfl)
    try simp only [Act.put, List.setIfInBounds_toArray, List.set_cons_zero, List.set_cons_succ]
    refine wpAnyH_take (i := 21) (oi := { dst := some 42, op := Op.move (Operand.tmp 9), type := 4, pos := "law.go:60", after := #[{ on := 20, ground := Ground.guard }], guard := some (20, false) }) (v := undef) rfl (by kernel_rfl) (by kernel_rfl) (by kernel_rfl) (fun _ _ _ h => h) (Or.inr ⟨by rfl, rfl⟩) (by first | exact hHeld | assumption) ?_
    try simp only [Act.put, List.setIfInBounds_toArray, List.set_cons_zero, List.set_cons_succ]
    refine wpAnyH_take (i := 22) (oi := { dst := some 43, op := Op.unOp UnOp.not 4 (Operand.tmp 42), type := 4, pos := "law.go:60", after := #[{ on := 21, ground := Ground.data }, { on := 20, ground := Ground.guard }], guard := some (20, false) }) (v := undef) rfl (by kernel_rfl) (by kernel_rfl) (by kernel_rfl) (fun _ _ _ h => h) (Or.inr ⟨by rfl, rfl⟩) (by first | exact hHeld | assumption) ?_
    try simp only [Act.put, List.setIfInBounds_toArray, List.set_cons_zero, List.set_cons_succ]
    refine wpAnyH_take (i := 23) (oi := { dst := some 44, op := Op.pick (Operand.tmp 41) (Operand.const (Value.bool true)) (Operand.tmp 43), type := 4, pos := "law.go:60", after := #[{ on := 20, ground := Ground.data }, { on := 22, ground := Ground.data }, { on := 17, ground := Ground.guard }], guard := some (17, true) }) (v := ?_) rfl (by kernel_rfl) (by kernel_rfl) (by kernel_rfl) (fun _ _ _ h => h) (Or.inl ⟨by rfl, ?_⟩) (by first | exact hHeld | assumption) ?_
    rotate_left 1
    · intro w hSw; (try dsimp only at hSw); go_simp; try (with_reducible rfl)
    try simp only [Act.put, List.setIfInBounds_toArray, List.set_cons_zero, List.set_cons_succ]
    refine wpAnyH_take (i := 24) (oi := { dst := some 45, op := Op.move (Operand.tmp 44), type := 4, pos := "law.go:60", after := #[{ on := 23, ground := Ground.data }, { on := 20, ground := Ground.chain }, { on := 17, ground := Ground.guard }], guard := some (17, true) }) (v := ?_) rfl (by kernel_rfl) (by kernel_rfl) (by kernel_rfl) (fun _ _ _ h => h) (Or.inl ⟨by rfl, ?_⟩) (by first | exact hHeld | assumption) ?_
    rotate_left 1
    · intro w hSw; (try dsimp only at hSw); go_simp; try (with_reducible rfl)
    try simp only [Act.put, List.setIfInBounds_toArray, List.set_cons_zero, List.set_cons_succ]
    refine wpAnyH_take (i := 25) (oi := { dst := some 46, op := Op.move (Operand.tmp 10), type := 4, pos := "law.go:60", after := #[{ on := 24, ground := Ground.guard }], guard := some (24, false) }) (v := undef) rfl (by kernel_rfl) (by kernel_rfl) (by kernel_rfl) (fun _ _ _ h => h) (Or.inr ⟨by rfl, rfl⟩) (by first | exact hHeld | assumption) ?_
    try simp only [Act.put, List.setIfInBounds_toArray, List.set_cons_zero, List.set_cons_succ]
    refine wpAnyH_take (i := 26) (oi := { dst := some 47, op := Op.pick (Operand.tmp 45) (Operand.const (Value.bool true)) (Operand.tmp 46), type := 4, pos := "law.go:60", after := #[{ on := 24, ground := Ground.data }, { on := 25, ground := Ground.data }, { on := 17, ground := Ground.guard }], guard := some (17, true) }) (v := ?_) rfl (by kernel_rfl) (by kernel_rfl) (by kernel_rfl) (fun _ _ _ h => h) (Or.inl ⟨by rfl, ?_⟩) (by first | exact hHeld | assumption) ?_
    rotate_left 1
    · intro w hSw; (try dsimp only at hSw); go_simp; try (with_reducible rfl)
    try simp only [Act.put, List.setIfInBounds_toArray, List.set_cons_zero, List.set_cons_succ]
    refine wpAnyH_take (i := 27) (oi := { dst := some 48, op := Op.pick (Operand.tmp 38) (Operand.tmp 47) (Operand.const (Value.bool false)), type := 4, pos := "law.go:60", after := #[{ on := 17, ground := Ground.data }, { on := 26, ground := Ground.data }], guard := none }) (v := ?_) rfl (by kernel_rfl) (by kernel_rfl) (by kernel_rfl) (fun _ _ _ h => h) (Or.inl ⟨by rfl, ?_⟩) (by first | exact hHeld | assumption) ?_
    rotate_left 1
    · intro w hSw; (try dsimp only at hSw); go_simp; try (with_reducible rfl)
    try simp only [Act.put, List.setIfInBounds_toArray, List.set_cons_zero, List.set_cons_succ]
    refine wpAnyH_take (i := 28) (oi := { dst := some 6, op := Op.assign (Operand.tmp 48), type := 4, pos := "law.go:60", after := #[{ on := 27, ground := Ground.data }, { on := 24, ground := Ground.chain }, { on := 0, ground := Ground.phase }, { on := 1, ground := Ground.phase }, { on := 2, ground := Ground.phase }, { on := 3, ground := Ground.phase }, { on := 4, ground := Ground.phase }, { on := 5, ground := Ground.phase }, { on := 6, ground := Ground.phase }, { on := 7, ground := Ground.phase }, { on := 8, ground := Ground.phase }, { on := 9, ground := Ground.phase }, { on := 10, ground := Ground.phase }, { on := 11, ground := Ground.phase }, { on := 12, ground := Ground.phase }, { on := 13, ground := Ground.phase }, { on := 14, ground := Ground.phase }, { on := 15, ground := Ground.phase }, { on := 16, ground := Ground.phase }, { on := 17, ground := Ground.phase }, { on := 18, ground := Ground.phase }, { on := 19, ground := Ground.phase }, { on := 20, ground := Ground.phase }, { on := 21, ground := Ground.phase }, { on := 22, ground := Ground.phase }, { on := 23, ground := Ground.phase }, { on := 24, ground := Ground.phase }, { on := 25, ground := Ground.phase }, { on := 26, ground := Ground.phase }, { on := 27, ground := Ground.phase }], guard := none }) (v := ?_) rfl (by kernel_rfl) (by kernel_rfl) (by kernel_rfl) (fun _ _ _ h => h) (Or.inl ⟨by rfl, ?_⟩) (by first | exact hHeld | assumption) ?_
    rotate_left 1
    · intro w hSw; (try dsimp only at hSw); go_simp; try (with_reducible rfl)
    try simp only [Act.put, List.setIfInBounds_toArray, List.set_cons_zero, List.set_cons_succ]
    refine wpAnyH_done (by kernel_rfl) ?_ _
    go_wp2_with fail
    go_ret
    exact ⟨rfl, below_next' X3.out.1 QB.out⟩
  cases y
  · clear HX
    go_upto_region 3 with fail
    have SD : Hid (∀ u, Below u1.heap.size u1 u → ((u.cell? ⟨w.heap.size, 0, none⟩ = some (.int .u8 a.k) ∧ u.cell? ⟨w.heap.size, 1, none⟩ = some (uV a.n.1.1) ∧ u.cell? ⟨w.heap.size, 2, none⟩ = some (uV a.n.1.2) ∧ u.cell? ⟨w.heap.size, 3, none⟩ = some (.int .u64 a.n.2.1) ∧ u.cell? ⟨w.heap.size, 4, none⟩ = some (.int .u64 a.n.2.2) ∧ u.cell? ⟨w.heap.size, 5, none⟩ = some (.int .i64 a.i) ∧ u.cell? ⟨w.heap.size, 6, none⟩ = some (.int .i64 a.o)) ∧ (u.cell? ⟨(w.heap.size + 1), 0, none⟩ = some (.int .u8 b.k) ∧ u.cell? ⟨(w.heap.size + 1), 1, none⟩ = some (uV b.n.1.1) ∧ u.cell? ⟨(w.heap.size + 1), 2, none⟩ = some (uV b.n.1.2) ∧ u.cell? ⟨(w.heap.size + 1), 3, none⟩ = some (.int .u64 b.n.2.1) ∧ u.cell? ⟨(w.heap.size + 1), 4, none⟩ = some (.int .u64 b.n.2.2) ∧ u.cell? ⟨(w.heap.size + 1), 5, none⟩ = some (.int .i64 b.i) ∧ u.cell? ⟨(w.heap.size + 1), 6, none⟩ = some (.int .i64 b.o)) ∧ (u.cell? ⟨(w.heap.size + 2), 0, none⟩ = some (.int .u8 c.k) ∧ u.cell? ⟨(w.heap.size + 2), 1, none⟩ = some (uV c.n.1.1) ∧ u.cell? ⟨(w.heap.size + 2), 2, none⟩ = some (uV c.n.1.2) ∧ u.cell? ⟨(w.heap.size + 2), 3, none⟩ = some (.int .u64 c.n.2.1) ∧ u.cell? ⟨(w.heap.size + 2), 4, none⟩ = some (.int .u64 c.n.2.2) ∧ u.cell? ⟨(w.heap.size + 2), 5, none⟩ = some (.int .i64 c.i) ∧ u.cell? ⟨(w.heap.size + 2), 6, none⟩ = some (.int .i64 c.o)))) := Lib.hid fun u bb => ⟨vB.cells ((X3.out.after bb).get (g := w.heap.size) (cs := vCells a) (t := 30) (by simp)), vB.cells ((X3.out.after bb).get (g := (w.heap.size + 1)) (cs := vCells b) (t := 30) (by simp)), vB.cells ((X3.out.after bb).get (g := (w.heap.size + 2)) (cs := vCells c) (t := 30) (by simp))⟩
    have QB : Hid (Below u1.heap.size u1 u1.drew) := Lib.hid (Below.drew (Below.refl _ _))
    refine wp_region_held_drew (S := fun w' => (w'.cell? ⟨w.heap.size, 0, none⟩ = some (.int .u8 a.k) ∧ w'.cell? ⟨w.heap.size, 1, none⟩ = some (uV a.n.1.1) ∧ w'.cell? ⟨w.heap.size, 2, none⟩ = some (uV a.n.1.2) ∧ w'.cell? ⟨w.heap.size, 3, none⟩ = some (.int .u64 a.n.2.1) ∧ w'.cell? ⟨w.heap.size, 4, none⟩ = some (.int .u64 a.n.2.2) ∧ w'.cell? ⟨w.heap.size, 5, none⟩ = some (.int .i64 a.i) ∧ w'.cell? ⟨w.heap.size, 6, none⟩ = some (.int .i64 a.o)) ∧ (w'.cell? ⟨(w.heap.size + 1), 0, none⟩ = some (.int .u8 b.k) ∧ w'.cell? ⟨(w.heap.size + 1), 1, none⟩ = some (uV b.n.1.1) ∧ w'.cell? ⟨(w.heap.size + 1), 2, none⟩ = some (uV b.n.1.2) ∧ w'.cell? ⟨(w.heap.size + 1), 3, none⟩ = some (.int .u64 b.n.2.1) ∧ w'.cell? ⟨(w.heap.size + 1), 4, none⟩ = some (.int .u64 b.n.2.2) ∧ w'.cell? ⟨(w.heap.size + 1), 5, none⟩ = some (.int .i64 b.i) ∧ w'.cell? ⟨(w.heap.size + 1), 6, none⟩ = some (.int .i64 b.o)) ∧ (w'.cell? ⟨(w.heap.size + 2), 0, none⟩ = some (.int .u8 c.k) ∧ w'.cell? ⟨(w.heap.size + 2), 1, none⟩ = some (uV c.n.1.1) ∧ w'.cell? ⟨(w.heap.size + 2), 2, none⟩ = some (uV c.n.1.2) ∧ w'.cell? ⟨(w.heap.size + 2), 3, none⟩ = some (.int .u64 c.n.2.1) ∧ w'.cell? ⟨(w.heap.size + 2), 4, none⟩ = some (.int .u64 c.n.2.2) ∧ w'.cell? ⟨(w.heap.size + 2), 5, none⟩ = some (.int .i64 c.i) ∧ w'.cell? ⟨(w.heap.size + 2), 6, none⟩ = some (.int .i64 c.o))) (by kernel_rfl) (SD.out _ QB.out) (fun hHeld => ?_)
    generalize u1.drew = wd at *
    refine wpAnyH_take (i := 0) (oi := { dst := some 21, op := Op.move (Operand.tmp 7), type := 4, pos := "law.go:60", after := #[], guard := none }) (v := ?_) rfl (by kernel_rfl) (by kernel_rfl) (by kernel_rfl) (fun _ _ _ h => h) (Or.inl ⟨by rfl, ?_⟩) (by first | exact hHeld | assumption) ?_
    rotate_left 1
    · intro w hSw; (try dsimp only at hSw); go_simp; try (with_reducible rfl)
    try simp only [Act.put, List.setIfInBounds_toArray, List.set_cons_zero, List.set_cons_succ]
    refine wpAnyH_take (i := 1) (oi := { dst := some 22, op := Op.move (Operand.tmp 21), type := 4, pos := "law.go:60", after := #[{ on := 0, ground := Ground.data }], guard := none }) (v := ?_) rfl (by kernel_rfl) (by kernel_rfl) (by kernel_rfl) (fun _ _ _ h => h) (Or.inl ⟨by rfl, ?_⟩) (by first | exact hHeld | assumption) ?_
    rotate_left 1
    · intro w hSw; (try dsimp only at hSw); go_simp; try (with_reducible rfl)
    try simp only [Act.put, List.setIfInBounds_toArray, List.set_cons_zero, List.set_cons_succ]
    refine wpAnyH_take (i := 2) (oi := { dst := some 23, op := Op.load 30 (Operand.tmp 3), type := 30, pos := "law.go:60", after := #[{ on := 1, ground := Ground.guard }], guard := some (1, true) }) (v := ?_) rfl (by kernel_rfl) (by kernel_rfl) (by kernel_rfl) (fun _ _ _ h => h) (Or.inl ⟨by rfl, ?_⟩) (by first | exact hHeld | assumption) ?_
    rotate_left 1
    · intro w hSw; (try dsimp only at hSw); go_simp; try (with_reducible rfl)
    try simp only [Act.put, List.setIfInBounds_toArray, List.set_cons_zero, List.set_cons_succ]
    refine wpAnyH_take (i := 3) (oi := { dst := some 24, op := Op.load 30 (Operand.tmp 3), type := 30, pos := "law.go:60", after := #[{ on := 1, ground := Ground.guard }], guard := some (1, true) }) (v := ?_) rfl (by kernel_rfl) (by kernel_rfl) (by kernel_rfl) (fun _ _ _ h => h) (Or.inl ⟨by rfl, ?_⟩) (by first | exact hHeld | assumption) ?_
    rotate_left 1
    · intro w hSw; (try dsimp only at hSw); go_simp; try (with_reducible rfl)
    try simp only [Act.put, List.setIfInBounds_toArray, List.set_cons_zero, List.set_cons_succ]
    refine wpAnyH_take (i := 5) (oi := { dst := some 26, op := Op.load 30 (Operand.tmp 3), type := 30, pos := "law.go:60", after := #[{ on := 1, ground := Ground.guard }], guard := some (1, true) }) (v := ?_) rfl (by kernel_rfl) (by kernel_rfl) (by kernel_rfl) (fun _ _ _ h => h) (Or.inl ⟨by rfl, ?_⟩) (by first | exact hHeld | assumption) ?_
    rotate_left 1
    · intro w hSw; (try dsimp only at hSw); go_simp; try (with_reducible rfl)
    try simp only [Act.put, List.setIfInBounds_toArray, List.set_cons_zero, List.set_cons_succ]
    refine wpAnyH_ready (rs := [4]) (by kernel_rfl) (by simp) ?_
    refine AllReadyH.cons (o := { dst := some 25, op := Op.call { callee := Callee.value (Operand.func 20), args := #[Operand.tmp 23, Operand.tmp 24], argTypes := #[30, 30] }, type := 4, pos := "law.go:60", after := #[{ on := 2, ground := Ground.data }, { on := 3, ground := Ground.data }, { on := 1, ground := Ground.chain }, { on := 1, ground := Ground.guard }], guard := some (1, true) }) rfl (fun K hK => ?_) AllReadyH.nil
    go_simp
    refine (W4.out _).mono ?_; rintro e u1 ⟨rfl, b⟩
    replace QB := Lib.hid (below_next' QB.out b)
    clear b
    go_wp2_with fail
    refine hK.out _ _ (SD.out _ QB.out) (fun hHeld => ?_)
    clear hK K
    try simp only [Act.put, List.setIfInBounds_toArray, List.set_cons_zero, List.set_cons_succ]
    refine wpAnyH_ready (rs := [6]) (by kernel_rfl) (by simp) ?_
    refine AllReadyH.cons (o := { dst := some 27, op := Op.call { callee := Callee.value (Operand.func 12), args := #[Operand.tmp 26], argTypes := #[30] }, type := 4, pos := "law.go:60", after := #[{ on := 5, ground := Ground.data }, { on := 4, ground := Ground.chain }, { on := 1, ground := Ground.guard }], guard := some (1, true) }) rfl (fun K hK => ?_) AllReadyH.nil
    go_simp
    refine (R.out _).mono ?_; rintro e u1 ⟨rfl, b⟩
    replace QB := Lib.hid (below_next' QB.out b)
    clear b
    go_wp2_with fail
    refine hK.out _ _ (SD.out _ QB.out) (fun hHeld => ?_)
    clear hK K
    try simp only [Act.put, List.setIfInBounds_toArray, List.set_cons_zero, List.set_cons_succ]
    refine wpAnyH_take (i := 7) (oi := { dst := some 28, op := Op.binOp BinOp.eql 4 (Operand.tmp 25) (Operand.tmp 27) 4, type := 4, pos := "law.go:60", after := #[{ on := 4, ground := Ground.data }, { on := 6, ground := Ground.data }, { on := 1, ground := Ground.guard }], guard := some (1, true) }) (v := ?_) rfl (by kernel_rfl) (by kernel_rfl) (by kernel_rfl) (fun _ _ _ h => h) (Or.inl ⟨by rfl, ?_⟩) (by first | exact hHeld | assumption) ?_
    rotate_left 1
    · intro w hSw; (try dsimp only at hSw); go_simp; first | with_reducible rfl | (simp; done)
    try simp only [Act.put, List.setIfInBounds_toArray, List.set_cons_zero, List.set_cons_succ]
    refine wpAnyH_take (i := 8) (oi := { dst := some 29, op := Op.pick (Operand.tmp 22) (Operand.tmp 28) (Operand.const (Value.bool false)), type := 4, pos := "law.go:60", after := #[{ on := 1, ground := Ground.data }, { on := 7, ground := Ground.data }], guard := none }) (v := ?_) rfl (by kernel_rfl) (by kernel_rfl) (by kernel_rfl) (fun _ _ _ h => h) (Or.inl ⟨by rfl, ?_⟩) (by first | exact hHeld | assumption) ?_
    rotate_left 1
    · intro w hSw; (try dsimp only at hSw); go_simp; try (with_reducible rfl)
    try simp only [Act.put, List.setIfInBounds_toArray, List.set_cons_zero, List.set_cons_succ]
    refine wpAnyH_take (i := 9) (oi := { dst := some 30, op := Op.move (Operand.tmp 29), type := 4, pos := "law.go:60", after := #[{ on := 8, ground := Ground.data }, { on := 6, ground := Ground.chain }], guard := none }) (v := ?_) rfl (by kernel_rfl) (by kernel_rfl) (by kernel_rfl) (fun _ _ _ h => h) (Or.inl ⟨by rfl, ?_⟩) (by first | exact hHeld | assumption) ?_
    rotate_left 1
    · intro w hSw; (try dsimp only at hSw); go_simp; try (with_reducible rfl)
    try simp only [Act.put, List.setIfInBounds_toArray, List.set_cons_zero, List.set_cons_succ]
    refine wpAnyH_take (i := 10) (oi := { dst := some 31, op := Op.load 30 (Operand.tmp 3), type := 30, pos := "law.go:60", after := #[{ on := 9, ground := Ground.guard }], guard := some (9, true) }) (v := ?_) rfl (by kernel_rfl) (by kernel_rfl) (by kernel_rfl) (fun _ _ _ h => h) (Or.inl ⟨by rfl, ?_⟩) (by first | exact hHeld | assumption) ?_
    rotate_left 1
    · intro w hSw; (try dsimp only at hSw); go_simp; try (with_reducible rfl)
    try simp only [Act.put, List.setIfInBounds_toArray, List.set_cons_zero, List.set_cons_succ]
    refine wpAnyH_take (i := 11) (oi := { dst := some 32, op := Op.build 30 #[], type := 30, pos := "law.go:60", after := #[{ on := 9, ground := Ground.guard }], guard := some (9, true) }) (v := ?_) rfl (by kernel_rfl) (by kernel_rfl) (by kernel_rfl) (fun _ _ _ h => h) (Or.inl ⟨by rfl, ?_⟩) (by first | exact hHeld | assumption) ?_
    rotate_left 1
    · intro w hSw; (try dsimp only at hSw); go_simp; try (with_reducible rfl)
    try simp only [Act.put, List.setIfInBounds_toArray, List.set_cons_zero, List.set_cons_succ]
    refine wpAnyH_take (i := 13) (oi := { dst := some 34, op := Op.load 30 (Operand.tmp 3), type := 30, pos := "law.go:60", after := #[{ on := 9, ground := Ground.guard }], guard := some (9, true) }) (v := ?_) rfl (by kernel_rfl) (by kernel_rfl) (by kernel_rfl) (fun _ _ _ h => h) (Or.inl ⟨by rfl, ?_⟩) (by first | exact hHeld | assumption) ?_
    rotate_left 1
    · intro w hSw; (try dsimp only at hSw); go_simp; try (with_reducible rfl)
    try simp only [Act.put, List.setIfInBounds_toArray, List.set_cons_zero, List.set_cons_succ]
    refine wpAnyH_ready (rs := [12]) (by kernel_rfl) (by simp) ?_
    refine AllReadyH.cons (o := { dst := some 33, op := Op.call { callee := Callee.value (Operand.func 20), args := #[Operand.tmp 31, Operand.tmp 32], argTypes := #[30, 30] }, type := 4, pos := "law.go:60", after := #[{ on := 10, ground := Ground.data }, { on := 11, ground := Ground.data }, { on := 9, ground := Ground.chain }, { on := 9, ground := Ground.guard }], guard := some (9, true) }) rfl (fun K hK => ?_) AllReadyH.nil
    go_simp
    refine (W5.out _).mono ?_; rintro e u1 ⟨rfl, b⟩
    replace QB := Lib.hid (below_next' QB.out b)
    clear b
    go_wp2_with fail
    refine hK.out _ _ (SD.out _ QB.out) (fun hHeld => ?_)
    clear hK K
    try simp only [Act.put, List.setIfInBounds_toArray, List.set_cons_zero, List.set_cons_succ]
    refine wpAnyH_ready (rs := [14]) (by kernel_rfl) (by simp) ?_
    refine AllReadyH.cons (o := { dst := some 35, op := Op.call { callee := Callee.value (Operand.func 12), args := #[Operand.tmp 34], argTypes := #[30] }, type := 4, pos := "law.go:60", after := #[{ on := 13, ground := Ground.data }, { on := 12, ground := Ground.chain }, { on := 9, ground := Ground.guard }], guard := some (9, true) }) rfl (fun K hK => ?_) AllReadyH.nil
    go_simp
    refine (R.out _).mono ?_; rintro e u1 ⟨rfl, b⟩
    replace QB := Lib.hid (below_next' QB.out b)
    clear b
    go_wp2_with fail
    refine hK.out _ _ (SD.out _ QB.out) (fun hHeld => ?_)
    clear hK K
    try simp only [Act.put, List.setIfInBounds_toArray, List.set_cons_zero, List.set_cons_succ]
    refine wpAnyH_take (i := 15) (oi := { dst := some 36, op := Op.binOp BinOp.eql 4 (Operand.tmp 33) (Operand.tmp 35) 4, type := 4, pos := "law.go:60", after := #[{ on := 12, ground := Ground.data }, { on := 14, ground := Ground.data }, { on := 9, ground := Ground.guard }], guard := some (9, true) }) (v := ?_) rfl (by kernel_rfl) (by kernel_rfl) (by kernel_rfl) (fun _ _ _ h => h) (Or.inl ⟨by rfl, ?_⟩) (by first | exact hHeld | assumption) ?_
    rotate_left 1
    · intro w hSw; (try dsimp only at hSw); go_simp; first | with_reducible rfl | (simp; done)
    try simp only [Act.put, List.setIfInBounds_toArray, List.set_cons_zero, List.set_cons_succ]
    refine wpAnyH_take (i := 16) (oi := { dst := some 37, op := Op.pick (Operand.tmp 30) (Operand.tmp 36) (Operand.const (Value.bool false)), type := 4, pos := "law.go:60", after := #[{ on := 9, ground := Ground.data }, { on := 15, ground := Ground.data }], guard := none }) (v := ?_) rfl (by kernel_rfl) (by kernel_rfl) (by kernel_rfl) (fun _ _ _ h => h) (Or.inl ⟨by rfl, ?_⟩) (by first | exact hHeld | assumption) ?_
    rotate_left 1
    · intro w hSw; (try dsimp only at hSw); go_simp; try (with_reducible rfl)
    try simp only [Act.put, List.setIfInBounds_toArray, List.set_cons_zero, List.set_cons_succ]
    refine wpAnyH_take (i := 17) (oi := { dst := some 38, op := Op.move (Operand.tmp 37), type := 4, pos := "law.go:60", after := #[{ on := 16, ground := Ground.data }, { on := 14, ground := Ground.chain }], guard := none }) (v := ?_) rfl (by kernel_rfl) (by kernel_rfl) (by kernel_rfl) (fun _ _ _ h => h) (Or.inl ⟨by rfl, ?_⟩) (by first | exact hHeld | assumption) ?_
    rotate_left 1
    · intro w hSw; (try dsimp only at hSw); go_simp; try (with_reducible rfl)
    try simp only [Act.put, List.setIfInBounds_toArray, List.set_cons_zero, List.set_cons_succ]
    refine wpAnyH_take (i := 18) (oi := { dst := some 39, op := Op.move (Operand.tmp 8), type := 4, pos := "law.go:60", after := #[{ on := 17, ground := Ground.guard }], guard := some (17, true) }) (v := ?_) rfl (by kernel_rfl) (by kernel_rfl) (by kernel_rfl) (fun _ _ _ h => h) (Or.inl ⟨by rfl, ?_⟩) (by first | exact hHeld | assumption) ?_
    rotate_left 1
    · intro w hSw; (try dsimp only at hSw); go_simp; try (with_reducible rfl)
    try simp only [Act.put, List.setIfInBounds_toArray, List.set_cons_zero, List.set_cons_succ]
    refine wpAnyH_take (i := 19) (oi := { dst := some 40, op := Op.unOp UnOp.not 4 (Operand.tmp 39), type := 4, pos := "law.go:60", after := #[{ on := 18, ground := Ground.data }, { on := 17, ground := Ground.guard }], guard := some (17, true) }) (v := ?_) rfl (by kernel_rfl) (by kernel_rfl) (by kernel_rfl) (fun _ _ _ h => h) (Or.inl ⟨by rfl, ?_⟩) (by first | exact hHeld | assumption) ?_
    rotate_left 1
    · intro w hSw; (try dsimp only at hSw); go_simp; try (with_reducible rfl)
    try simp only [Act.put, List.setIfInBounds_toArray, List.set_cons_zero, List.set_cons_succ]
    refine wpAnyH_take (i := 20) (oi := { dst := some 41, op := Op.move (Operand.tmp 40), type := 4, pos := "law.go:60", after := #[{ on := 19, ground := Ground.data }, { on := 17, ground := Ground.chain }, { on := 17, ground := Ground.guard }], guard := some (17, true) }) (v := ?_) rfl (by kernel_rfl) (by kernel_rfl) (by kernel_rfl) (fun _ _ _ h => h) (Or.inl ⟨by rfl, ?_⟩) (by first | exact hHeld | assumption) ?_
    rotate_left 1
    · intro w hSw; (try dsimp only at hSw); go_simp; try (with_reducible rfl)
    try simp only [Act.put, List.setIfInBounds_toArray, List.set_cons_zero, List.set_cons_succ]
    refine wpAnyH_take (i := 21) (oi := { dst := some 42, op := Op.move (Operand.tmp 9), type := 4, pos := "law.go:60", after := #[{ on := 20, ground := Ground.guard }], guard := some (20, false) }) (v := ?_) rfl (by kernel_rfl) (by kernel_rfl) (by kernel_rfl) (fun _ _ _ h => h) (Or.inl ⟨by rfl, ?_⟩) (by first | exact hHeld | assumption) ?_
    rotate_left 1
    · intro w hSw; (try dsimp only at hSw); go_simp; try (with_reducible rfl)
    try simp only [Act.put, List.setIfInBounds_toArray, List.set_cons_zero, List.set_cons_succ]
    refine wpAnyH_take (i := 22) (oi := { dst := some 43, op := Op.unOp UnOp.not 4 (Operand.tmp 42), type := 4, pos := "law.go:60", after := #[{ on := 21, ground := Ground.data }, { on := 20, ground := Ground.guard }], guard := some (20, false) }) (v := ?_) rfl (by kernel_rfl) (by kernel_rfl) (by kernel_rfl) (fun _ _ _ h => h) (Or.inl ⟨by rfl, ?_⟩) (by first | exact hHeld | assumption) ?_
    rotate_left 1
    · intro w hSw; (try dsimp only at hSw); go_simp; try (with_reducible rfl)
    try simp only [Act.put, List.setIfInBounds_toArray, List.set_cons_zero, List.set_cons_succ]
    refine wpAnyH_take (i := 23) (oi := { dst := some 44, op := Op.pick (Operand.tmp 41) (Operand.const (Value.bool true)) (Operand.tmp 43), type := 4, pos := "law.go:60", after := #[{ on := 20, ground := Ground.data }, { on := 22, ground := Ground.data }, { on := 17, ground := Ground.guard }], guard := some (17, true) }) (v := ?_) rfl (by kernel_rfl) (by kernel_rfl) (by kernel_rfl) (fun _ _ _ h => h) (Or.inl ⟨by rfl, ?_⟩) (by first | exact hHeld | assumption) ?_
    rotate_left 1
    · intro w hSw; (try dsimp only at hSw); go_simp; try (with_reducible rfl)
    try simp only [Act.put, List.setIfInBounds_toArray, List.set_cons_zero, List.set_cons_succ]
    refine wpAnyH_take (i := 24) (oi := { dst := some 45, op := Op.move (Operand.tmp 44), type := 4, pos := "law.go:60", after := #[{ on := 23, ground := Ground.data }, { on := 20, ground := Ground.chain }, { on := 17, ground := Ground.guard }], guard := some (17, true) }) (v := ?_) rfl (by kernel_rfl) (by kernel_rfl) (by kernel_rfl) (fun _ _ _ h => h) (Or.inl ⟨by rfl, ?_⟩) (by first | exact hHeld | assumption) ?_
    rotate_left 1
    · intro w hSw; (try dsimp only at hSw); go_simp; try (with_reducible rfl)
    try simp only [Act.put, List.setIfInBounds_toArray, List.set_cons_zero, List.set_cons_succ]
    refine wpAnyH_take (i := 25) (oi := { dst := some 46, op := Op.move (Operand.tmp 10), type := 4, pos := "law.go:60", after := #[{ on := 24, ground := Ground.guard }], guard := some (24, false) }) (v := undef) rfl (by kernel_rfl) (by kernel_rfl) (by kernel_rfl) (fun _ _ _ h => h) (Or.inr ⟨by rfl, rfl⟩) (by first | exact hHeld | assumption) ?_
    try simp only [Act.put, List.setIfInBounds_toArray, List.set_cons_zero, List.set_cons_succ]
    refine wpAnyH_take (i := 26) (oi := { dst := some 47, op := Op.pick (Operand.tmp 45) (Operand.const (Value.bool true)) (Operand.tmp 46), type := 4, pos := "law.go:60", after := #[{ on := 24, ground := Ground.data }, { on := 25, ground := Ground.data }, { on := 17, ground := Ground.guard }], guard := some (17, true) }) (v := ?_) rfl (by kernel_rfl) (by kernel_rfl) (by kernel_rfl) (fun _ _ _ h => h) (Or.inl ⟨by rfl, ?_⟩) (by first | exact hHeld | assumption) ?_
    rotate_left 1
    · intro w hSw; (try dsimp only at hSw); go_simp; try (with_reducible rfl)
    try simp only [Act.put, List.setIfInBounds_toArray, List.set_cons_zero, List.set_cons_succ]
    refine wpAnyH_take (i := 27) (oi := { dst := some 48, op := Op.pick (Operand.tmp 38) (Operand.tmp 47) (Operand.const (Value.bool false)), type := 4, pos := "law.go:60", after := #[{ on := 17, ground := Ground.data }, { on := 26, ground := Ground.data }], guard := none }) (v := ?_) rfl (by kernel_rfl) (by kernel_rfl) (by kernel_rfl) (fun _ _ _ h => h) (Or.inl ⟨by rfl, ?_⟩) (by first | exact hHeld | assumption) ?_
    rotate_left 1
    · intro w hSw; (try dsimp only at hSw); go_simp; try (with_reducible rfl)
    try simp only [Act.put, List.setIfInBounds_toArray, List.set_cons_zero, List.set_cons_succ]
    refine wpAnyH_take (i := 28) (oi := { dst := some 6, op := Op.assign (Operand.tmp 48), type := 4, pos := "law.go:60", after := #[{ on := 27, ground := Ground.data }, { on := 24, ground := Ground.chain }, { on := 0, ground := Ground.phase }, { on := 1, ground := Ground.phase }, { on := 2, ground := Ground.phase }, { on := 3, ground := Ground.phase }, { on := 4, ground := Ground.phase }, { on := 5, ground := Ground.phase }, { on := 6, ground := Ground.phase }, { on := 7, ground := Ground.phase }, { on := 8, ground := Ground.phase }, { on := 9, ground := Ground.phase }, { on := 10, ground := Ground.phase }, { on := 11, ground := Ground.phase }, { on := 12, ground := Ground.phase }, { on := 13, ground := Ground.phase }, { on := 14, ground := Ground.phase }, { on := 15, ground := Ground.phase }, { on := 16, ground := Ground.phase }, { on := 17, ground := Ground.phase }, { on := 18, ground := Ground.phase }, { on := 19, ground := Ground.phase }, { on := 20, ground := Ground.phase }, { on := 21, ground := Ground.phase }, { on := 22, ground := Ground.phase }, { on := 23, ground := Ground.phase }, { on := 24, ground := Ground.phase }, { on := 25, ground := Ground.phase }, { on := 26, ground := Ground.phase }, { on := 27, ground := Ground.phase }], guard := none }) (v := ?_) rfl (by kernel_rfl) (by kernel_rfl) (by kernel_rfl) (fun _ _ _ h => h) (Or.inl ⟨by rfl, ?_⟩) (by first | exact hHeld | assumption) ?_
    rotate_left 1
    · intro w hSw; (try dsimp only at hSw); go_simp; try (with_reducible rfl)
    try simp only [Act.put, List.setIfInBounds_toArray, List.set_cons_zero, List.set_cons_succ]
    refine wpAnyH_done (by kernel_rfl) ?_ _
    go_wp2_with fail
    go_ret
    exact ⟨rfl, below_next' X3.out.1 QB.out⟩
  have hz := HX.out rfl rfl
  subst hz
  clear HX
  · skip
    go_upto_region 3 with fail
    have SD : Hid (∀ u, Below u1.heap.size u1 u → ((u.cell? ⟨w.heap.size, 0, none⟩ = some (.int .u8 a.k) ∧ u.cell? ⟨w.heap.size, 1, none⟩ = some (uV a.n.1.1) ∧ u.cell? ⟨w.heap.size, 2, none⟩ = some (uV a.n.1.2) ∧ u.cell? ⟨w.heap.size, 3, none⟩ = some (.int .u64 a.n.2.1) ∧ u.cell? ⟨w.heap.size, 4, none⟩ = some (.int .u64 a.n.2.2) ∧ u.cell? ⟨w.heap.size, 5, none⟩ = some (.int .i64 a.i) ∧ u.cell? ⟨w.heap.size, 6, none⟩ = some (.int .i64 a.o)) ∧ (u.cell? ⟨(w.heap.size + 1), 0, none⟩ = some (.int .u8 b.k) ∧ u.cell? ⟨(w.heap.size + 1), 1, none⟩ = some (uV b.n.1.1) ∧ u.cell? ⟨(w.heap.size + 1), 2, none⟩ = some (uV b.n.1.2) ∧ u.cell? ⟨(w.heap.size + 1), 3, none⟩ = some (.int .u64 b.n.2.1) ∧ u.cell? ⟨(w.heap.size + 1), 4, none⟩ = some (.int .u64 b.n.2.2) ∧ u.cell? ⟨(w.heap.size + 1), 5, none⟩ = some (.int .i64 b.i) ∧ u.cell? ⟨(w.heap.size + 1), 6, none⟩ = some (.int .i64 b.o)) ∧ (u.cell? ⟨(w.heap.size + 2), 0, none⟩ = some (.int .u8 c.k) ∧ u.cell? ⟨(w.heap.size + 2), 1, none⟩ = some (uV c.n.1.1) ∧ u.cell? ⟨(w.heap.size + 2), 2, none⟩ = some (uV c.n.1.2) ∧ u.cell? ⟨(w.heap.size + 2), 3, none⟩ = some (.int .u64 c.n.2.1) ∧ u.cell? ⟨(w.heap.size + 2), 4, none⟩ = some (.int .u64 c.n.2.2) ∧ u.cell? ⟨(w.heap.size + 2), 5, none⟩ = some (.int .i64 c.i) ∧ u.cell? ⟨(w.heap.size + 2), 6, none⟩ = some (.int .i64 c.o)))) := Lib.hid fun u bb => ⟨vB.cells ((X3.out.after bb).get (g := w.heap.size) (cs := vCells a) (t := 30) (by simp)), vB.cells ((X3.out.after bb).get (g := (w.heap.size + 1)) (cs := vCells b) (t := 30) (by simp)), vB.cells ((X3.out.after bb).get (g := (w.heap.size + 2)) (cs := vCells c) (t := 30) (by simp))⟩
    have QB : Hid (Below u1.heap.size u1 u1.drew) := Lib.hid (Below.drew (Below.refl _ _))
    refine wp_region_held_drew (S := fun w' => (w'.cell? ⟨w.heap.size, 0, none⟩ = some (.int .u8 a.k) ∧ w'.cell? ⟨w.heap.size, 1, none⟩ = some (uV a.n.1.1) ∧ w'.cell? ⟨w.heap.size, 2, none⟩ = some (uV a.n.1.2) ∧ w'.cell? ⟨w.heap.size, 3, none⟩ = some (.int .u64 a.n.2.1) ∧ w'.cell? ⟨w.heap.size, 4, none⟩ = some (.int .u64 a.n.2.2) ∧ w'.cell? ⟨w.heap.size, 5, none⟩ = some (.int .i64 a.i) ∧ w'.cell? ⟨w.heap.size, 6, none⟩ = some (.int .i64 a.o)) ∧ (w'.cell? ⟨(w.heap.size + 1), 0, none⟩ = some (.int .u8 b.k) ∧ w'.cell? ⟨(w.heap.size + 1), 1, none⟩ = some (uV b.n.1.1) ∧ w'.cell? ⟨(w.heap.size + 1), 2, none⟩ = some (uV b.n.1.2) ∧ w'.cell? ⟨(w.heap.size + 1), 3, none⟩ = some (.int .u64 b.n.2.1) ∧ w'.cell? ⟨(w.heap.size + 1), 4, none⟩ = some (.int .u64 b.n.2.2) ∧ w'.cell? ⟨(w.heap.size + 1), 5, none⟩ = some (.int .i64 b.i) ∧ w'.cell? ⟨(w.heap.size + 1), 6, none⟩ = some (.int .i64 b.o)) ∧ (w'.cell? ⟨(w.heap.size + 2), 0, none⟩ = some (.int .u8 c.k) ∧ w'.cell? ⟨(w.heap.size + 2), 1, none⟩ = some (uV c.n.1.1) ∧ w'.cell? ⟨(w.heap.size + 2), 2, none⟩ = some (uV c.n.1.2) ∧ w'.cell? ⟨(w.heap.size + 2), 3, none⟩ = some (.int .u64 c.n.2.1) ∧ w'.cell? ⟨(w.heap.size + 2), 4, none⟩ = some (.int .u64 c.n.2.2) ∧ w'.cell? ⟨(w.heap.size + 2), 5, none⟩ = some (.int .i64 c.i) ∧ w'.cell? ⟨(w.heap.size + 2), 6, none⟩ = some (.int .i64 c.o))) (by kernel_rfl) (SD.out _ QB.out) (fun hHeld => ?_)
    generalize u1.drew = wd at *
    refine wpAnyH_take (i := 0) (oi := { dst := some 21, op := Op.move (Operand.tmp 7), type := 4, pos := "law.go:60", after := #[], guard := none }) (v := ?_) rfl (by kernel_rfl) (by kernel_rfl) (by kernel_rfl) (fun _ _ _ h => h) (Or.inl ⟨by rfl, ?_⟩) (by first | exact hHeld | assumption) ?_
    rotate_left 1
    · intro w hSw; (try dsimp only at hSw); go_simp; try (with_reducible rfl)
    try simp only [Act.put, List.setIfInBounds_toArray, List.set_cons_zero, List.set_cons_succ]
    refine wpAnyH_take (i := 1) (oi := { dst := some 22, op := Op.move (Operand.tmp 21), type := 4, pos := "law.go:60", after := #[{ on := 0, ground := Ground.data }], guard := none }) (v := ?_) rfl (by kernel_rfl) (by kernel_rfl) (by kernel_rfl) (fun _ _ _ h => h) (Or.inl ⟨by rfl, ?_⟩) (by first | exact hHeld | assumption) ?_
    rotate_left 1
    · intro w hSw; (try dsimp only at hSw); go_simp; try (with_reducible rfl)
    try simp only [Act.put, List.setIfInBounds_toArray, List.set_cons_zero, List.set_cons_succ]
    refine wpAnyH_take (i := 2) (oi := { dst := some 23, op := Op.load 30 (Operand.tmp 3), type := 30, pos := "law.go:60", after := #[{ on := 1, ground := Ground.guard }], guard := some (1, true) }) (v := ?_) rfl (by kernel_rfl) (by kernel_rfl) (by kernel_rfl) (fun _ _ _ h => h) (Or.inl ⟨by rfl, ?_⟩) (by first | exact hHeld | assumption) ?_
    rotate_left 1
    · intro w hSw; (try dsimp only at hSw); go_simp; try (with_reducible rfl)
    try simp only [Act.put, List.setIfInBounds_toArray, List.set_cons_zero, List.set_cons_succ]
    refine wpAnyH_take (i := 3) (oi := { dst := some 24, op := Op.load 30 (Operand.tmp 3), type := 30, pos := "law.go:60", after := #[{ on := 1, ground := Ground.guard }], guard := some (1, true) }) (v := ?_) rfl (by kernel_rfl) (by kernel_rfl) (by kernel_rfl) (fun _ _ _ h => h) (Or.inl ⟨by rfl, ?_⟩) (by first | exact hHeld | assumption) ?_
    rotate_left 1
    · intro w hSw; (try dsimp only at hSw); go_simp; try (with_reducible rfl)
    try simp only [Act.put, List.setIfInBounds_toArray, List.set_cons_zero, List.set_cons_succ]
    refine wpAnyH_take (i := 5) (oi := { dst := some 26, op := Op.load 30 (Operand.tmp 3), type := 30, pos := "law.go:60", after := #[{ on := 1, ground := Ground.guard }], guard := some (1, true) }) (v := ?_) rfl (by kernel_rfl) (by kernel_rfl) (by kernel_rfl) (fun _ _ _ h => h) (Or.inl ⟨by rfl, ?_⟩) (by first | exact hHeld | assumption) ?_
    rotate_left 1
    · intro w hSw; (try dsimp only at hSw); go_simp; try (with_reducible rfl)
    try simp only [Act.put, List.setIfInBounds_toArray, List.set_cons_zero, List.set_cons_succ]
    refine wpAnyH_ready (rs := [4]) (by kernel_rfl) (by simp) ?_
    refine AllReadyH.cons (o := { dst := some 25, op := Op.call { callee := Callee.value (Operand.func 20), args := #[Operand.tmp 23, Operand.tmp 24], argTypes := #[30, 30] }, type := 4, pos := "law.go:60", after := #[{ on := 2, ground := Ground.data }, { on := 3, ground := Ground.data }, { on := 1, ground := Ground.chain }, { on := 1, ground := Ground.guard }], guard := some (1, true) }) rfl (fun K hK => ?_) AllReadyH.nil
    go_simp
    refine (W4.out _).mono ?_; rintro e u1 ⟨rfl, b⟩
    replace QB := Lib.hid (below_next' QB.out b)
    clear b
    go_wp2_with fail
    refine hK.out _ _ (SD.out _ QB.out) (fun hHeld => ?_)
    clear hK K
    try simp only [Act.put, List.setIfInBounds_toArray, List.set_cons_zero, List.set_cons_succ]
    refine wpAnyH_ready (rs := [6]) (by kernel_rfl) (by simp) ?_
    refine AllReadyH.cons (o := { dst := some 27, op := Op.call { callee := Callee.value (Operand.func 12), args := #[Operand.tmp 26], argTypes := #[30] }, type := 4, pos := "law.go:60", after := #[{ on := 5, ground := Ground.data }, { on := 4, ground := Ground.chain }, { on := 1, ground := Ground.guard }], guard := some (1, true) }) rfl (fun K hK => ?_) AllReadyH.nil
    go_simp
    refine (R.out _).mono ?_; rintro e u1 ⟨rfl, b⟩
    replace QB := Lib.hid (below_next' QB.out b)
    clear b
    go_wp2_with fail
    refine hK.out _ _ (SD.out _ QB.out) (fun hHeld => ?_)
    clear hK K
    try simp only [Act.put, List.setIfInBounds_toArray, List.set_cons_zero, List.set_cons_succ]
    refine wpAnyH_take (i := 7) (oi := { dst := some 28, op := Op.binOp BinOp.eql 4 (Operand.tmp 25) (Operand.tmp 27) 4, type := 4, pos := "law.go:60", after := #[{ on := 4, ground := Ground.data }, { on := 6, ground := Ground.data }, { on := 1, ground := Ground.guard }], guard := some (1, true) }) (v := ?_) rfl (by kernel_rfl) (by kernel_rfl) (by kernel_rfl) (fun _ _ _ h => h) (Or.inl ⟨by rfl, ?_⟩) (by first | exact hHeld | assumption) ?_
    rotate_left 1
    · intro w hSw; (try dsimp only at hSw); go_simp; first | with_reducible rfl | (simp; done)
    try simp only [Act.put, List.setIfInBounds_toArray, List.set_cons_zero, List.set_cons_succ]
    refine wpAnyH_take (i := 8) (oi := { dst := some 29, op := Op.pick (Operand.tmp 22) (Operand.tmp 28) (Operand.const (Value.bool false)), type := 4, pos := "law.go:60", after := #[{ on := 1, ground := Ground.data }, { on := 7, ground := Ground.data }], guard := none }) (v := ?_) rfl (by kernel_rfl) (by kernel_rfl) (by kernel_rfl) (fun _ _ _ h => h) (Or.inl ⟨by rfl, ?_⟩) (by first | exact hHeld | assumption) ?_
    rotate_left 1
    · intro w hSw; (try dsimp only at hSw); go_simp; try (with_reducible rfl)
    try simp only [Act.put, List.setIfInBounds_toArray, List.set_cons_zero, List.set_cons_succ]
    refine wpAnyH_take (i := 9) (oi := { dst := some 30, op := Op.move (Operand.tmp 29), type := 4, pos := "law.go:60", after := #[{ on := 8, ground := Ground.data }, { on := 6, ground := Ground.chain }], guard := none }) (v := ?_) rfl (by kernel_rfl) (by kernel_rfl) (by kernel_rfl) (fun _ _ _ h => h) (Or.inl ⟨by rfl, ?_⟩) (by first | exact hHeld | assumption) ?_
    rotate_left 1
    · intro w hSw; (try dsimp only at hSw); go_simp; try (with_reducible rfl)
    try simp only [Act.put, List.setIfInBounds_toArray, List.set_cons_zero, List.set_cons_succ]
    refine wpAnyH_take (i := 10) (oi := { dst := some 31, op := Op.load 30 (Operand.tmp 3), type := 30, pos := "law.go:60", after := #[{ on := 9, ground := Ground.guard }], guard := some (9, true) }) (v := ?_) rfl (by kernel_rfl) (by kernel_rfl) (by kernel_rfl) (fun _ _ _ h => h) (Or.inl ⟨by rfl, ?_⟩) (by first | exact hHeld | assumption) ?_
    rotate_left 1
    · intro w hSw; (try dsimp only at hSw); go_simp; try (with_reducible rfl)
    try simp only [Act.put, List.setIfInBounds_toArray, List.set_cons_zero, List.set_cons_succ]
    refine wpAnyH_take (i := 11) (oi := { dst := some 32, op := Op.build 30 #[], type := 30, pos := "law.go:60", after := #[{ on := 9, ground := Ground.guard }], guard := some (9, true) }) (v := ?_) rfl (by kernel_rfl) (by kernel_rfl) (by kernel_rfl) (fun _ _ _ h => h) (Or.inl ⟨by rfl, ?_⟩) (by first | exact hHeld | assumption) ?_
    rotate_left 1
    · intro w hSw; (try dsimp only at hSw); go_simp; try (with_reducible rfl)
    try simp only [Act.put, List.setIfInBounds_toArray, List.set_cons_zero, List.set_cons_succ]
    refine wpAnyH_take (i := 13) (oi := { dst := some 34, op := Op.load 30 (Operand.tmp 3), type := 30, pos := "law.go:60", after := #[{ on := 9, ground := Ground.guard }], guard := some (9, true) }) (v := ?_) rfl (by kernel_rfl) (by kernel_rfl) (by kernel_rfl) (fun _ _ _ h => h) (Or.inl ⟨by rfl, ?_⟩) (by first | exact hHeld | assumption) ?_
    rotate_left 1
    · intro w hSw; (try dsimp only at hSw); go_simp; try (with_reducible rfl)
    try simp only [Act.put, List.setIfInBounds_toArray, List.set_cons_zero, List.set_cons_succ]
    refine wpAnyH_ready (rs := [12]) (by kernel_rfl) (by simp) ?_
    refine AllReadyH.cons (o := { dst := some 33, op := Op.call { callee := Callee.value (Operand.func 20), args := #[Operand.tmp 31, Operand.tmp 32], argTypes := #[30, 30] }, type := 4, pos := "law.go:60", after := #[{ on := 10, ground := Ground.data }, { on := 11, ground := Ground.data }, { on := 9, ground := Ground.chain }, { on := 9, ground := Ground.guard }], guard := some (9, true) }) rfl (fun K hK => ?_) AllReadyH.nil
    go_simp
    refine (W5.out _).mono ?_; rintro e u1 ⟨rfl, b⟩
    replace QB := Lib.hid (below_next' QB.out b)
    clear b
    go_wp2_with fail
    refine hK.out _ _ (SD.out _ QB.out) (fun hHeld => ?_)
    clear hK K
    try simp only [Act.put, List.setIfInBounds_toArray, List.set_cons_zero, List.set_cons_succ]
    refine wpAnyH_ready (rs := [14]) (by kernel_rfl) (by simp) ?_
    refine AllReadyH.cons (o := { dst := some 35, op := Op.call { callee := Callee.value (Operand.func 12), args := #[Operand.tmp 34], argTypes := #[30] }, type := 4, pos := "law.go:60", after := #[{ on := 13, ground := Ground.data }, { on := 12, ground := Ground.chain }, { on := 9, ground := Ground.guard }], guard := some (9, true) }) rfl (fun K hK => ?_) AllReadyH.nil
    go_simp
    refine (R.out _).mono ?_; rintro e u1 ⟨rfl, b⟩
    replace QB := Lib.hid (below_next' QB.out b)
    clear b
    go_wp2_with fail
    refine hK.out _ _ (SD.out _ QB.out) (fun hHeld => ?_)
    clear hK K
    try simp only [Act.put, List.setIfInBounds_toArray, List.set_cons_zero, List.set_cons_succ]
    refine wpAnyH_take (i := 15) (oi := { dst := some 36, op := Op.binOp BinOp.eql 4 (Operand.tmp 33) (Operand.tmp 35) 4, type := 4, pos := "law.go:60", after := #[{ on := 12, ground := Ground.data }, { on := 14, ground := Ground.data }, { on := 9, ground := Ground.guard }], guard := some (9, true) }) (v := ?_) rfl (by kernel_rfl) (by kernel_rfl) (by kernel_rfl) (fun _ _ _ h => h) (Or.inl ⟨by rfl, ?_⟩) (by first | exact hHeld | assumption) ?_
    rotate_left 1
    · intro w hSw; (try dsimp only at hSw); go_simp; first | with_reducible rfl | (simp; done)
    try simp only [Act.put, List.setIfInBounds_toArray, List.set_cons_zero, List.set_cons_succ]
    refine wpAnyH_take (i := 16) (oi := { dst := some 37, op := Op.pick (Operand.tmp 30) (Operand.tmp 36) (Operand.const (Value.bool false)), type := 4, pos := "law.go:60", after := #[{ on := 9, ground := Ground.data }, { on := 15, ground := Ground.data }], guard := none }) (v := ?_) rfl (by kernel_rfl) (by kernel_rfl) (by kernel_rfl) (fun _ _ _ h => h) (Or.inl ⟨by rfl, ?_⟩) (by first | exact hHeld | assumption) ?_
    rotate_left 1
    · intro w hSw; (try dsimp only at hSw); go_simp; try (with_reducible rfl)
    try simp only [Act.put, List.setIfInBounds_toArray, List.set_cons_zero, List.set_cons_succ]
    refine wpAnyH_take (i := 17) (oi := { dst := some 38, op := Op.move (Operand.tmp 37), type := 4, pos := "law.go:60", after := #[{ on := 16, ground := Ground.data }, { on := 14, ground := Ground.chain }], guard := none }) (v := ?_) rfl (by kernel_rfl) (by kernel_rfl) (by kernel_rfl) (fun _ _ _ h => h) (Or.inl ⟨by rfl, ?_⟩) (by first | exact hHeld | assumption) ?_
    rotate_left 1
    · intro w hSw; (try dsimp only at hSw); go_simp; try (with_reducible rfl)
    try simp only [Act.put, List.setIfInBounds_toArray, List.set_cons_zero, List.set_cons_succ]
    refine wpAnyH_take (i := 18) (oi := { dst := some 39, op := Op.move (Operand.tmp 8), type := 4, pos := "law.go:60", after := #[{ on := 17, ground := Ground.guard }], guard := some (17, true) }) (v := ?_) rfl (by kernel_rfl) (by kernel_rfl) (by kernel_rfl) (fun _ _ _ h => h) (Or.inl ⟨by rfl, ?_⟩) (by first | exact hHeld | assumption) ?_
    rotate_left 1
    · intro w hSw; (try dsimp only at hSw); go_simp; try (with_reducible rfl)
    try simp only [Act.put, List.setIfInBounds_toArray, List.set_cons_zero, List.set_cons_succ]
    refine wpAnyH_take (i := 19) (oi := { dst := some 40, op := Op.unOp UnOp.not 4 (Operand.tmp 39), type := 4, pos := "law.go:60", after := #[{ on := 18, ground := Ground.data }, { on := 17, ground := Ground.guard }], guard := some (17, true) }) (v := ?_) rfl (by kernel_rfl) (by kernel_rfl) (by kernel_rfl) (fun _ _ _ h => h) (Or.inl ⟨by rfl, ?_⟩) (by first | exact hHeld | assumption) ?_
    rotate_left 1
    · intro w hSw; (try dsimp only at hSw); go_simp; try (with_reducible rfl)
    try simp only [Act.put, List.setIfInBounds_toArray, List.set_cons_zero, List.set_cons_succ]
    refine wpAnyH_take (i := 20) (oi := { dst := some 41, op := Op.move (Operand.tmp 40), type := 4, pos := "law.go:60", after := #[{ on := 19, ground := Ground.data }, { on := 17, ground := Ground.chain }, { on := 17, ground := Ground.guard }], guard := some (17, true) }) (v := ?_) rfl (by kernel_rfl) (by kernel_rfl) (by kernel_rfl) (fun _ _ _ h => h) (Or.inl ⟨by rfl, ?_⟩) (by first | exact hHeld | assumption) ?_
    rotate_left 1
    · intro w hSw; (try dsimp only at hSw); go_simp; try (with_reducible rfl)
    try simp only [Act.put, List.setIfInBounds_toArray, List.set_cons_zero, List.set_cons_succ]
    refine wpAnyH_take (i := 21) (oi := { dst := some 42, op := Op.move (Operand.tmp 9), type := 4, pos := "law.go:60", after := #[{ on := 20, ground := Ground.guard }], guard := some (20, false) }) (v := ?_) rfl (by kernel_rfl) (by kernel_rfl) (by kernel_rfl) (fun _ _ _ h => h) (Or.inl ⟨by rfl, ?_⟩) (by first | exact hHeld | assumption) ?_
    rotate_left 1
    · intro w hSw; (try dsimp only at hSw); go_simp; try (with_reducible rfl)
    try simp only [Act.put, List.setIfInBounds_toArray, List.set_cons_zero, List.set_cons_succ]
    refine wpAnyH_take (i := 22) (oi := { dst := some 43, op := Op.unOp UnOp.not 4 (Operand.tmp 42), type := 4, pos := "law.go:60", after := #[{ on := 21, ground := Ground.data }, { on := 20, ground := Ground.guard }], guard := some (20, false) }) (v := ?_) rfl (by kernel_rfl) (by kernel_rfl) (by kernel_rfl) (fun _ _ _ h => h) (Or.inl ⟨by rfl, ?_⟩) (by first | exact hHeld | assumption) ?_
    rotate_left 1
    · intro w hSw; (try dsimp only at hSw); go_simp; try (with_reducible rfl)
    try simp only [Act.put, List.setIfInBounds_toArray, List.set_cons_zero, List.set_cons_succ]
    refine wpAnyH_take (i := 23) (oi := { dst := some 44, op := Op.pick (Operand.tmp 41) (Operand.const (Value.bool true)) (Operand.tmp 43), type := 4, pos := "law.go:60", after := #[{ on := 20, ground := Ground.data }, { on := 22, ground := Ground.data }, { on := 17, ground := Ground.guard }], guard := some (17, true) }) (v := ?_) rfl (by kernel_rfl) (by kernel_rfl) (by kernel_rfl) (fun _ _ _ h => h) (Or.inl ⟨by rfl, ?_⟩) (by first | exact hHeld | assumption) ?_
    rotate_left 1
    · intro w hSw; (try dsimp only at hSw); go_simp; try (with_reducible rfl)
    try simp only [Act.put, List.setIfInBounds_toArray, List.set_cons_zero, List.set_cons_succ]
    refine wpAnyH_take (i := 24) (oi := { dst := some 45, op := Op.move (Operand.tmp 44), type := 4, pos := "law.go:60", after := #[{ on := 23, ground := Ground.data }, { on := 20, ground := Ground.chain }, { on := 17, ground := Ground.guard }], guard := some (17, true) }) (v := ?_) rfl (by kernel_rfl) (by kernel_rfl) (by kernel_rfl) (fun _ _ _ h => h) (Or.inl ⟨by rfl, ?_⟩) (by first | exact hHeld | assumption) ?_
    rotate_left 1
    · intro w hSw; (try dsimp only at hSw); go_simp; try (with_reducible rfl)
    try simp only [Act.put, List.setIfInBounds_toArray, List.set_cons_zero, List.set_cons_succ]
    refine wpAnyH_take (i := 25) (oi := { dst := some 46, op := Op.move (Operand.tmp 10), type := 4, pos := "law.go:60", after := #[{ on := 24, ground := Ground.guard }], guard := some (24, false) }) (v := ?_) rfl (by kernel_rfl) (by kernel_rfl) (by kernel_rfl) (fun _ _ _ h => h) (Or.inl ⟨by rfl, ?_⟩) (by first | exact hHeld | assumption) ?_
    rotate_left 1
    · intro w hSw; (try dsimp only at hSw); go_simp; try (with_reducible rfl)
    try simp only [Act.put, List.setIfInBounds_toArray, List.set_cons_zero, List.set_cons_succ]
    refine wpAnyH_take (i := 26) (oi := { dst := some 47, op := Op.pick (Operand.tmp 45) (Operand.const (Value.bool true)) (Operand.tmp 46), type := 4, pos := "law.go:60", after := #[{ on := 24, ground := Ground.data }, { on := 25, ground := Ground.data }, { on := 17, ground := Ground.guard }], guard := some (17, true) }) (v := ?_) rfl (by kernel_rfl) (by kernel_rfl) (by kernel_rfl) (fun _ _ _ h => h) (Or.inl ⟨by rfl, ?_⟩) (by first | exact hHeld | assumption) ?_
    rotate_left 1
    · intro w hSw; (try dsimp only at hSw); go_simp; try (with_reducible rfl)
    try simp only [Act.put, List.setIfInBounds_toArray, List.set_cons_zero, List.set_cons_succ]
    refine wpAnyH_take (i := 27) (oi := { dst := some 48, op := Op.pick (Operand.tmp 38) (Operand.tmp 47) (Operand.const (Value.bool false)), type := 4, pos := "law.go:60", after := #[{ on := 17, ground := Ground.data }, { on := 26, ground := Ground.data }], guard := none }) (v := ?_) rfl (by kernel_rfl) (by kernel_rfl) (by kernel_rfl) (fun _ _ _ h => h) (Or.inl ⟨by rfl, ?_⟩) (by first | exact hHeld | assumption) ?_
    rotate_left 1
    · intro w hSw; (try dsimp only at hSw); go_simp; try (with_reducible rfl)
    try simp only [Act.put, List.setIfInBounds_toArray, List.set_cons_zero, List.set_cons_succ]
    refine wpAnyH_take (i := 28) (oi := { dst := some 6, op := Op.assign (Operand.tmp 48), type := 4, pos := "law.go:60", after := #[{ on := 27, ground := Ground.data }, { on := 24, ground := Ground.chain }, { on := 0, ground := Ground.phase }, { on := 1, ground := Ground.phase }, { on := 2, ground := Ground.phase }, { on := 3, ground := Ground.phase }, { on := 4, ground := Ground.phase }, { on := 5, ground := Ground.phase }, { on := 6, ground := Ground.phase }, { on := 7, ground := Ground.phase }, { on := 8, ground := Ground.phase }, { on := 9, ground := Ground.phase }, { on := 10, ground := Ground.phase }, { on := 11, ground := Ground.phase }, { on := 12, ground := Ground.phase }, { on := 13, ground := Ground.phase }, { on := 14, ground := Ground.phase }, { on := 15, ground := Ground.phase }, { on := 16, ground := Ground.phase }, { on := 17, ground := Ground.phase }, { on := 18, ground := Ground.phase }, { on := 19, ground := Ground.phase }, { on := 20, ground := Ground.phase }, { on := 21, ground := Ground.phase }, { on := 22, ground := Ground.phase }, { on := 23, ground := Ground.phase }, { on := 24, ground := Ground.phase }, { on := 25, ground := Ground.phase }, { on := 26, ground := Ground.phase }, { on := 27, ground := Ground.phase }], guard := none }) (v := ?_) rfl (by kernel_rfl) (by kernel_rfl) (by kernel_rfl) (fun _ _ _ h => h) (Or.inl ⟨by rfl, ?_⟩) (by first | exact hHeld | assumption) ?_
    rotate_left 1
    · intro w hSw; (try dsimp only at hSw); go_simp; try (with_reducible rfl)
    try simp only [Act.put, List.setIfInBounds_toArray, List.set_cons_zero, List.set_cons_succ]
    refine wpAnyH_done (by kernel_rfl) ?_ _
    go_wp2_with fail
    go_ret
    exact ⟨rfl, below_next' X3.out.1 QB.out⟩

end Go.Proofs.Ytgjcbcpedoihaaa

namespace Go.Proofs.Ytgjcbcpedoihaaa
open Go.ChangeShapes Go.WideShapes Go.ChangeAt Go.RowKit
set_option linter.unusedVariables false

set_option maxRecDepth 100000 in
theorem vorder_lifted (os : Os) (started : os.Started) (H : Type) (enc : TypeId × Value → H) :
    ReturnsInHanded {} Try.checked os 7 .any (Rows.valOrderSpec.pre6 enc Try.prog Try.f7 Rows.valOrderRow.domain false) (Rows.valOrderSpec.post enc Try.prog Try.f7 false true false false) := by
  refine law_lifted (C := Try.checked) own_none started (by kernel_rfl) Try.func7
    (ChangeSpec.witness6 (enc := enc) (C := Try.checked) false ⟨#[], #[.agg #[.int .u8 0, .int .u64 0, .int .u64 0, .int .u64 0, .int .u64 0, .int .i64 0, .int .i64 0], .agg #[.int .u8 0, .int .u64 0, .int .u64 0, .int .u64 0, .int .u64 0, .int .i64 0, .int .i64 0], .agg #[.int .u8 0, .int .u64 0, .int .u64 0, .int .u64 0, .int .u64 0, .int .i64 0, .int .i64 0]], []⟩ 8 (by kernel_rfl) (by kernel_rfl) (by kernel_rfl) (by kernel_rfl))
    laid_out rfl rfl Try.underlying4 (by kernel_rfl) (fun ds hd => by match ds, hd with | [d1, d2, d3], _ => rfl) ?_
  intro W base args ds p hval hA
  rw [Try.params7] at hval hA
  obtain ⟨v0, v1, v2, d0, d1, d2, p0, p1, p2, rfl, rfl, rfl, h0, h1, h2⟩ := trodAll_three hA
  obtain ⟨a, rfl, wa⟩ := open_val (hval 0 _ _ rfl rfl) h0
  obtain ⟨b, rfl, wb⟩ := open_val (hval 1 _ _ rfl rfl) h1
  obtain ⟨c, rfl, wc⟩ := open_val (hval 2 _ _ rfl rfl) h2
  exact vorder_walk a b c W wa wb wc

theorem vorder_holds : Rows.ValOrderSaid :=
  OpenClaim.holds_of_wide 7 Try.f7 rfl rfl rfl rfl rfl rfl rfl ⟨rfl, rfl, rfl, rfl, rfl⟩ rfl rfl rfl rfl rfl (by kernel_rfl) Try.func7 (by kernel_rfl)
    (of_decide_eq_true (by kernel_rfl)) (by unfold Func.isWrapper; first | (rw [if_pos (by decide +kernel)]; kernel_rfl) | (rw [if_neg (by decide +kernel)]; exact ⟨rfl, rfl⟩))
    (fun os started H enc _ => vorder_lifted os started H enc)

#print axioms vorder_holds
end Go.Proofs.Ytgjcbcpedoihaaa
