/-
  Texts, one behind the other: St9.
  Conditions: those that each theorem states.
-/
import Derived.Deep.RegionHeld
import Derived.Test.YtdgckjkdimnpoaaMl8

namespace Go.Proofs.Ytdgckjkdimnpoaa
open Go Go.RowKit
set_option maxRecDepth 100000
set_option linter.unusedVariables false
set_option linter.unusedSimpArgs false

theorem StTrio.others {x : St} {v : Vl} {w u : World} (h : StTrio x v w u) {k : Nat} (hk : w.heap.size + 3 ≤ k) (vs : List Value) (o : Nat) : StTrio x v w (u.setCells k o vs) := by
  induction vs generalizing o u with
  | nil => exact h
  | cons c r ih => exact ih ⟨Blk.other h.1 c (by omega), Blk.other h.2.1 c (by omega), Blk.other h.2.2.1 c (by omega), h.2.2.2.setCell (p := ⟨k, o, none⟩) (by dsimp only; omega) c⟩ (o + 1)
theorem StTrio.sets8 {x : St} {v : Vl} {w u : World} (h : StTrio x v w u) {k : Nat} (hk : w.heap.size + 3 ≤ k) (c0 c1 c2 c3 c4 c5 c6 c7 : Value) : StTrio x v w ((((((((u.setCell ⟨k, 0, none⟩ c0).setCell ⟨k, 1, none⟩ c1).setCell ⟨k, 2, none⟩ c2).setCell ⟨k, 3, none⟩ c3).setCell ⟨k, 4, none⟩ c4).setCell ⟨k, 5, none⟩ c5).setCell ⟨k, 6, none⟩ c6).setCell ⟨k, 7, none⟩ c7) :=
  h.others hk [c0, c1, c2, c3, c4, c5, c6, c7] 0
theorem StTrio.sets {x : St} {v : Vl} {y : Sl} {w u : World} (h : StTrio x v w u) {i : Nat} (hi : i < 64) : stB w.heap.size (x.slot i y) (u.setCells w.heap.size (77 + i * 8) (slL y)) ∧ stB (w.heap.size + 2) stZ (u.setCells w.heap.size (77 + i * 8) (slL y)) ∧ Below w.heap.size w (u.setCells w.heap.size (77 + i * 8) (slL y)) :=
  ⟨st_sets h.1 hi (by omega) y, h.2.2.1.sets_other (slL y) (by omega), below_sets (Nat.le_refl _) _ _ _ h.2.2.2⟩
theorem vB_range {g : Nat} {v : Vl} {u : World} (h : vB g v u) : u.rangeAt g 0 (vL v) := Blk.range h 0 _ fun j c hc => by
  rw [Nat.zero_add, vL_C, List.getElem?_toArray]; exact hc
theorem slB_range {g : Nat} {t : TypeId} {y : Sl} {u : World} (h : Blk g (slC y) t u) : u.rangeAt g 0 (slL y) := Blk.range h 0 _ fun j c hc => by
  rw [Nat.zero_add, show slC y = (slL y).toArray from rfl, List.getElem?_toArray]; exact hc
theorem slB_there {g : Nat} {t : TypeId} {y : Sl} {u : World} (h : Blk g (slC y) t u) : u.there g 0 7 := fun j hj => by
  refine ⟨?_, Blk.free h _⟩
  rw [slB_range h j _ (List.getElem?_eq_getElem (by rw [slL_len]; omega))]
  rfl
theorem slB_setv {g : Nat} {t : TypeId} {y : Sl} {u : World} (h : Blk g (slC y) t u) (v : Vl) : Blk g (slC ⟨v, y.p⟩) t (u.setCells g 0 (vL v)) := by
  have e : setA (slC y) 0 (vL v) = slC ⟨v, y.p⟩ := by
    apply Array.ext_getElem?
    intro k
    rw [setA_get _ _ _ _ (by rw [vL_len]; show 0 + 7 ≤ 8; omega), vL_len, show slC y = (slL y).toArray from rfl, show slC ⟨v, y.p⟩ = (slL ⟨v, y.p⟩).toArray from rfl, List.getElem?_toArray, List.getElem?_toArray, slL_app, slL_app]
    by_cases hk : k < 7
    · rw [if_pos (by omega), List.getElem?_append_left (by rw [vL_len]; exact hk)]
      rfl
    · rw [if_neg (by omega), List.getElem?_append_right (by rw [vL_len]; omega), List.getElem?_append_right (by rw [vL_len]; omega), vL_len, vL_len]
  rw [← e]
  exact Blk.sets (vL v) _ 0 _ h
def putV (size : Int) (v : Vl) : Vl := if size == 8 then v else vZ
theorem putV_no {size : Int} {v : Vl} (h : (size == 8) = false) : putV size v = vZ := by unfold putV; rw [h]; rfl
theorem putV_yes {size : Int} {v : Vl} (h : (size == 8) = true) : putV size v = v := by unfold putV; rw [h]; rfl
def putY (x : St) (off size : Int) (v : Vl) : St := if putE x off size v = 0 then putX x off size v else stZ
theorem rch_ok {off size : Int} (hs : isSz size = true) (h : rch off size = 0) : 0 ≤ off ∧ off ≤ 512 - size ∧ off % size = 0 := by
  unfold rch at h
  split at h
  · rename_i ht
    have := there_iff.mp ht
    split at h
    · exact ⟨this.1, this.2.2, by assumption⟩
    · cases h
  · cases h
theorem putE_no {x : St} {off size : Int} {v : Vl} (h : (stR x && (isSz size && mayP size v)) = false) : putE x off size v = 1 ∧ putY x off size v = stZ := by
  have e : putE x off size v = 1 := by unfold putE; rw [h]; rfl
  exact ⟨e, by unfold putY; rw [e, if_neg (by decide)]⟩
theorem putE_at {x : St} {off size : Int} {v : Vl} (h : (stR x && (isSz size && mayP size v)) = true) : putE x off size v = rch off size := by unfold putE; rw [h]; rfl
theorem putE_err {x : St} {off size : Int} {v : Vl} (h : (stR x && (isSz size && mayP size v)) = true) (hr : ¬ rch off size = 0) : putE x off size v = rch off size ∧ putY x off size v = stZ :=
  ⟨putE_at h, by unfold putY; rw [putE_at h, if_neg hr]⟩
theorem putE_ok {x : St} {off size : Int} {v : Vl} (h : (stR x && (isSz size && mayP size v)) = true) (hr : rch off size = 0) : putE x off size v = 0 ∧ putY x off size v = putX x off size v :=
  ⟨(putE_at h).trans hr, by unfold putY; rw [putE_at h, if_pos hr]⟩

set_option maxHeartbeats 8000000 in
theorem sp_Put (x : St) (off size : Int) (v : Vl) (w : World) (hx : stIn x) (hv : vIn v) (ho : -9223372036854775808 ≤ off ∧ off ≤ 9223372036854775807) : Calls Try.prog 17 #[stV x, .int .i64 off, .int .i64 size, vV v] w (Gives (.tuple #[stV (putY x off size v), .int .i64 (putE x off size v)]) w) := by
  have RA := Lib.hid fun w => sp_right x w hx
  have SZ := Lib.hid fun w => sp_isSize size w
  have MP := Lib.hid fun w => sp_mayPut size v w hv
  have X0 := Lib.hid (StTrio.new x v w)
  have hz1 : (w.alloc (.cells (stC x) 36)).heap.size = w.heap.size + 1 := by simp
  have hz2 : ((w.alloc (.cells (stC x) 36)).alloc (.cells (vCells v) 30)).heap.size = w.heap.size + 2 := by simp
  cases hra : stR x
  · obtain ⟨e1, e2⟩ := putE_no (x := x) (off := off) (size := size) (v := v) (by rw [hra]; rfl)
    rw [e1, e2]
    rw [hra] at RA
    clear e1 e2 hra SZ MP
    go_enter Try.func17, Try.ntmps17
    go_wp2_with (first | (refine st_load rfl _ rfl rfl X0.out.1 ?_) | fail)
    refine (RA.out _).mono ?_; rintro e w1 ⟨rfl, b1⟩
    have X1 := Lib.hid (X0.out.after b1)
    clear X0 b1
    have X9 := Lib.hid X1.out.zero
    go_wp2_with (first | (refine st_storeZ rfl _ _ rfl rfl rfl X1.out.2.2.1 ?_) | fail)
    generalize w1.setRow (w.heap.size + 2) (stC stZ) = w9 at *
    exact bodyPost_ret (v := .tuple #[stV stZ, .int .i64 1]) (by rw [results_cell_tmp rfl]; simp [asAddr, Act.put, Result.andThen, st_result X9.out.1]) rfl ⟨rfl, X9.out.2⟩
  cases hsz : isSz size
  · obtain ⟨e1, e2⟩ := putE_no (x := x) (off := off) (size := size) (v := v) (by rw [hsz, Bool.false_and, Bool.and_false])
    rw [e1, e2]
    rw [hra] at RA
    rw [hsz] at SZ
    clear e1 e2 hra hsz MP
    go_enter Try.func17, Try.ntmps17
    go_wp2_with (first | (refine st_load rfl _ rfl rfl X0.out.1 ?_) | fail)
    refine (RA.out _).mono ?_; rintro e w1 ⟨rfl, b1⟩
    have X1 := Lib.hid (X0.out.after b1)
    clear X0 b1
    go_wp2_with fail
    refine (SZ.out _).mono ?_; rintro e w2 ⟨rfl, b2⟩
    have X2 := Lib.hid (X1.out.after b2)
    clear X1 b2
    have X9 := Lib.hid X2.out.zero
    go_wp2_with (first | (refine st_storeZ rfl _ _ rfl rfl rfl X2.out.2.2.1 ?_) | fail)
    generalize w2.setRow (w.heap.size + 2) (stC stZ) = w9 at *
    exact bodyPost_ret (v := .tuple #[stV stZ, .int .i64 1]) (by rw [results_cell_tmp rfl]; simp [asAddr, Act.put, Result.andThen, st_result X9.out.1]) rfl ⟨rfl, X9.out.2⟩
  cases hmp : mayP size v
  · obtain ⟨e1, e2⟩ := putE_no (x := x) (off := off) (size := size) (v := v) (by rw [hmp, Bool.and_false, Bool.and_false])
    rw [e1, e2]
    rw [hra] at RA
    rw [hsz] at SZ
    rw [hmp] at MP
    clear e1 e2 hra hsz hmp
    go_enter Try.func17, Try.ntmps17
    go_wp2_with (first | (refine st_load rfl _ rfl rfl X0.out.1 ?_) | fail)
    refine (RA.out _).mono ?_; rintro e w1 ⟨rfl, b1⟩
    have X1 := Lib.hid (X0.out.after b1)
    clear X0 b1
    go_wp2_with fail
    refine (SZ.out _).mono ?_; rintro e w2 ⟨rfl, b2⟩
    have X2 := Lib.hid (X1.out.after b2)
    clear X1 b2
    obtain ⟨c0, c1, c2, c3, c4, c5, c6⟩ := vB.cells X2.out.2.1
    go_wp2_with fail
    refine (MP.out _).mono ?_; rintro e w3 ⟨rfl, b3⟩
    have X3 := Lib.hid (X2.out.after b3)
    clear X2 b3 c0 c1 c2 c3 c4 c5 c6
    have X9 := Lib.hid X3.out.zero
    go_wp2_with (first | (refine st_storeZ rfl _ _ rfl rfl rfl X3.out.2.2.1 ?_) | fail)
    generalize w3.setRow (w.heap.size + 2) (stC stZ) = w9 at *
    exact bodyPost_ret (v := .tuple #[stV stZ, .int .i64 1]) (by rw [results_cell_tmp rfl]; simp [asAddr, Act.put, Result.andThen, st_result X9.out.1]) rfl ⟨rfl, X9.out.2⟩
  have RC := Lib.hid fun w => sp_reach off size hsz ho w
  by_cases hr : rch off size = 0
  · obtain ⟨e1, e2⟩ := putE_ok (x := x) (off := off) (size := size) (v := v) (by rw [hra, hsz, hmp]; rfl) hr
    rw [e1, e2]
    obtain ⟨k1, k2, k3⟩ := rch_ok hsz hr
    have PB := Lib.hid fun w => sp_putBits off size hsz ⟨k1, by rcases isSz_iff.mp hsz with rfl | rfl | rfl | rfl <;> omega⟩ w
    obtain ⟨q, hq, hq3, hq2⟩ : ∃ q : Nat, off.tdiv 8 = (q : Int) ∧ (off / 8).toNat = q ∧ q < 64 := ⟨(off / 8).toNat, by rw [Int.tdiv_eq_ediv_of_nonneg k1]; omega, rfl, by rcases isSz_iff.mp hsz with rfl | rfl | rfl | rfl <;> omega⟩
    have hqI : (q : Int) < 64 := by omega
    replace hq2 := Lib.hid hq2
    have key : Hid (putX x off size v = x.slot q ⟨putV size v, (x.s q).p ||| pBits off size⟩) := Lib.hid (by unfold putX putS putV; rw [hq3])
    rw [key.out]
    have OR := b8_or (x.s q).p (pBits off size)
    rw [hra] at RA
    rw [hsz] at SZ
    rw [hmp] at MP
    rw [hr] at RC
    clear e1 e2 hra hsz hmp hr k1 k2 k3 key hq3 ho
    generalize pBits off size = pb at *
    generalize (x.s q).p ||| pb = P at *
    obtain ⟨y, hY⟩ : ∃ y : Sl, y = ⟨putV size v, P⟩ := ⟨_, rfl⟩
    rw [← hY]
    cases h8 : (size == 8)
    · rw [putV_no h8] at hY
      have HY := Lib.hid hY
      clear hY
      go_enter Try.func17, Try.ntmps17
      go_wp2_with (first | (refine st_load rfl _ rfl rfl X0.out.1 ?_) | fail)
      refine (RA.out _).mono ?_; rintro e w1 ⟨rfl, b1⟩
      have X1 := Lib.hid (X0.out.after b1)
      clear X0 b1
      go_wp2_with fail
      refine (SZ.out _).mono ?_; rintro e w2 ⟨rfl, b2⟩
      have X2 := Lib.hid (X1.out.after b2)
      clear X1 b2
      obtain ⟨c0, c1, c2, c3, c4, c5, c6⟩ := vB.cells X2.out.2.1
      go_wp2_with fail
      refine (MP.out _).mono ?_; rintro e w3 ⟨rfl, b3⟩
      have X3 := Lib.hid (X2.out.after b3)
      clear X2 b3 c0 c1 c2 c3 c4 c5 c6
      go_wp2_with fail
      refine (RC.out _).mono ?_; rintro e w4 ⟨rfl, b4⟩
      have X4 := Lib.hid (X3.out.after b4)
      clear X3 b4
      go_upto_region 7 with fail
      have XD := Lib.hid (X4.out.after (Below.drew (Below.refl _ _)))
      clear X4
      refine wp_region_held_drew (S := fun u => u.cell? ⟨w.heap.size, 77 + q * 8 + 7, none⟩ = some (bV (x.s q).p)) (by kernel_rfl) ((slot_cells XD.out.1 hq2.out).2.2.2.2.2.2.2) (fun hHeld => ?_)
      generalize w4.drew = wd at *
      have hgd : Hid (w.heap.size + 3 ≤ wd.heap.size) := Lib.hid (by have := XD.out.2.2.1.lt; omega)
      refine wpAnyH_take (i := 0) (oi := { dst := some 37, op := Op.move (Operand.tmp 11), type := 3, pos := "state.go:63", after := #[], guard := none }) (v := ?_) rfl (by kernel_rfl) (by kernel_rfl) (by kernel_rfl) (fun _ _ _ h => h) (Or.inl ⟨by rfl, ?_⟩) (by first | exact hHeld | assumption) ?_
      rotate_left 1
      · intro w hSw; (try dsimp only at hSw); go_simp; try (with_reducible rfl)
      try simp only [Act.put, List.setIfInBounds_toArray, List.set_cons_zero, List.set_cons_succ]
      refine wpAnyH_take (i := 1) (oi := { dst := some 38, op := Op.fieldAddr 36 (Operand.tmp 4) 1, type := 0, pos := "state.go:63", after := #[], guard := none }) (v := ?_) rfl (by kernel_rfl) (by kernel_rfl) (by kernel_rfl) (fun _ _ _ h => h) (Or.inl ⟨by rfl, ?_⟩) (by first | exact hHeld | assumption) ?_
      rotate_left 1
      · intro w hSw; (try dsimp only at hSw); go_simp; try (with_reducible rfl)
      try simp only [Act.put, List.setIfInBounds_toArray, List.set_cons_zero, List.set_cons_succ]
      refine wpAnyH_take (i := 2) (oi := { dst := some 39, op := Op.indexAddr 34 (Operand.tmp 38) (Operand.tmp 37), type := 0, pos := "state.go:63", after := #[{ on := 1, ground := Ground.data }, { on := 0, ground := Ground.data }], guard := none }) (v := ?_) rfl (by kernel_rfl) (by kernel_rfl) (by kernel_rfl) (fun _ _ _ h => h) (Or.inl ⟨by rfl, ?_⟩) (by first | exact hHeld | assumption) ?_
      rotate_left 1
      · intro w hSw; (try dsimp only at hSw); go_simp; try (with_reducible rfl)
      try simp only [Act.put, List.setIfInBounds_toArray, List.set_cons_zero, List.set_cons_succ]
      refine wpAnyH_take (i := 3) (oi := { dst := some 40, op := Op.fieldAddr 33 (Operand.tmp 39) 1, type := 0, pos := "state.go:63", after := #[{ on := 2, ground := Ground.data }], guard := none }) (v := ?_) rfl (by kernel_rfl) (by kernel_rfl) (by kernel_rfl) (fun _ _ _ h => h) (Or.inl ⟨by rfl, ?_⟩) (by first | exact hHeld | assumption) ?_
      rotate_left 1
      · intro w hSw; (try dsimp only at hSw); go_simp; try (with_reducible rfl)
      try simp only [Act.put, List.setIfInBounds_toArray, List.set_cons_zero, List.set_cons_succ]
      refine wpAnyH_take (i := 4) (oi := { dst := some 41, op := Op.load 5 (Operand.tmp 40), type := 5, pos := "state.go:63", after := #[{ on := 3, ground := Ground.data }], guard := none }) (v := ?_) rfl (by kernel_rfl) (by kernel_rfl) (by kernel_rfl) (fun _ _ _ h => h) (Or.inl ⟨by rfl, ?_⟩) (by first | exact hHeld | assumption) ?_
      rotate_left 1
      · intro w hSw; (try dsimp only at hSw); go_simp; try (with_reducible rfl)
      try simp only [Act.put, List.setIfInBounds_toArray, List.set_cons_zero, List.set_cons_succ]
      refine wpAnyH_take (i := 5) (oi := { dst := some 42, op := Op.move (Operand.tmp 1), type := 3, pos := "state.go:63", after := #[], guard := none }) (v := ?_) rfl (by kernel_rfl) (by kernel_rfl) (by kernel_rfl) (fun _ _ _ h => h) (Or.inl ⟨by rfl, ?_⟩) (by first | exact hHeld | assumption) ?_
      rotate_left 1
      · intro w hSw; (try dsimp only at hSw); go_simp; try (with_reducible rfl)
      try simp only [Act.put, List.setIfInBounds_toArray, List.set_cons_zero, List.set_cons_succ]
      refine wpAnyH_take (i := 6) (oi := { dst := some 43, op := Op.move (Operand.tmp 2), type := 3, pos := "state.go:63", after := #[], guard := none }) (v := ?_) rfl (by kernel_rfl) (by kernel_rfl) (by kernel_rfl) (fun _ _ _ h => h) (Or.inl ⟨by rfl, ?_⟩) (by first | exact hHeld | assumption) ?_
      rotate_left 1
      · intro w hSw; (try dsimp only at hSw); go_simp; try (with_reducible rfl)
      try simp only [Act.put, List.setIfInBounds_toArray, List.set_cons_zero, List.set_cons_succ]
      refine wpAnyH_ready (rs := [7, 10]) (by kernel_rfl) (by simp) ?_
      refine AllReadyH.cons (o := { dst := some 44, op := Op.call { callee := Callee.value (Operand.func 37), args := #[Operand.tmp 42, Operand.tmp 43], argTypes := #[3, 3] }, type := 5, pos := "state.go:63", after := #[{ on := 5, ground := Ground.data }, { on := 6, ground := Ground.data }], guard := none }) rfl (fun K hK => ?_) (AllReadyH.cons (o := { dst := some 12, op := Op.alloc 33, type := 0, pos := "state.go:63", after := #[], guard := none }) rfl (fun K hK => ?_) AllReadyH.nil)
      · skip
        go_simp
        refine (PB.out _).mono ?_; rintro e u1 ⟨rfl, b⟩
        replace XD := Lib.hid (XD.out.after b)
        have XC := Lib.hid XD.out
        clear b PB
        go_wp2_with fail
        refine hK.out _ _ (slot_cells XD.out.1 hq2.out).2.2.2.2.2.2.2 (fun hHeld => ?_)
        clear hK K
        try simp only [Act.put, List.setIfInBounds_toArray, List.set_cons_zero, List.set_cons_succ]
        refine wpAnyH_take (i := 8) (oi := { dst := some 45, op := Op.binOp BinOp.or 5 (Operand.tmp 41) (Operand.tmp 44) 5, type := 5, pos := "state.go:63", after := #[{ on := 4, ground := Ground.data }, { on := 7, ground := Ground.data }], guard := none }) (v := ?_) rfl (by kernel_rfl) (by kernel_rfl) (by kernel_rfl) (fun _ _ _ h => h) (Or.inl ⟨by rfl, ?_⟩) (by first | exact hHeld | assumption) ?_
        rotate_left 1
        · intro w hSw; (try dsimp only at hSw); go_simp; try (with_reducible rfl)
        try simp only [Act.put, List.setIfInBounds_toArray, List.set_cons_zero, List.set_cons_succ]
        refine wpAnyH_take (i := 9) (oi := { dst := some 46, op := Op.build 33 #[(1, Operand.tmp 45)], type := 33, pos := "state.go:63", after := #[{ on := 8, ground := Ground.data }], guard := none }) (v := ?_) rfl (by kernel_rfl) (by kernel_rfl) (by kernel_rfl) (fun _ _ _ h => h) (Or.inl ⟨by rfl, ?_⟩) (by first | exact hHeld | assumption) ?_
        rotate_left 1
        · intro w hSw; (try dsimp only at hSw); go_simp; try (with_reducible rfl)
        try simp only [Act.put, List.setIfInBounds_toArray, List.set_cons_zero, List.set_cons_succ]
        refine wpAnyH_ready (rs := [10]) (by kernel_rfl) (by simp) ?_
        refine AllReadyH.cons (o := { dst := some 12, op := Op.alloc 33, type := 0, pos := "state.go:63", after := #[], guard := none }) rfl (fun K hK => ?_) AllReadyH.nil
        · skip
          go_simp
          replace XD := Lib.hid (XD.out.after (below_alloc (Below.refl _ _) (.cells #[.int .u8 0, .int .u64 0, .int .u64 0, .int .u64 0, .int .u64 0, .int .i64 0, .int .i64 0, .int .u8 0] 33)))
          refine hK.out _ _ (slot_cells XD.out.1 hq2.out).2.2.2.2.2.2.2 (fun hHeld => ?_)
          clear hK K
          try simp only [Act.put, List.setIfInBounds_toArray, List.set_cons_zero, List.set_cons_succ]
          refine wpAnyH_ready (rs := [11]) (by kernel_rfl) (by simp) ?_
          refine AllReadyH.cons (o := { dst := none, op := Op.store 33 (Operand.tmp 12) (Operand.tmp 46), type := 0, pos := "state.go:63", after := #[{ on := 10, ground := Ground.data }, { on := 9, ground := Ground.data }, { on := 7, ground := Ground.chain }, { on := 0, ground := Ground.phase }, { on := 1, ground := Ground.phase }, { on := 2, ground := Ground.phase }, { on := 3, ground := Ground.phase }, { on := 4, ground := Ground.phase }, { on := 5, ground := Ground.phase }, { on := 6, ground := Ground.phase }, { on := 7, ground := Ground.phase }, { on := 8, ground := Ground.phase }, { on := 9, ground := Ground.phase }, { on := 10, ground := Ground.phase }], guard := none }) rfl (fun K hK => ?_) AllReadyH.nil
          · skip
            go_simp
            have XE : Hid (StTrio x v w (u1.alloc (.cells #[.int .u8 0, .int .u64 0, .int .u64 0, .int .u64 0, .int .u64 0, .int .i64 0, .int .i64 0, bV P] 33))) := Lib.hid (XC.out.after (below_alloc (Below.refl _ _) _))
            have SB : Hid (Blk u1.heap.size (slC ⟨vZ, P⟩) 33 (u1.alloc (.cells #[.int .u8 0, .int .u64 0, .int .u64 0, .int .u64 0, .int .u64 0, .int .i64 0, .int .i64 0, bV P] 33))) := Lib.hid (Blk.new u1 _ _ rfl)
            replace hgd : Hid (w.heap.size + 3 ≤ u1.heap.size) := Lib.hid (by have := XC.out.2.2.1.lt; omega)
            refine hK.out _ _ (slot_cells XE.out.1 hq2.out).2.2.2.2.2.2.2 (fun hHeld => ?_)
            clear hK K
            try simp only [Act.put, List.setIfInBounds_toArray, List.set_cons_zero, List.set_cons_succ]
            refine wpAnyH_done (by kernel_rfl) ?_ _
            clear XC
            generalize u1.alloc (.cells #[.int .u8 0, .int .u64 0, .int .u64 0, .int .u64 0, .int .u64 0, .int .i64 0, .int .i64 0, bV P] 33) = u2 at *
            generalize u1.heap.size = gs at *
            clear XD hHeld
            have hy : Hid (slC ⟨vZ, P⟩ = slC y) := Lib.hid (by rw [HY.out])
            rw [hy.out] at SB
            go_upto_region 11 with (first | (refine st_loadS rfl _ rfl rfl (slB_range SB.out) ?_) | (refine st_storeS rfl _ _ rfl (g := w.heap.size) (o := 77 + q * 8) (v := y) rfl rfl (st_there XE.out.1 (by have := hq2.out; omega)) ?_))
            have XF := Lib.hid (XE.out.sets (y := y) hq2.out)
            clear XE SB
            generalize u2.setCells w.heap.size (77 + q * 8) (slL y) = u3 at *
            have X9 := Lib.hid (And.intro (st_row XF.out.2.1 (x.slot q y)) (below_row XF.out.2.2 (g := w.heap.size + 2) (by omega) (stC (x.slot q y))))
            go_wp2_with (first | (refine st_load rfl _ rfl rfl XF.out.1 ?_) | (refine st_store rfl _ _ rfl rfl rfl XF.out.2.1 ?_) | fail)
            generalize u3.setRow (w.heap.size + 2) (stC (x.slot q y)) = w9 at *
            exact bodyPost_ret (v := .tuple #[stV (x.slot q y), .int .i64 0]) (by rw [results_cell_tmp rfl]; simp [asAddr, Act.put, Result.andThen, st_result X9.out.1]) rfl ⟨rfl, X9.out.2⟩
      · skip
        go_simp
        replace XD := Lib.hid (XD.out.after (below_alloc (Below.refl _ _) (.cells #[.int .u8 0, .int .u64 0, .int .u64 0, .int .u64 0, .int .u64 0, .int .i64 0, .int .i64 0, .int .u8 0] 33)))
        refine hK.out _ _ (slot_cells XD.out.1 hq2.out).2.2.2.2.2.2.2 (fun hHeld => ?_)
        clear hK K
        try simp only [Act.put, List.setIfInBounds_toArray, List.set_cons_zero, List.set_cons_succ]
        refine wpAnyH_ready (rs := [7]) (by kernel_rfl) (by simp) ?_
        refine AllReadyH.cons (o := { dst := some 44, op := Op.call { callee := Callee.value (Operand.func 37), args := #[Operand.tmp 42, Operand.tmp 43], argTypes := #[3, 3] }, type := 5, pos := "state.go:63", after := #[{ on := 5, ground := Ground.data }, { on := 6, ground := Ground.data }], guard := none }) rfl (fun K hK => ?_) AllReadyH.nil
        · skip
          go_simp
          refine (PB.out _).mono ?_; rintro e u1 ⟨rfl, b⟩
          have TA : Blk wd.heap.size #[.int .u8 0, .int .u64 0, .int .u64 0, .int .u64 0, .int .u64 0, .int .i64 0, .int .i64 0, .int .u8 0] 33 u1 := Blk.after (Blk.new wd _ _ rfl) b
          replace XD := Lib.hid (XD.out.after b)
          clear b PB
          go_wp2_with fail
          refine hK.out _ _ (slot_cells XD.out.1 hq2.out).2.2.2.2.2.2.2 (fun hHeld => ?_)
          clear hK K
          try simp only [Act.put, List.setIfInBounds_toArray, List.set_cons_zero, List.set_cons_succ]
          refine wpAnyH_take (i := 8) (oi := { dst := some 45, op := Op.binOp BinOp.or 5 (Operand.tmp 41) (Operand.tmp 44) 5, type := 5, pos := "state.go:63", after := #[{ on := 4, ground := Ground.data }, { on := 7, ground := Ground.data }], guard := none }) (v := ?_) rfl (by kernel_rfl) (by kernel_rfl) (by kernel_rfl) (fun _ _ _ h => h) (Or.inl ⟨by rfl, ?_⟩) (by first | exact hHeld | assumption) ?_
          rotate_left 1
          · intro w hSw; (try dsimp only at hSw); go_simp; try (with_reducible rfl)
          try simp only [Act.put, List.setIfInBounds_toArray, List.set_cons_zero, List.set_cons_succ]
          refine wpAnyH_take (i := 9) (oi := { dst := some 46, op := Op.build 33 #[(1, Operand.tmp 45)], type := 33, pos := "state.go:63", after := #[{ on := 8, ground := Ground.data }], guard := none }) (v := ?_) rfl (by kernel_rfl) (by kernel_rfl) (by kernel_rfl) (fun _ _ _ h => h) (Or.inl ⟨by rfl, ?_⟩) (by first | exact hHeld | assumption) ?_
          rotate_left 1
          · intro w hSw; (try dsimp only at hSw); go_simp; try (with_reducible rfl)
          try simp only [Act.put, List.setIfInBounds_toArray, List.set_cons_zero, List.set_cons_succ]
          refine wpAnyH_ready (rs := [11]) (by kernel_rfl) (by simp) ?_
          refine AllReadyH.cons (o := { dst := none, op := Op.store 33 (Operand.tmp 12) (Operand.tmp 46), type := 0, pos := "state.go:63", after := #[{ on := 10, ground := Ground.data }, { on := 9, ground := Ground.data }, { on := 7, ground := Ground.chain }, { on := 0, ground := Ground.phase }, { on := 1, ground := Ground.phase }, { on := 2, ground := Ground.phase }, { on := 3, ground := Ground.phase }, { on := 4, ground := Ground.phase }, { on := 5, ground := Ground.phase }, { on := 6, ground := Ground.phase }, { on := 7, ground := Ground.phase }, { on := 8, ground := Ground.phase }, { on := 9, ground := Ground.phase }, { on := 10, ground := Ground.phase }], guard := none }) rfl (fun K hK => ?_) AllReadyH.nil
          · skip
            have TB := Lib.hid TA
            have t0 := TA.cell 0
            have t1 := TA.cell 1
            have t2 := TA.cell 2
            have t3 := TA.cell 3
            have t4 := TA.cell 4
            have t5 := TA.cell 5
            have t6 := TA.cell 6
            have t7 := TA.cell 7
            have f0 := TA.free 0
            have f1 := TA.free 1
            have f2 := TA.free 2
            have f3 := TA.free 3
            have f4 := TA.free 4
            have f5 := TA.free 5
            have f6 := TA.free 6
            have f7 := TA.free 7
            clear TA
            go_simp
            have XE : Hid (StTrio x v w ((((((((u1.setCell ⟨wd.heap.size, 0, none⟩ (.int .u8 0)).setCell ⟨wd.heap.size, 1, none⟩ (.int .u64 0)).setCell ⟨wd.heap.size, 2, none⟩ (.int .u64 0)).setCell ⟨wd.heap.size, 3, none⟩ (.int .u64 0)).setCell ⟨wd.heap.size, 4, none⟩ (.int .u64 0)).setCell ⟨wd.heap.size, 5, none⟩ (.int .i64 0)).setCell ⟨wd.heap.size, 6, none⟩ (.int .i64 0)).setCell ⟨wd.heap.size, 7, none⟩ (bV P))) := Lib.hid (XD.out.sets8 hgd.out _ _ _ _ _ _ _ _)
            have SB : Hid (Blk wd.heap.size (slC ⟨vZ, P⟩) 33 ((((((((u1.setCell ⟨wd.heap.size, 0, none⟩ (.int .u8 0)).setCell ⟨wd.heap.size, 1, none⟩ (.int .u64 0)).setCell ⟨wd.heap.size, 2, none⟩ (.int .u64 0)).setCell ⟨wd.heap.size, 3, none⟩ (.int .u64 0)).setCell ⟨wd.heap.size, 4, none⟩ (.int .u64 0)).setCell ⟨wd.heap.size, 5, none⟩ (.int .i64 0)).setCell ⟨wd.heap.size, 6, none⟩ (.int .i64 0)).setCell ⟨wd.heap.size, 7, none⟩ (bV P))) := Lib.hid ((((((((TB.out.set 0 (.int .u8 0)).set 1 (.int .u64 0)).set 2 (.int .u64 0)).set 3 (.int .u64 0)).set 4 (.int .u64 0)).set 5 (.int .i64 0)).set 6 (.int .i64 0)).set 7 (bV P))
            clear TB t0 t1 t2 t3 t4 t5 t6 t7 f0 f1 f2 f3 f4 f5 f6 f7
            refine hK.out _ _ (slot_cells XE.out.1 hq2.out).2.2.2.2.2.2.2 (fun hHeld => ?_)
            clear hK K
            try simp only [Act.put, List.setIfInBounds_toArray, List.set_cons_zero, List.set_cons_succ]
            refine wpAnyH_done (by kernel_rfl) ?_ _
            generalize (((((((u1.setCell ⟨wd.heap.size, 0, none⟩ (.int .u8 0)).setCell ⟨wd.heap.size, 1, none⟩ (.int .u64 0)).setCell ⟨wd.heap.size, 2, none⟩ (.int .u64 0)).setCell ⟨wd.heap.size, 3, none⟩ (.int .u64 0)).setCell ⟨wd.heap.size, 4, none⟩ (.int .u64 0)).setCell ⟨wd.heap.size, 5, none⟩ (.int .i64 0)).setCell ⟨wd.heap.size, 6, none⟩ (.int .i64 0)).setCell ⟨wd.heap.size, 7, none⟩ (bV P) = u2 at *
            generalize wd.heap.size = gs at *
            clear XD hHeld
            have hy : Hid (slC ⟨vZ, P⟩ = slC y) := Lib.hid (by rw [HY.out])
            rw [hy.out] at SB
            go_upto_region 11 with (first | (refine st_loadS rfl _ rfl rfl (slB_range SB.out) ?_) | (refine st_storeS rfl _ _ rfl (g := w.heap.size) (o := 77 + q * 8) (v := y) rfl rfl (st_there XE.out.1 (by have := hq2.out; omega)) ?_))
            have XF := Lib.hid (XE.out.sets (y := y) hq2.out)
            clear XE SB
            generalize u2.setCells w.heap.size (77 + q * 8) (slL y) = u3 at *
            have X9 := Lib.hid (And.intro (st_row XF.out.2.1 (x.slot q y)) (below_row XF.out.2.2 (g := w.heap.size + 2) (by omega) (stC (x.slot q y))))
            go_wp2_with (first | (refine st_load rfl _ rfl rfl XF.out.1 ?_) | (refine st_store rfl _ _ rfl rfl rfl XF.out.2.1 ?_) | fail)
            generalize u3.setRow (w.heap.size + 2) (stC (x.slot q y)) = w9 at *
            exact bodyPost_ret (v := .tuple #[stV (x.slot q y), .int .i64 0]) (by rw [results_cell_tmp rfl]; simp [asAddr, Act.put, Result.andThen, st_result X9.out.1]) rfl ⟨rfl, X9.out.2⟩
    · rw [putV_yes h8] at hY
      have HY := Lib.hid hY
      clear hY
      go_enter Try.func17, Try.ntmps17
      go_wp2_with (first | (refine st_load rfl _ rfl rfl X0.out.1 ?_) | fail)
      refine (RA.out _).mono ?_; rintro e w1 ⟨rfl, b1⟩
      have X1 := Lib.hid (X0.out.after b1)
      clear X0 b1
      go_wp2_with fail
      refine (SZ.out _).mono ?_; rintro e w2 ⟨rfl, b2⟩
      have X2 := Lib.hid (X1.out.after b2)
      clear X1 b2
      obtain ⟨c0, c1, c2, c3, c4, c5, c6⟩ := vB.cells X2.out.2.1
      go_wp2_with fail
      refine (MP.out _).mono ?_; rintro e w3 ⟨rfl, b3⟩
      have X3 := Lib.hid (X2.out.after b3)
      clear X2 b3 c0 c1 c2 c3 c4 c5 c6
      go_wp2_with fail
      refine (RC.out _).mono ?_; rintro e w4 ⟨rfl, b4⟩
      have X4 := Lib.hid (X3.out.after b4)
      clear X3 b4
      go_upto_region 7 with fail
      have XD := Lib.hid (X4.out.after (Below.drew (Below.refl _ _)))
      clear X4
      refine wp_region_held_drew (S := fun u => u.cell? ⟨w.heap.size, 77 + q * 8 + 7, none⟩ = some (bV (x.s q).p)) (by kernel_rfl) ((slot_cells XD.out.1 hq2.out).2.2.2.2.2.2.2) (fun hHeld => ?_)
      generalize w4.drew = wd at *
      have hgd : Hid (w.heap.size + 3 ≤ wd.heap.size) := Lib.hid (by have := XD.out.2.2.1.lt; omega)
      refine wpAnyH_take (i := 0) (oi := { dst := some 37, op := Op.move (Operand.tmp 11), type := 3, pos := "state.go:63", after := #[], guard := none }) (v := ?_) rfl (by kernel_rfl) (by kernel_rfl) (by kernel_rfl) (fun _ _ _ h => h) (Or.inl ⟨by rfl, ?_⟩) (by first | exact hHeld | assumption) ?_
      rotate_left 1
      · intro w hSw; (try dsimp only at hSw); go_simp; try (with_reducible rfl)
      try simp only [Act.put, List.setIfInBounds_toArray, List.set_cons_zero, List.set_cons_succ]
      refine wpAnyH_take (i := 1) (oi := { dst := some 38, op := Op.fieldAddr 36 (Operand.tmp 4) 1, type := 0, pos := "state.go:63", after := #[], guard := none }) (v := ?_) rfl (by kernel_rfl) (by kernel_rfl) (by kernel_rfl) (fun _ _ _ h => h) (Or.inl ⟨by rfl, ?_⟩) (by first | exact hHeld | assumption) ?_
      rotate_left 1
      · intro w hSw; (try dsimp only at hSw); go_simp; try (with_reducible rfl)
      try simp only [Act.put, List.setIfInBounds_toArray, List.set_cons_zero, List.set_cons_succ]
      refine wpAnyH_take (i := 2) (oi := { dst := some 39, op := Op.indexAddr 34 (Operand.tmp 38) (Operand.tmp 37), type := 0, pos := "state.go:63", after := #[{ on := 1, ground := Ground.data }, { on := 0, ground := Ground.data }], guard := none }) (v := ?_) rfl (by kernel_rfl) (by kernel_rfl) (by kernel_rfl) (fun _ _ _ h => h) (Or.inl ⟨by rfl, ?_⟩) (by first | exact hHeld | assumption) ?_
      rotate_left 1
      · intro w hSw; (try dsimp only at hSw); go_simp; try (with_reducible rfl)
      try simp only [Act.put, List.setIfInBounds_toArray, List.set_cons_zero, List.set_cons_succ]
      refine wpAnyH_take (i := 3) (oi := { dst := some 40, op := Op.fieldAddr 33 (Operand.tmp 39) 1, type := 0, pos := "state.go:63", after := #[{ on := 2, ground := Ground.data }], guard := none }) (v := ?_) rfl (by kernel_rfl) (by kernel_rfl) (by kernel_rfl) (fun _ _ _ h => h) (Or.inl ⟨by rfl, ?_⟩) (by first | exact hHeld | assumption) ?_
      rotate_left 1
      · intro w hSw; (try dsimp only at hSw); go_simp; try (with_reducible rfl)
      try simp only [Act.put, List.setIfInBounds_toArray, List.set_cons_zero, List.set_cons_succ]
      refine wpAnyH_take (i := 4) (oi := { dst := some 41, op := Op.load 5 (Operand.tmp 40), type := 5, pos := "state.go:63", after := #[{ on := 3, ground := Ground.data }], guard := none }) (v := ?_) rfl (by kernel_rfl) (by kernel_rfl) (by kernel_rfl) (fun _ _ _ h => h) (Or.inl ⟨by rfl, ?_⟩) (by first | exact hHeld | assumption) ?_
      rotate_left 1
      · intro w hSw; (try dsimp only at hSw); go_simp; try (with_reducible rfl)
      try simp only [Act.put, List.setIfInBounds_toArray, List.set_cons_zero, List.set_cons_succ]
      refine wpAnyH_take (i := 5) (oi := { dst := some 42, op := Op.move (Operand.tmp 1), type := 3, pos := "state.go:63", after := #[], guard := none }) (v := ?_) rfl (by kernel_rfl) (by kernel_rfl) (by kernel_rfl) (fun _ _ _ h => h) (Or.inl ⟨by rfl, ?_⟩) (by first | exact hHeld | assumption) ?_
      rotate_left 1
      · intro w hSw; (try dsimp only at hSw); go_simp; try (with_reducible rfl)
      try simp only [Act.put, List.setIfInBounds_toArray, List.set_cons_zero, List.set_cons_succ]
      refine wpAnyH_take (i := 6) (oi := { dst := some 43, op := Op.move (Operand.tmp 2), type := 3, pos := "state.go:63", after := #[], guard := none }) (v := ?_) rfl (by kernel_rfl) (by kernel_rfl) (by kernel_rfl) (fun _ _ _ h => h) (Or.inl ⟨by rfl, ?_⟩) (by first | exact hHeld | assumption) ?_
      rotate_left 1
      · intro w hSw; (try dsimp only at hSw); go_simp; try (with_reducible rfl)
      try simp only [Act.put, List.setIfInBounds_toArray, List.set_cons_zero, List.set_cons_succ]
      refine wpAnyH_ready (rs := [7, 10]) (by kernel_rfl) (by simp) ?_
      refine AllReadyH.cons (o := { dst := some 44, op := Op.call { callee := Callee.value (Operand.func 37), args := #[Operand.tmp 42, Operand.tmp 43], argTypes := #[3, 3] }, type := 5, pos := "state.go:63", after := #[{ on := 5, ground := Ground.data }, { on := 6, ground := Ground.data }], guard := none }) rfl (fun K hK => ?_) (AllReadyH.cons (o := { dst := some 12, op := Op.alloc 33, type := 0, pos := "state.go:63", after := #[], guard := none }) rfl (fun K hK => ?_) AllReadyH.nil)
      · skip
        go_simp
        refine (PB.out _).mono ?_; rintro e u1 ⟨rfl, b⟩
        replace XD := Lib.hid (XD.out.after b)
        have XC := Lib.hid XD.out
        clear b PB
        go_wp2_with fail
        refine hK.out _ _ (slot_cells XD.out.1 hq2.out).2.2.2.2.2.2.2 (fun hHeld => ?_)
        clear hK K
        try simp only [Act.put, List.setIfInBounds_toArray, List.set_cons_zero, List.set_cons_succ]
        refine wpAnyH_take (i := 8) (oi := { dst := some 45, op := Op.binOp BinOp.or 5 (Operand.tmp 41) (Operand.tmp 44) 5, type := 5, pos := "state.go:63", after := #[{ on := 4, ground := Ground.data }, { on := 7, ground := Ground.data }], guard := none }) (v := ?_) rfl (by kernel_rfl) (by kernel_rfl) (by kernel_rfl) (fun _ _ _ h => h) (Or.inl ⟨by rfl, ?_⟩) (by first | exact hHeld | assumption) ?_
        rotate_left 1
        · intro w hSw; (try dsimp only at hSw); go_simp; try (with_reducible rfl)
        try simp only [Act.put, List.setIfInBounds_toArray, List.set_cons_zero, List.set_cons_succ]
        refine wpAnyH_take (i := 9) (oi := { dst := some 46, op := Op.build 33 #[(1, Operand.tmp 45)], type := 33, pos := "state.go:63", after := #[{ on := 8, ground := Ground.data }], guard := none }) (v := ?_) rfl (by kernel_rfl) (by kernel_rfl) (by kernel_rfl) (fun _ _ _ h => h) (Or.inl ⟨by rfl, ?_⟩) (by first | exact hHeld | assumption) ?_
        rotate_left 1
        · intro w hSw; (try dsimp only at hSw); go_simp; try (with_reducible rfl)
        try simp only [Act.put, List.setIfInBounds_toArray, List.set_cons_zero, List.set_cons_succ]
        refine wpAnyH_ready (rs := [10]) (by kernel_rfl) (by simp) ?_
        refine AllReadyH.cons (o := { dst := some 12, op := Op.alloc 33, type := 0, pos := "state.go:63", after := #[], guard := none }) rfl (fun K hK => ?_) AllReadyH.nil
        · skip
          go_simp
          replace XD := Lib.hid (XD.out.after (below_alloc (Below.refl _ _) (.cells #[.int .u8 0, .int .u64 0, .int .u64 0, .int .u64 0, .int .u64 0, .int .i64 0, .int .i64 0, .int .u8 0] 33)))
          refine hK.out _ _ (slot_cells XD.out.1 hq2.out).2.2.2.2.2.2.2 (fun hHeld => ?_)
          clear hK K
          try simp only [Act.put, List.setIfInBounds_toArray, List.set_cons_zero, List.set_cons_succ]
          refine wpAnyH_ready (rs := [11]) (by kernel_rfl) (by simp) ?_
          refine AllReadyH.cons (o := { dst := none, op := Op.store 33 (Operand.tmp 12) (Operand.tmp 46), type := 0, pos := "state.go:63", after := #[{ on := 10, ground := Ground.data }, { on := 9, ground := Ground.data }, { on := 7, ground := Ground.chain }, { on := 0, ground := Ground.phase }, { on := 1, ground := Ground.phase }, { on := 2, ground := Ground.phase }, { on := 3, ground := Ground.phase }, { on := 4, ground := Ground.phase }, { on := 5, ground := Ground.phase }, { on := 6, ground := Ground.phase }, { on := 7, ground := Ground.phase }, { on := 8, ground := Ground.phase }, { on := 9, ground := Ground.phase }, { on := 10, ground := Ground.phase }], guard := none }) rfl (fun K hK => ?_) AllReadyH.nil
          · skip
            go_simp
            have XE : Hid (StTrio x v w (u1.alloc (.cells #[.int .u8 0, .int .u64 0, .int .u64 0, .int .u64 0, .int .u64 0, .int .i64 0, .int .i64 0, bV P] 33))) := Lib.hid (XC.out.after (below_alloc (Below.refl _ _) _))
            have SB : Hid (Blk u1.heap.size (slC ⟨vZ, P⟩) 33 (u1.alloc (.cells #[.int .u8 0, .int .u64 0, .int .u64 0, .int .u64 0, .int .u64 0, .int .i64 0, .int .i64 0, bV P] 33))) := Lib.hid (Blk.new u1 _ _ rfl)
            replace hgd : Hid (w.heap.size + 3 ≤ u1.heap.size) := Lib.hid (by have := XC.out.2.2.1.lt; omega)
            refine hK.out _ _ (slot_cells XE.out.1 hq2.out).2.2.2.2.2.2.2 (fun hHeld => ?_)
            clear hK K
            try simp only [Act.put, List.setIfInBounds_toArray, List.set_cons_zero, List.set_cons_succ]
            refine wpAnyH_done (by kernel_rfl) ?_ _
            clear XC
            generalize u1.alloc (.cells #[.int .u8 0, .int .u64 0, .int .u64 0, .int .u64 0, .int .u64 0, .int .i64 0, .int .i64 0, bV P] 33) = u2 at *
            generalize u1.heap.size = gs at *
            clear XD hHeld
            go_upto_region 10 with (first | (refine st_loadV rfl _ rfl rfl (vB_range XE.out.2.1) ?_) | (refine st_storeV rfl _ _ rfl (g := gs) (o := 0) (v := v) rfl rfl (slB_there SB.out) ?_))
            replace XE := Lib.hid (XE.out.others (k := gs) hgd.out (vL v) 0)
            replace SB : Hid (Blk gs (slC y) 33 (u2.setCells gs 0 (vL v))) := Lib.hid (by rw [HY.out]; exact slB_setv SB.out v)
            generalize u2.setCells gs 0 (vL v) = u2 at *
            go_upto_region 11 with (first | (refine st_loadS rfl _ rfl rfl (slB_range SB.out) ?_) | (refine st_storeS rfl _ _ rfl (g := w.heap.size) (o := 77 + q * 8) (v := y) rfl rfl (st_there XE.out.1 (by have := hq2.out; omega)) ?_))
            have XF := Lib.hid (XE.out.sets (y := y) hq2.out)
            clear XE SB
            generalize u2.setCells w.heap.size (77 + q * 8) (slL y) = u3 at *
            have X9 := Lib.hid (And.intro (st_row XF.out.2.1 (x.slot q y)) (below_row XF.out.2.2 (g := w.heap.size + 2) (by omega) (stC (x.slot q y))))
            go_wp2_with (first | (refine st_load rfl _ rfl rfl XF.out.1 ?_) | (refine st_store rfl _ _ rfl rfl rfl XF.out.2.1 ?_) | fail)
            generalize u3.setRow (w.heap.size + 2) (stC (x.slot q y)) = w9 at *
            exact bodyPost_ret (v := .tuple #[stV (x.slot q y), .int .i64 0]) (by rw [results_cell_tmp rfl]; simp [asAddr, Act.put, Result.andThen, st_result X9.out.1]) rfl ⟨rfl, X9.out.2⟩
      · skip
        go_simp
        replace XD := Lib.hid (XD.out.after (below_alloc (Below.refl _ _) (.cells #[.int .u8 0, .int .u64 0, .int .u64 0, .int .u64 0, .int .u64 0, .int .i64 0, .int .i64 0, .int .u8 0] 33)))
        refine hK.out _ _ (slot_cells XD.out.1 hq2.out).2.2.2.2.2.2.2 (fun hHeld => ?_)
        clear hK K
        try simp only [Act.put, List.setIfInBounds_toArray, List.set_cons_zero, List.set_cons_succ]
        refine wpAnyH_ready (rs := [7]) (by kernel_rfl) (by simp) ?_
        refine AllReadyH.cons (o := { dst := some 44, op := Op.call { callee := Callee.value (Operand.func 37), args := #[Operand.tmp 42, Operand.tmp 43], argTypes := #[3, 3] }, type := 5, pos := "state.go:63", after := #[{ on := 5, ground := Ground.data }, { on := 6, ground := Ground.data }], guard := none }) rfl (fun K hK => ?_) AllReadyH.nil
        · skip
          go_simp
          refine (PB.out _).mono ?_; rintro e u1 ⟨rfl, b⟩
          have TA : Blk wd.heap.size #[.int .u8 0, .int .u64 0, .int .u64 0, .int .u64 0, .int .u64 0, .int .i64 0, .int .i64 0, .int .u8 0] 33 u1 := Blk.after (Blk.new wd _ _ rfl) b
          replace XD := Lib.hid (XD.out.after b)
          clear b PB
          go_wp2_with fail
          refine hK.out _ _ (slot_cells XD.out.1 hq2.out).2.2.2.2.2.2.2 (fun hHeld => ?_)
          clear hK K
          try simp only [Act.put, List.setIfInBounds_toArray, List.set_cons_zero, List.set_cons_succ]
          refine wpAnyH_take (i := 8) (oi := { dst := some 45, op := Op.binOp BinOp.or 5 (Operand.tmp 41) (Operand.tmp 44) 5, type := 5, pos := "state.go:63", after := #[{ on := 4, ground := Ground.data }, { on := 7, ground := Ground.data }], guard := none }) (v := ?_) rfl (by kernel_rfl) (by kernel_rfl) (by kernel_rfl) (fun _ _ _ h => h) (Or.inl ⟨by rfl, ?_⟩) (by first | exact hHeld | assumption) ?_
          rotate_left 1
          · intro w hSw; (try dsimp only at hSw); go_simp; try (with_reducible rfl)
          try simp only [Act.put, List.setIfInBounds_toArray, List.set_cons_zero, List.set_cons_succ]
          refine wpAnyH_take (i := 9) (oi := { dst := some 46, op := Op.build 33 #[(1, Operand.tmp 45)], type := 33, pos := "state.go:63", after := #[{ on := 8, ground := Ground.data }], guard := none }) (v := ?_) rfl (by kernel_rfl) (by kernel_rfl) (by kernel_rfl) (fun _ _ _ h => h) (Or.inl ⟨by rfl, ?_⟩) (by first | exact hHeld | assumption) ?_
          rotate_left 1
          · intro w hSw; (try dsimp only at hSw); go_simp; try (with_reducible rfl)
          try simp only [Act.put, List.setIfInBounds_toArray, List.set_cons_zero, List.set_cons_succ]
          refine wpAnyH_ready (rs := [11]) (by kernel_rfl) (by simp) ?_
          refine AllReadyH.cons (o := { dst := none, op := Op.store 33 (Operand.tmp 12) (Operand.tmp 46), type := 0, pos := "state.go:63", after := #[{ on := 10, ground := Ground.data }, { on := 9, ground := Ground.data }, { on := 7, ground := Ground.chain }, { on := 0, ground := Ground.phase }, { on := 1, ground := Ground.phase }, { on := 2, ground := Ground.phase }, { on := 3, ground := Ground.phase }, { on := 4, ground := Ground.phase }, { on := 5, ground := Ground.phase }, { on := 6, ground := Ground.phase }, { on := 7, ground := Ground.phase }, { on := 8, ground := Ground.phase }, { on := 9, ground := Ground.phase }, { on := 10, ground := Ground.phase }], guard := none }) rfl (fun K hK => ?_) AllReadyH.nil
          · skip
            have TB := Lib.hid TA
            have t0 := TA.cell 0
            have t1 := TA.cell 1
            have t2 := TA.cell 2
            have t3 := TA.cell 3
            have t4 := TA.cell 4
            have t5 := TA.cell 5
            have t6 := TA.cell 6
            have t7 := TA.cell 7
            have f0 := TA.free 0
            have f1 := TA.free 1
            have f2 := TA.free 2
            have f3 := TA.free 3
            have f4 := TA.free 4
            have f5 := TA.free 5
            have f6 := TA.free 6
            have f7 := TA.free 7
            clear TA
            go_simp
            have XE : Hid (StTrio x v w ((((((((u1.setCell ⟨wd.heap.size, 0, none⟩ (.int .u8 0)).setCell ⟨wd.heap.size, 1, none⟩ (.int .u64 0)).setCell ⟨wd.heap.size, 2, none⟩ (.int .u64 0)).setCell ⟨wd.heap.size, 3, none⟩ (.int .u64 0)).setCell ⟨wd.heap.size, 4, none⟩ (.int .u64 0)).setCell ⟨wd.heap.size, 5, none⟩ (.int .i64 0)).setCell ⟨wd.heap.size, 6, none⟩ (.int .i64 0)).setCell ⟨wd.heap.size, 7, none⟩ (bV P))) := Lib.hid (XD.out.sets8 hgd.out _ _ _ _ _ _ _ _)
            have SB : Hid (Blk wd.heap.size (slC ⟨vZ, P⟩) 33 ((((((((u1.setCell ⟨wd.heap.size, 0, none⟩ (.int .u8 0)).setCell ⟨wd.heap.size, 1, none⟩ (.int .u64 0)).setCell ⟨wd.heap.size, 2, none⟩ (.int .u64 0)).setCell ⟨wd.heap.size, 3, none⟩ (.int .u64 0)).setCell ⟨wd.heap.size, 4, none⟩ (.int .u64 0)).setCell ⟨wd.heap.size, 5, none⟩ (.int .i64 0)).setCell ⟨wd.heap.size, 6, none⟩ (.int .i64 0)).setCell ⟨wd.heap.size, 7, none⟩ (bV P))) := Lib.hid ((((((((TB.out.set 0 (.int .u8 0)).set 1 (.int .u64 0)).set 2 (.int .u64 0)).set 3 (.int .u64 0)).set 4 (.int .u64 0)).set 5 (.int .i64 0)).set 6 (.int .i64 0)).set 7 (bV P))
            clear TB t0 t1 t2 t3 t4 t5 t6 t7 f0 f1 f2 f3 f4 f5 f6 f7
            refine hK.out _ _ (slot_cells XE.out.1 hq2.out).2.2.2.2.2.2.2 (fun hHeld => ?_)
            clear hK K
            try simp only [Act.put, List.setIfInBounds_toArray, List.set_cons_zero, List.set_cons_succ]
            refine wpAnyH_done (by kernel_rfl) ?_ _
            generalize (((((((u1.setCell ⟨wd.heap.size, 0, none⟩ (.int .u8 0)).setCell ⟨wd.heap.size, 1, none⟩ (.int .u64 0)).setCell ⟨wd.heap.size, 2, none⟩ (.int .u64 0)).setCell ⟨wd.heap.size, 3, none⟩ (.int .u64 0)).setCell ⟨wd.heap.size, 4, none⟩ (.int .u64 0)).setCell ⟨wd.heap.size, 5, none⟩ (.int .i64 0)).setCell ⟨wd.heap.size, 6, none⟩ (.int .i64 0)).setCell ⟨wd.heap.size, 7, none⟩ (bV P) = u2 at *
            generalize wd.heap.size = gs at *
            clear XD hHeld
            go_upto_region 10 with (first | (refine st_loadV rfl _ rfl rfl (vB_range XE.out.2.1) ?_) | (refine st_storeV rfl _ _ rfl (g := gs) (o := 0) (v := v) rfl rfl (slB_there SB.out) ?_))
            replace XE := Lib.hid (XE.out.others (k := gs) hgd.out (vL v) 0)
            replace SB : Hid (Blk gs (slC y) 33 (u2.setCells gs 0 (vL v))) := Lib.hid (by rw [HY.out]; exact slB_setv SB.out v)
            generalize u2.setCells gs 0 (vL v) = u2 at *
            go_upto_region 11 with (first | (refine st_loadS rfl _ rfl rfl (slB_range SB.out) ?_) | (refine st_storeS rfl _ _ rfl (g := w.heap.size) (o := 77 + q * 8) (v := y) rfl rfl (st_there XE.out.1 (by have := hq2.out; omega)) ?_))
            have XF := Lib.hid (XE.out.sets (y := y) hq2.out)
            clear XE SB
            generalize u2.setCells w.heap.size (77 + q * 8) (slL y) = u3 at *
            have X9 := Lib.hid (And.intro (st_row XF.out.2.1 (x.slot q y)) (below_row XF.out.2.2 (g := w.heap.size + 2) (by omega) (stC (x.slot q y))))
            go_wp2_with (first | (refine st_load rfl _ rfl rfl XF.out.1 ?_) | (refine st_store rfl _ _ rfl rfl rfl XF.out.2.1 ?_) | fail)
            generalize u3.setRow (w.heap.size + 2) (stC (x.slot q y)) = w9 at *
            exact bodyPost_ret (v := .tuple #[stV (x.slot q y), .int .i64 0]) (by rw [results_cell_tmp rfl]; simp [asAddr, Act.put, Result.andThen, st_result X9.out.1]) rfl ⟨rfl, X9.out.2⟩
  · obtain ⟨e1, e2⟩ := putE_err (x := x) (off := off) (size := size) (v := v) (by rw [hra, hsz, hmp]; rfl) hr
    rw [e1, e2]
    rw [hra] at RA
    rw [hsz] at SZ
    rw [hmp] at MP
    generalize rch off size = E at *
    have hE : (E != 0) = true := by simpa using hr
    clear e1 e2 hra hsz hmp hr
    go_enter Try.func17, Try.ntmps17
    go_wp2_with (first | (refine st_load rfl _ rfl rfl X0.out.1 ?_) | fail)
    refine (RA.out _).mono ?_; rintro e w1 ⟨rfl, b1⟩
    have X1 := Lib.hid (X0.out.after b1)
    clear X0 b1
    go_wp2_with fail
    refine (SZ.out _).mono ?_; rintro e w2 ⟨rfl, b2⟩
    have X2 := Lib.hid (X1.out.after b2)
    clear X1 b2
    obtain ⟨c0, c1, c2, c3, c4, c5, c6⟩ := vB.cells X2.out.2.1
    go_wp2_with fail
    refine (MP.out _).mono ?_; rintro e w3 ⟨rfl, b3⟩
    have X3 := Lib.hid (X2.out.after b3)
    clear X2 b3 c0 c1 c2 c3 c4 c5 c6
    go_wp2_with fail
    refine (RC.out _).mono ?_; rintro e w4 ⟨rfl, b4⟩
    have X4 := Lib.hid (X3.out.after b4)
    clear X3 b4
    have X9 := Lib.hid X4.out.zero
    go_wp2_with (first | (refine st_storeZ rfl _ _ rfl rfl rfl X4.out.2.2.1 ?_) | fail)
    generalize w4.setRow (w.heap.size + 2) (stC stZ) = w9 at *
    exact bodyPost_ret (v := .tuple #[stV stZ, .int .i64 E]) (by rw [results_cell_tmp rfl]; simp [asAddr, Act.put, Result.andThen, st_result X9.out.1]) rfl ⟨rfl, X9.out.2⟩

end Go.Proofs.Ytdgckjkdimnpoaa
