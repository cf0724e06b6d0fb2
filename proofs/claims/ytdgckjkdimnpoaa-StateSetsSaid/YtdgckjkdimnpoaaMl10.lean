/-
  Texts, one behind the other: St10, St11.
  Conditions: those that each theorem states.
-/
import Derived.Deep.RegionHeld
import Derived.Test.YtdgckjkdimnpoaaMl9

namespace Go.Proofs.Ytdgckjkdimnpoaa
open Go Go.RowKit
set_option maxRecDepth 100000
set_option linter.unusedVariables false
set_option linter.unusedSimpArgs false

theorem vB_result {g : Nat} {v : Vl} {u : World} (h : vB g v u) : (loadVar 30 ⟨g, 0, none⟩).run Try.prog u = .ok (vV v) u :=
  run_loadVar_mid u g 0 30 (vL v) _ (vB_range h) Try.underlying30 rfl (by rw [vL_len]; kernel_rfl)
theorem vB_there {g : Nat} {v : Vl} {u : World} (h : vB g v u) : u.there g 0 7 := fun j hj => by
  refine ⟨?_, Blk.free h _⟩
  rw [vB_range h j _ (List.getElem?_eq_getElem (by rw [vL_len]; omega))]
  rfl
theorem vB_setv {g : Nat} {y : Vl} {u : World} (h : vB g y u) (v : Vl) : vB g v (u.setCells g 0 (vL v)) := by
  have e : setA (vCells y) 0 (vL v) = vCells v := by
    apply Array.ext_getElem?
    intro k
    rw [setA_get _ _ _ _ (by rw [vL_len]; show 0 + 7 ≤ 7; omega), vL_len, vL_C, vL_C, List.getElem?_toArray, List.getElem?_toArray]
    by_cases hk : k < 7
    · rw [if_pos (by omega)]
      rfl
    · rw [if_neg (by omega), List.getElem?_eq_none (by rw [vL_len]; omega), List.getElem?_eq_none (by rw [vL_len]; omega)]
  unfold vB
  rw [← e]
  exact Blk.sets (vL v) _ 0 _ h
def StBox (x : St) (w u : World) : Prop := stB w.heap.size x u ∧ vB (w.heap.size + 1) vZ u ∧ Below w.heap.size w u
theorem StBox.new (x : St) (w : World) : StBox x w ((w.alloc (.cells (stC x) 36)).alloc (.cells vZc 30)) :=
  ⟨(stB.new w x rfl).after (below_alloc (Below.refl _ _) _), vB.new _ vZ (by simp), below_alloc (below_alloc (Below.refl _ _) _) _⟩
theorem StBox.after {x : St} {w u u' : World} (h : StBox x w u) (k : Below u.heap.size u u') : StBox x w u' := ⟨h.1.after k, h.2.1.after k, below_next' h.2.2 k⟩
theorem StBox.give {x : St} {w u : World} (h : StBox x w u) (v : Vl) : vB (w.heap.size + 1) v (u.setCells (w.heap.size + 1) 0 (vL v)) ∧ Below w.heap.size w (u.setCells (w.heap.size + 1) 0 (vL v)) :=
  ⟨vB_setv h.2.1 v, below_sets (by omega) _ _ _ h.2.2⟩
def getY (x : St) (off size : Int) : Vl := if getE x off size = 0 then getV x off size else vZ
theorem getE_no {x : St} {off size : Int} (h : (stR x && isSz size) = false) : getE x off size = 1 ∧ getY x off size = vZ := by
  have e : getE x off size = 1 := by unfold getE; rw [h]; rfl
  exact ⟨e, by unfold getY; rw [e, if_neg (by decide)]⟩
theorem getE_err {x : St} {off size : Int} (h : (stR x && isSz size) = true) (hr : ¬ rch off size = 0) : getE x off size = rch off size ∧ getY x off size = vZ := by
  have e : getE x off size = rch off size := by unfold getE; rw [if_pos h, if_neg hr]
  exact ⟨e, by unfold getY; rw [e, if_neg hr]⟩
theorem getE_blank {x : St} {off size : Int} (h : (stR x && isSz size) = true) (hr : rch off size = 0) (hp : pAll (x.s (off / 8).toNat).p (pBits off size) = false) : getE x off size = 81 ∧ getY x off size = vZ := by
  have e : getE x off size = 81 := by unfold getE; rw [if_pos h, if_pos hr, hp]; rfl
  exact ⟨e, by unfold getY; rw [e, if_neg (by decide)]⟩
theorem getE_ok {x : St} {off size : Int} (h : (stR x && isSz size) = true) (hr : rch off size = 0) (hp : pAll (x.s (off / 8).toNat).p (pBits off size) = true) : getE x off size = 0 ∧ getY x off size = getV x off size := by
  have e : getE x off size = 0 := by unfold getE; rw [if_pos h, if_pos hr, hp]; rfl
  exact ⟨e, by unfold getY; rw [e, if_pos rfl]⟩
theorem getV_whole {x : St} {off size : Int} (h8 : (size == 8) = true) (hk : ((x.s (off / 8).toNat).v.k == 0) = false) : getV x off size = (x.s (off / 8).toNat).v := by unfold getV; rw [h8, hk]; rfl
theorem getV_bel1 {x : St} {off size : Int} (h8 : (size == 8) = false) : getV x off size = bel size := by unfold getV; rw [h8]; rfl
theorem getV_bel2 {x : St} {off size : Int} (hk : ((x.s (off / 8).toNat).v.k == 0) = true) : getV x off size = bel size := by unfold getV; rw [hk, Bool.not_true, Bool.and_false]; rfl

theorem slB_rangev {g : Nat} {t : TypeId} {y : Sl} {u : World} (h : Blk g (slC y) t u) : u.rangeAt g 0 (vL y.v) := fun j c hc => by
  have := lt_of_some hc
  rw [vL_len] at this
  refine slB_range h j c ?_
  rw [slL_app, List.getElem?_append_left (by rw [vL_len]; exact this)]
  exact hc
set_option maxHeartbeats 8000000 in
theorem sp_Get (x : St) (off size : Int) (w : World) (hx : stIn x) (ho : -9223372036854775808 ≤ off ∧ off ≤ 9223372036854775807) : Calls Try.prog 21 #[stV x, .int .i64 off, .int .i64 size] w (Gives (.tuple #[vV (getY x off size), .int .i64 (getE x off size)]) w) := by
  have RA := Lib.hid fun w => sp_right x w hx
  have SZ := Lib.hid fun w => sp_isSize size w
  have X0 := Lib.hid (StBox.new x w)
  have hz1 : (w.alloc (.cells (stC x) 36)).heap.size = w.heap.size + 1 := by simp
  cases hra : stR x
  · obtain ⟨e1, e2⟩ := getE_no (x := x) (off := off) (size := size) (by rw [hra]; rfl)
    rw [e1, e2]
    rw [hra] at RA
    clear e1 e2 hra SZ
    go_enter Try.func21, Try.ntmps21
    go_wp2_with (first | (refine st_load rfl _ rfl rfl X0.out.1 ?_) | fail)
    refine (RA.out _).mono ?_; rintro e w1 ⟨rfl, b1⟩
    have X1 := Lib.hid (X0.out.after b1)
    clear X0 b1
    have X9 := Lib.hid (X1.out.give vZ)
    go_wp2_with (first | (refine st_storeV rfl _ _ rfl (g := w.heap.size + 1) (o := 0) (v := vZ) rfl rfl (vB_there X1.out.2.1) ?_) | fail)
    generalize w1.setCells (w.heap.size + 1) 0 (vL vZ) = w9 at *
    exact bodyPost_ret (v := .tuple #[vV vZ, .int .i64 1]) (by rw [results_cell_tmp rfl]; simp [asAddr, Act.put, Result.andThen, vB_result X9.out.1]) rfl ⟨rfl, X9.out.2⟩
  cases hsz : isSz size
  · obtain ⟨e1, e2⟩ := getE_no (x := x) (off := off) (size := size) (by rw [hsz, Bool.and_false])
    rw [e1, e2]
    rw [hra] at RA
    rw [hsz] at SZ
    clear e1 e2 hra hsz
    go_enter Try.func21, Try.ntmps21
    go_wp2_with (first | (refine st_load rfl _ rfl rfl X0.out.1 ?_) | fail)
    refine (RA.out _).mono ?_; rintro e w1 ⟨rfl, b1⟩
    have X1 := Lib.hid (X0.out.after b1)
    clear X0 b1
    go_wp2_with fail
    refine (SZ.out _).mono ?_; rintro e w2 ⟨rfl, b2⟩
    have X2 := Lib.hid (X1.out.after b2)
    clear X1 b2
    have X9 := Lib.hid (X2.out.give vZ)
    go_wp2_with (first | (refine st_storeV rfl _ _ rfl (g := w.heap.size + 1) (o := 0) (v := vZ) rfl rfl (vB_there X2.out.2.1) ?_) | fail)
    generalize w2.setCells (w.heap.size + 1) 0 (vL vZ) = w9 at *
    exact bodyPost_ret (v := .tuple #[vV vZ, .int .i64 1]) (by rw [results_cell_tmp rfl]; simp [asAddr, Act.put, Result.andThen, vB_result X9.out.1]) rfl ⟨rfl, X9.out.2⟩
  have RC := Lib.hid fun w => sp_reach off size hsz ho w
  have hgo : (stR x && isSz size) = true := by rw [hra, hsz]; rfl
  rw [hra] at RA
  rw [hsz] at SZ
  by_cases hr : rch off size = 0
  · obtain ⟨k1, k2, k3⟩ := rch_ok hsz hr
    have PB := Lib.hid fun w => sp_putBits off size hsz ⟨k1, by rcases isSz_iff.mp hsz with rfl | rfl | rfl | rfl <;> omega⟩ w
    have NU := Lib.hid fun w => sp_number size hsz w
    obtain ⟨q, hq, hq3, hq2⟩ : ∃ q : Nat, off.tdiv 8 = (q : Int) ∧ (off / 8).toNat = q ∧ q < 64 := ⟨(off / 8).toNat, by rw [Int.tdiv_eq_ediv_of_nonneg k1]; omega, rfl, by rcases isSz_iff.mp hsz with rfl | rfl | rfl | rfl <;> omega⟩
    have hqI : (q : Int) < 64 := by omega
    replace hq2 := Lib.hid hq2
    have HA := Lib.hid fun w => sp_hasAll (x.s q).p (pBits off size) w
    have KN := Lib.hid fun w => sp_isKnown (x.s q).v w
    cases hp : pAll (x.s q).p (pBits off size)
    · obtain ⟨e1, e2⟩ := getE_blank hgo hr (by rw [hq3]; exact hp)
      rw [e1, e2]
      rw [hr] at RC
      rw [hp] at HA
      clear e1 e2 hra hsz hr k1 k2 k3 hq3 ho hgo hp KN NU
      generalize pBits off size = pb at *
      go_enter Try.func21, Try.ntmps21
      go_wp2_with (first | (refine st_load rfl _ rfl rfl X0.out.1 ?_) | fail)
      refine (RA.out _).mono ?_; rintro e w1 ⟨rfl, b1⟩
      have X1 := Lib.hid (X0.out.after b1)
      clear X0 b1
      go_wp2_with fail
      refine (SZ.out _).mono ?_; rintro e w2 ⟨rfl, b2⟩
      have X2 := Lib.hid (X1.out.after b2)
      clear X1 b2
      go_wp2_with fail
      refine (RC.out _).mono ?_; rintro e w3 ⟨rfl, b3⟩
      have X3 := Lib.hid (X2.out.after b3)
      clear X2 b3
      have hz3 : Hid (w.heap.size + 2 ≤ w3.heap.size) := Lib.hid (by have := X3.out.2.1.lt; omega)
      have XE := Lib.hid (X3.out.after (below_alloc (Below.refl _ w3) (.cells (slC (x.s q)) 33)))
      have SB := Lib.hid (Blk.new w3 (slC (x.s q)) 33 rfl)
      go_upto_region 7 with (first | (refine st_loadS rfl _ rfl rfl (st_slot X3.out.1 hq2.out (show 77 + q * 8 = 77 + 8 * q by omega)) ?_) | fail)
      clear X3
      generalize w3.alloc (.cells (slC (x.s q)) 33) = w4 at *
      generalize w3.heap.size = gs at *
      replace XE := Lib.hid (XE.out.after (Below.drew (Below.refl _ _)))
      replace SB := Lib.hid (SB.out.after (Below.drew (Below.refl _ _)))
      refine wp_region_held_drew (S := fun u => u.cell? ⟨gs, 7, none⟩ = some (bV (x.s q).p)) (by kernel_rfl) ((Blk.eight SB.out).2.2.2.2.2.2.2) (fun hHeld => ?_)
      generalize w4.drew = w5 at *
      refine wpAnyH_take (i := 0) (oi := { dst := some 31, op := Op.fieldAddr 33 (Operand.tmp 9) 1, type := 0, pos := "state.go:80", after := #[], guard := none }) (v := ?_) rfl (by kernel_rfl) (by kernel_rfl) (by kernel_rfl) (fun _ _ _ h => h) (Or.inl ⟨by rfl, ?_⟩) (by first | exact hHeld | assumption) ?_
      rotate_left 1
      · intro w hSw; (try dsimp only at hSw); go_simp; try (with_reducible rfl)
      try simp only [Act.put, List.setIfInBounds_toArray, List.set_cons_zero, List.set_cons_succ]
      refine wpAnyH_take (i := 1) (oi := { dst := some 32, op := Op.load 5 (Operand.tmp 31), type := 5, pos := "state.go:80", after := #[{ on := 0, ground := Ground.data }], guard := none }) (v := ?_) rfl (by kernel_rfl) (by kernel_rfl) (by kernel_rfl) (fun _ _ _ h => h) (Or.inl ⟨by rfl, ?_⟩) (by first | exact hHeld | assumption) ?_
      rotate_left 1
      · intro w hSw; (try dsimp only at hSw); go_simp; try (with_reducible rfl)
      try simp only [Act.put, List.setIfInBounds_toArray, List.set_cons_zero, List.set_cons_succ]
      refine wpAnyH_take (i := 2) (oi := { dst := some 33, op := Op.move (Operand.tmp 1), type := 3, pos := "state.go:80", after := #[], guard := none }) (v := ?_) rfl (by kernel_rfl) (by kernel_rfl) (by kernel_rfl) (fun _ _ _ h => h) (Or.inl ⟨by rfl, ?_⟩) (by first | exact hHeld | assumption) ?_
      rotate_left 1
      · intro w hSw; (try dsimp only at hSw); go_simp; try (with_reducible rfl)
      try simp only [Act.put, List.setIfInBounds_toArray, List.set_cons_zero, List.set_cons_succ]
      refine wpAnyH_take (i := 3) (oi := { dst := some 34, op := Op.move (Operand.tmp 2), type := 3, pos := "state.go:80", after := #[], guard := none }) (v := ?_) rfl (by kernel_rfl) (by kernel_rfl) (by kernel_rfl) (fun _ _ _ h => h) (Or.inl ⟨by rfl, ?_⟩) (by first | exact hHeld | assumption) ?_
      rotate_left 1
      · intro w hSw; (try dsimp only at hSw); go_simp; try (with_reducible rfl)
      try simp only [Act.put, List.setIfInBounds_toArray, List.set_cons_zero, List.set_cons_succ]
      refine wpAnyH_ready (rs := [4]) (by kernel_rfl) (by simp) ?_
      refine AllReadyH.cons (o := { dst := some 35, op := Op.call { callee := Callee.value (Operand.func 37), args := #[Operand.tmp 33, Operand.tmp 34], argTypes := #[3, 3] }, type := 5, pos := "state.go:80", after := #[{ on := 2, ground := Ground.data }, { on := 3, ground := Ground.data }], guard := none }) rfl (fun K hK => ?_) AllReadyH.nil
      · skip
        go_simp
        refine (PB.out _).mono ?_; rintro e w6 ⟨rfl, b6⟩
        replace XE := Lib.hid (XE.out.after b6)
        replace SB := Lib.hid (SB.out.after b6)
        clear b6 PB
        go_wp2_with fail
        refine hK.out _ _ (Blk.eight SB.out).2.2.2.2.2.2.2 (fun hHeld => ?_)
        clear hK K
        try simp only [Act.put, List.setIfInBounds_toArray, List.set_cons_zero, List.set_cons_succ]
        refine wpAnyH_ready (rs := [5]) (by kernel_rfl) (by simp) ?_
        refine AllReadyH.cons (o := { dst := some 36, op := Op.call { callee := Callee.value (Operand.func 41), args := #[Operand.tmp 32, Operand.tmp 35], argTypes := #[5, 5] }, type := 4, pos := "state.go:80", after := #[{ on := 1, ground := Ground.data }, { on := 4, ground := Ground.data }, { on := 4, ground := Ground.chain }], guard := none }) rfl (fun K hK => ?_) AllReadyH.nil
        · skip
          go_simp
          refine (HA.out _).mono ?_; rintro e w7 ⟨rfl, b7⟩
          replace XE := Lib.hid (XE.out.after b7)
          replace SB := Lib.hid (SB.out.after b7)
          clear b7 HA
          go_wp2_with fail
          refine hK.out _ _ (Blk.eight SB.out).2.2.2.2.2.2.2 (fun hHeld => ?_)
          clear hK K
          try simp only [Act.put, List.setIfInBounds_toArray, List.set_cons_zero, List.set_cons_succ]
          refine wpAnyH_take (i := 6) (oi := { dst := some 37, op := Op.unOp UnOp.not 4 (Operand.tmp 36), type := 4, pos := "state.go:80", after := #[{ on := 5, ground := Ground.data }], guard := none }) (v := ?_) rfl (by kernel_rfl) (by kernel_rfl) (by kernel_rfl) (fun _ _ _ h => h) (Or.inl ⟨by rfl, ?_⟩) (by first | exact hHeld | assumption) ?_
          rotate_left 1
          · intro w hSw; (try dsimp only at hSw); go_simp; try (with_reducible rfl)
          try simp only [Act.put, List.setIfInBounds_toArray, List.set_cons_zero, List.set_cons_succ]
          refine wpAnyH_done (by kernel_rfl) ?_ _
          clear hHeld
          have X9 := Lib.hid (XE.out.give vZ)
          go_wp2_with (first | (refine st_storeV rfl _ _ rfl (g := w.heap.size + 1) (o := 0) (v := vZ) rfl rfl (vB_there XE.out.2.1) ?_) | fail)
          generalize w7.setCells (w.heap.size + 1) 0 (vL vZ) = w9 at *
          exact bodyPost_ret (v := .tuple #[vV vZ, .int .i64 81]) (by rw [results_cell_tmp rfl]; simp [asAddr, Act.put, Result.andThen, vB_result X9.out.1]) rfl ⟨rfl, X9.out.2⟩
    obtain ⟨e1, e2⟩ := getE_ok hgo hr (by rw [hq3]; exact hp)
    rw [e1, e2]
    rw [hr] at RC
    rw [hp] at HA
    clear e1 e2 hra hr k1 k2 k3 ho hgo hp
    generalize pBits off size = pb at *
    cases h8 : (size == 8)
    · rw [getV_bel1 h8]
      clear hsz hq3 KN
      generalize bel size = V at *
      go_enter Try.func21, Try.ntmps21
      go_wp2_with (first | (refine st_load rfl _ rfl rfl X0.out.1 ?_) | fail)
      refine (RA.out _).mono ?_; rintro e w1 ⟨rfl, b1⟩
      have X1 := Lib.hid (X0.out.after b1)
      clear X0 b1
      go_wp2_with fail
      refine (SZ.out _).mono ?_; rintro e w2 ⟨rfl, b2⟩
      have X2 := Lib.hid (X1.out.after b2)
      clear X1 b2
      go_wp2_with fail
      refine (RC.out _).mono ?_; rintro e w3 ⟨rfl, b3⟩
      have X3 := Lib.hid (X2.out.after b3)
      clear X2 b3
      have hz3 : Hid (w.heap.size + 2 ≤ w3.heap.size) := Lib.hid (by have := X3.out.2.1.lt; omega)
      have XE := Lib.hid (X3.out.after (below_alloc (Below.refl _ w3) (.cells (slC (x.s q)) 33)))
      have SB := Lib.hid (Blk.new w3 (slC (x.s q)) 33 rfl)
      go_upto_region 7 with (first | (refine st_loadS rfl _ rfl rfl (st_slot X3.out.1 hq2.out (show 77 + q * 8 = 77 + 8 * q by omega)) ?_) | fail)
      clear X3
      generalize w3.alloc (.cells (slC (x.s q)) 33) = w4 at *
      generalize w3.heap.size = gs at *
      replace XE := Lib.hid (XE.out.after (Below.drew (Below.refl _ _)))
      replace SB := Lib.hid (SB.out.after (Below.drew (Below.refl _ _)))
      refine wp_region_held_drew (S := fun u => u.cell? ⟨gs, 7, none⟩ = some (bV (x.s q).p)) (by kernel_rfl) ((Blk.eight SB.out).2.2.2.2.2.2.2) (fun hHeld => ?_)
      generalize w4.drew = w5 at *
      refine wpAnyH_take (i := 0) (oi := { dst := some 31, op := Op.fieldAddr 33 (Operand.tmp 9) 1, type := 0, pos := "state.go:80", after := #[], guard := none }) (v := ?_) rfl (by kernel_rfl) (by kernel_rfl) (by kernel_rfl) (fun _ _ _ h => h) (Or.inl ⟨by rfl, ?_⟩) (by first | exact hHeld | assumption) ?_
      rotate_left 1
      · intro w hSw; (try dsimp only at hSw); go_simp; try (with_reducible rfl)
      try simp only [Act.put, List.setIfInBounds_toArray, List.set_cons_zero, List.set_cons_succ]
      refine wpAnyH_take (i := 1) (oi := { dst := some 32, op := Op.load 5 (Operand.tmp 31), type := 5, pos := "state.go:80", after := #[{ on := 0, ground := Ground.data }], guard := none }) (v := ?_) rfl (by kernel_rfl) (by kernel_rfl) (by kernel_rfl) (fun _ _ _ h => h) (Or.inl ⟨by rfl, ?_⟩) (by first | exact hHeld | assumption) ?_
      rotate_left 1
      · intro w hSw; (try dsimp only at hSw); go_simp; try (with_reducible rfl)
      try simp only [Act.put, List.setIfInBounds_toArray, List.set_cons_zero, List.set_cons_succ]
      refine wpAnyH_take (i := 2) (oi := { dst := some 33, op := Op.move (Operand.tmp 1), type := 3, pos := "state.go:80", after := #[], guard := none }) (v := ?_) rfl (by kernel_rfl) (by kernel_rfl) (by kernel_rfl) (fun _ _ _ h => h) (Or.inl ⟨by rfl, ?_⟩) (by first | exact hHeld | assumption) ?_
      rotate_left 1
      · intro w hSw; (try dsimp only at hSw); go_simp; try (with_reducible rfl)
      try simp only [Act.put, List.setIfInBounds_toArray, List.set_cons_zero, List.set_cons_succ]
      refine wpAnyH_take (i := 3) (oi := { dst := some 34, op := Op.move (Operand.tmp 2), type := 3, pos := "state.go:80", after := #[], guard := none }) (v := ?_) rfl (by kernel_rfl) (by kernel_rfl) (by kernel_rfl) (fun _ _ _ h => h) (Or.inl ⟨by rfl, ?_⟩) (by first | exact hHeld | assumption) ?_
      rotate_left 1
      · intro w hSw; (try dsimp only at hSw); go_simp; try (with_reducible rfl)
      try simp only [Act.put, List.setIfInBounds_toArray, List.set_cons_zero, List.set_cons_succ]
      refine wpAnyH_ready (rs := [4]) (by kernel_rfl) (by simp) ?_
      refine AllReadyH.cons (o := { dst := some 35, op := Op.call { callee := Callee.value (Operand.func 37), args := #[Operand.tmp 33, Operand.tmp 34], argTypes := #[3, 3] }, type := 5, pos := "state.go:80", after := #[{ on := 2, ground := Ground.data }, { on := 3, ground := Ground.data }], guard := none }) rfl (fun K hK => ?_) AllReadyH.nil
      · skip
        go_simp
        refine (PB.out _).mono ?_; rintro e w6 ⟨rfl, b6⟩
        replace XE := Lib.hid (XE.out.after b6)
        replace SB := Lib.hid (SB.out.after b6)
        clear b6 PB
        go_wp2_with fail
        refine hK.out _ _ (Blk.eight SB.out).2.2.2.2.2.2.2 (fun hHeld => ?_)
        clear hK K
        try simp only [Act.put, List.setIfInBounds_toArray, List.set_cons_zero, List.set_cons_succ]
        refine wpAnyH_ready (rs := [5]) (by kernel_rfl) (by simp) ?_
        refine AllReadyH.cons (o := { dst := some 36, op := Op.call { callee := Callee.value (Operand.func 41), args := #[Operand.tmp 32, Operand.tmp 35], argTypes := #[5, 5] }, type := 4, pos := "state.go:80", after := #[{ on := 1, ground := Ground.data }, { on := 4, ground := Ground.data }, { on := 4, ground := Ground.chain }], guard := none }) rfl (fun K hK => ?_) AllReadyH.nil
        · skip
          go_simp
          refine (HA.out _).mono ?_; rintro e w7 ⟨rfl, b7⟩
          replace XE := Lib.hid (XE.out.after b7)
          replace SB := Lib.hid (SB.out.after b7)
          clear b7 HA
          go_wp2_with fail
          refine hK.out _ _ (Blk.eight SB.out).2.2.2.2.2.2.2 (fun hHeld => ?_)
          clear hK K
          try simp only [Act.put, List.setIfInBounds_toArray, List.set_cons_zero, List.set_cons_succ]
          refine wpAnyH_take (i := 6) (oi := { dst := some 37, op := Op.unOp UnOp.not 4 (Operand.tmp 36), type := 4, pos := "state.go:80", after := #[{ on := 5, ground := Ground.data }], guard := none }) (v := ?_) rfl (by kernel_rfl) (by kernel_rfl) (by kernel_rfl) (fun _ _ _ h => h) (Or.inl ⟨by rfl, ?_⟩) (by first | exact hHeld | assumption) ?_
          rotate_left 1
          · intro w hSw; (try dsimp only at hSw); go_simp; try (with_reducible rfl)
          try simp only [Act.put, List.setIfInBounds_toArray, List.set_cons_zero, List.set_cons_succ]
          refine wpAnyH_done (by kernel_rfl) ?_ _
          clear hHeld
          go_wp2_with fail
          refine (NU.out _).mono ?_; rintro e w8 ⟨rfl, b8⟩
          replace XE := Lib.hid (XE.out.after b8)
          clear b8 NU
          have X9 := Lib.hid (XE.out.give V)
          go_wp2_with (first | (refine st_storeV rfl _ _ rfl (g := w.heap.size + 1) (o := 0) (v := V) rfl rfl (vB_there XE.out.2.1) ?_) | fail)
          generalize w8.setCells (w.heap.size + 1) 0 (vL V) = w9 at *
          exact bodyPost_ret (v := .tuple #[vV V, .int .i64 0]) (by rw [results_cell_tmp rfl]; simp [asAddr, Act.put, Result.andThen, vB_result X9.out.1]) rfl ⟨rfl, X9.out.2⟩
    cases hk : ((x.s q).v.k == 0)
    · rw [getV_whole h8 (by rw [hq3]; exact hk), hq3]
      rw [hk] at KN
      clear hsz hq3 NU hk
      obtain ⟨V, hV⟩ : ∃ V, V = (x.s q).v := ⟨_, rfl⟩
      rw [← hV]
      replace hV := Lib.hid hV
      go_enter Try.func21, Try.ntmps21
      go_wp2_with (first | (refine st_load rfl _ rfl rfl X0.out.1 ?_) | fail)
      refine (RA.out _).mono ?_; rintro e w1 ⟨rfl, b1⟩
      have X1 := Lib.hid (X0.out.after b1)
      clear X0 b1
      go_wp2_with fail
      refine (SZ.out _).mono ?_; rintro e w2 ⟨rfl, b2⟩
      have X2 := Lib.hid (X1.out.after b2)
      clear X1 b2
      go_wp2_with fail
      refine (RC.out _).mono ?_; rintro e w3 ⟨rfl, b3⟩
      have X3 := Lib.hid (X2.out.after b3)
      clear X2 b3
      have hz3 : Hid (w.heap.size + 2 ≤ w3.heap.size) := Lib.hid (by have := X3.out.2.1.lt; omega)
      have XE := Lib.hid (X3.out.after (below_alloc (Below.refl _ w3) (.cells (slC (x.s q)) 33)))
      have SB := Lib.hid (Blk.new w3 (slC (x.s q)) 33 rfl)
      go_upto_region 7 with (first | (refine st_loadS rfl _ rfl rfl (st_slot X3.out.1 hq2.out (show 77 + q * 8 = 77 + 8 * q by omega)) ?_) | fail)
      clear X3
      generalize w3.alloc (.cells (slC (x.s q)) 33) = w4 at *
      generalize w3.heap.size = gs at *
      replace XE := Lib.hid (XE.out.after (Below.drew (Below.refl _ _)))
      replace SB := Lib.hid (SB.out.after (Below.drew (Below.refl _ _)))
      refine wp_region_held_drew (S := fun u => u.cell? ⟨gs, 7, none⟩ = some (bV (x.s q).p)) (by kernel_rfl) ((Blk.eight SB.out).2.2.2.2.2.2.2) (fun hHeld => ?_)
      generalize w4.drew = w5 at *
      refine wpAnyH_take (i := 0) (oi := { dst := some 31, op := Op.fieldAddr 33 (Operand.tmp 9) 1, type := 0, pos := "state.go:80", after := #[], guard := none }) (v := ?_) rfl (by kernel_rfl) (by kernel_rfl) (by kernel_rfl) (fun _ _ _ h => h) (Or.inl ⟨by rfl, ?_⟩) (by first | exact hHeld | assumption) ?_
      rotate_left 1
      · intro w hSw; (try dsimp only at hSw); go_simp; try (with_reducible rfl)
      try simp only [Act.put, List.setIfInBounds_toArray, List.set_cons_zero, List.set_cons_succ]
      refine wpAnyH_take (i := 1) (oi := { dst := some 32, op := Op.load 5 (Operand.tmp 31), type := 5, pos := "state.go:80", after := #[{ on := 0, ground := Ground.data }], guard := none }) (v := ?_) rfl (by kernel_rfl) (by kernel_rfl) (by kernel_rfl) (fun _ _ _ h => h) (Or.inl ⟨by rfl, ?_⟩) (by first | exact hHeld | assumption) ?_
      rotate_left 1
      · intro w hSw; (try dsimp only at hSw); go_simp; try (with_reducible rfl)
      try simp only [Act.put, List.setIfInBounds_toArray, List.set_cons_zero, List.set_cons_succ]
      refine wpAnyH_take (i := 2) (oi := { dst := some 33, op := Op.move (Operand.tmp 1), type := 3, pos := "state.go:80", after := #[], guard := none }) (v := ?_) rfl (by kernel_rfl) (by kernel_rfl) (by kernel_rfl) (fun _ _ _ h => h) (Or.inl ⟨by rfl, ?_⟩) (by first | exact hHeld | assumption) ?_
      rotate_left 1
      · intro w hSw; (try dsimp only at hSw); go_simp; try (with_reducible rfl)
      try simp only [Act.put, List.setIfInBounds_toArray, List.set_cons_zero, List.set_cons_succ]
      refine wpAnyH_take (i := 3) (oi := { dst := some 34, op := Op.move (Operand.tmp 2), type := 3, pos := "state.go:80", after := #[], guard := none }) (v := ?_) rfl (by kernel_rfl) (by kernel_rfl) (by kernel_rfl) (fun _ _ _ h => h) (Or.inl ⟨by rfl, ?_⟩) (by first | exact hHeld | assumption) ?_
      rotate_left 1
      · intro w hSw; (try dsimp only at hSw); go_simp; try (with_reducible rfl)
      try simp only [Act.put, List.setIfInBounds_toArray, List.set_cons_zero, List.set_cons_succ]
      refine wpAnyH_ready (rs := [4]) (by kernel_rfl) (by simp) ?_
      refine AllReadyH.cons (o := { dst := some 35, op := Op.call { callee := Callee.value (Operand.func 37), args := #[Operand.tmp 33, Operand.tmp 34], argTypes := #[3, 3] }, type := 5, pos := "state.go:80", after := #[{ on := 2, ground := Ground.data }, { on := 3, ground := Ground.data }], guard := none }) rfl (fun K hK => ?_) AllReadyH.nil
      · skip
        go_simp
        refine (PB.out _).mono ?_; rintro e w6 ⟨rfl, b6⟩
        replace XE := Lib.hid (XE.out.after b6)
        replace SB := Lib.hid (SB.out.after b6)
        clear b6 PB
        go_wp2_with fail
        refine hK.out _ _ (Blk.eight SB.out).2.2.2.2.2.2.2 (fun hHeld => ?_)
        clear hK K
        try simp only [Act.put, List.setIfInBounds_toArray, List.set_cons_zero, List.set_cons_succ]
        refine wpAnyH_ready (rs := [5]) (by kernel_rfl) (by simp) ?_
        refine AllReadyH.cons (o := { dst := some 36, op := Op.call { callee := Callee.value (Operand.func 41), args := #[Operand.tmp 32, Operand.tmp 35], argTypes := #[5, 5] }, type := 4, pos := "state.go:80", after := #[{ on := 1, ground := Ground.data }, { on := 4, ground := Ground.data }, { on := 4, ground := Ground.chain }], guard := none }) rfl (fun K hK => ?_) AllReadyH.nil
        · skip
          go_simp
          refine (HA.out _).mono ?_; rintro e w7 ⟨rfl, b7⟩
          replace XE := Lib.hid (XE.out.after b7)
          replace SB := Lib.hid (SB.out.after b7)
          clear b7 HA
          go_wp2_with fail
          refine hK.out _ _ (Blk.eight SB.out).2.2.2.2.2.2.2 (fun hHeld => ?_)
          clear hK K
          try simp only [Act.put, List.setIfInBounds_toArray, List.set_cons_zero, List.set_cons_succ]
          refine wpAnyH_take (i := 6) (oi := { dst := some 37, op := Op.unOp UnOp.not 4 (Operand.tmp 36), type := 4, pos := "state.go:80", after := #[{ on := 5, ground := Ground.data }], guard := none }) (v := ?_) rfl (by kernel_rfl) (by kernel_rfl) (by kernel_rfl) (fun _ _ _ h => h) (Or.inl ⟨by rfl, ?_⟩) (by first | exact hHeld | assumption) ?_
          rotate_left 1
          · intro w hSw; (try dsimp only at hSw); go_simp; try (with_reducible rfl)
          try simp only [Act.put, List.setIfInBounds_toArray, List.set_cons_zero, List.set_cons_succ]
          refine wpAnyH_done (by kernel_rfl) ?_ _
          clear hHeld
          obtain ⟨s0, s1, s2, s3, s4, s5, s6, s7⟩ := Blk.eight SB.out
          go_wp2_with fail
          refine (KN.out _).mono ?_; rintro e w8 ⟨rfl, b8⟩
          replace XE := Lib.hid (XE.out.after b8)
          replace SB := Lib.hid (SB.out.after b8)
          clear b8 KN s0 s1 s2 s3 s4 s5 s6 s7
          have SR : Hid (w8.rangeAt gs 0 (vL V)) := Lib.hid (by rw [hV.out]; exact slB_rangev SB.out)
          have X9 := Lib.hid (XE.out.give V)
          go_wp2_with (first | (refine st_loadV rfl _ rfl rfl SR.out ?_) | (refine st_storeV rfl _ _ rfl (g := w.heap.size + 1) (o := 0) (v := V) rfl rfl (vB_there XE.out.2.1) ?_) | fail)
          generalize w8.setCells (w.heap.size + 1) 0 (vL V) = w9 at *
          exact bodyPost_ret (v := .tuple #[vV V, .int .i64 0]) (by rw [results_cell_tmp rfl]; simp [asAddr, Act.put, Result.andThen, vB_result X9.out.1]) rfl ⟨rfl, X9.out.2⟩
    · rw [getV_bel2 (by rw [hq3]; exact hk)]
      rw [hk] at KN
      clear hsz hq3 hk
      generalize bel size = V at *
      go_enter Try.func21, Try.ntmps21
      go_wp2_with (first | (refine st_load rfl _ rfl rfl X0.out.1 ?_) | fail)
      refine (RA.out _).mono ?_; rintro e w1 ⟨rfl, b1⟩
      have X1 := Lib.hid (X0.out.after b1)
      clear X0 b1
      go_wp2_with fail
      refine (SZ.out _).mono ?_; rintro e w2 ⟨rfl, b2⟩
      have X2 := Lib.hid (X1.out.after b2)
      clear X1 b2
      go_wp2_with fail
      refine (RC.out _).mono ?_; rintro e w3 ⟨rfl, b3⟩
      have X3 := Lib.hid (X2.out.after b3)
      clear X2 b3
      have hz3 : Hid (w.heap.size + 2 ≤ w3.heap.size) := Lib.hid (by have := X3.out.2.1.lt; omega)
      have XE := Lib.hid (X3.out.after (below_alloc (Below.refl _ w3) (.cells (slC (x.s q)) 33)))
      have SB := Lib.hid (Blk.new w3 (slC (x.s q)) 33 rfl)
      go_upto_region 7 with (first | (refine st_loadS rfl _ rfl rfl (st_slot X3.out.1 hq2.out (show 77 + q * 8 = 77 + 8 * q by omega)) ?_) | fail)
      clear X3
      generalize w3.alloc (.cells (slC (x.s q)) 33) = w4 at *
      generalize w3.heap.size = gs at *
      replace XE := Lib.hid (XE.out.after (Below.drew (Below.refl _ _)))
      replace SB := Lib.hid (SB.out.after (Below.drew (Below.refl _ _)))
      refine wp_region_held_drew (S := fun u => u.cell? ⟨gs, 7, none⟩ = some (bV (x.s q).p)) (by kernel_rfl) ((Blk.eight SB.out).2.2.2.2.2.2.2) (fun hHeld => ?_)
      generalize w4.drew = w5 at *
      refine wpAnyH_take (i := 0) (oi := { dst := some 31, op := Op.fieldAddr 33 (Operand.tmp 9) 1, type := 0, pos := "state.go:80", after := #[], guard := none }) (v := ?_) rfl (by kernel_rfl) (by kernel_rfl) (by kernel_rfl) (fun _ _ _ h => h) (Or.inl ⟨by rfl, ?_⟩) (by first | exact hHeld | assumption) ?_
      rotate_left 1
      · intro w hSw; (try dsimp only at hSw); go_simp; try (with_reducible rfl)
      try simp only [Act.put, List.setIfInBounds_toArray, List.set_cons_zero, List.set_cons_succ]
      refine wpAnyH_take (i := 1) (oi := { dst := some 32, op := Op.load 5 (Operand.tmp 31), type := 5, pos := "state.go:80", after := #[{ on := 0, ground := Ground.data }], guard := none }) (v := ?_) rfl (by kernel_rfl) (by kernel_rfl) (by kernel_rfl) (fun _ _ _ h => h) (Or.inl ⟨by rfl, ?_⟩) (by first | exact hHeld | assumption) ?_
      rotate_left 1
      · intro w hSw; (try dsimp only at hSw); go_simp; try (with_reducible rfl)
      try simp only [Act.put, List.setIfInBounds_toArray, List.set_cons_zero, List.set_cons_succ]
      refine wpAnyH_take (i := 2) (oi := { dst := some 33, op := Op.move (Operand.tmp 1), type := 3, pos := "state.go:80", after := #[], guard := none }) (v := ?_) rfl (by kernel_rfl) (by kernel_rfl) (by kernel_rfl) (fun _ _ _ h => h) (Or.inl ⟨by rfl, ?_⟩) (by first | exact hHeld | assumption) ?_
      rotate_left 1
      · intro w hSw; (try dsimp only at hSw); go_simp; try (with_reducible rfl)
      try simp only [Act.put, List.setIfInBounds_toArray, List.set_cons_zero, List.set_cons_succ]
      refine wpAnyH_take (i := 3) (oi := { dst := some 34, op := Op.move (Operand.tmp 2), type := 3, pos := "state.go:80", after := #[], guard := none }) (v := ?_) rfl (by kernel_rfl) (by kernel_rfl) (by kernel_rfl) (fun _ _ _ h => h) (Or.inl ⟨by rfl, ?_⟩) (by first | exact hHeld | assumption) ?_
      rotate_left 1
      · intro w hSw; (try dsimp only at hSw); go_simp; try (with_reducible rfl)
      try simp only [Act.put, List.setIfInBounds_toArray, List.set_cons_zero, List.set_cons_succ]
      refine wpAnyH_ready (rs := [4]) (by kernel_rfl) (by simp) ?_
      refine AllReadyH.cons (o := { dst := some 35, op := Op.call { callee := Callee.value (Operand.func 37), args := #[Operand.tmp 33, Operand.tmp 34], argTypes := #[3, 3] }, type := 5, pos := "state.go:80", after := #[{ on := 2, ground := Ground.data }, { on := 3, ground := Ground.data }], guard := none }) rfl (fun K hK => ?_) AllReadyH.nil
      · skip
        go_simp
        refine (PB.out _).mono ?_; rintro e w6 ⟨rfl, b6⟩
        replace XE := Lib.hid (XE.out.after b6)
        replace SB := Lib.hid (SB.out.after b6)
        clear b6 PB
        go_wp2_with fail
        refine hK.out _ _ (Blk.eight SB.out).2.2.2.2.2.2.2 (fun hHeld => ?_)
        clear hK K
        try simp only [Act.put, List.setIfInBounds_toArray, List.set_cons_zero, List.set_cons_succ]
        refine wpAnyH_ready (rs := [5]) (by kernel_rfl) (by simp) ?_
        refine AllReadyH.cons (o := { dst := some 36, op := Op.call { callee := Callee.value (Operand.func 41), args := #[Operand.tmp 32, Operand.tmp 35], argTypes := #[5, 5] }, type := 4, pos := "state.go:80", after := #[{ on := 1, ground := Ground.data }, { on := 4, ground := Ground.data }, { on := 4, ground := Ground.chain }], guard := none }) rfl (fun K hK => ?_) AllReadyH.nil
        · skip
          go_simp
          refine (HA.out _).mono ?_; rintro e w7 ⟨rfl, b7⟩
          replace XE := Lib.hid (XE.out.after b7)
          replace SB := Lib.hid (SB.out.after b7)
          clear b7 HA
          go_wp2_with fail
          refine hK.out _ _ (Blk.eight SB.out).2.2.2.2.2.2.2 (fun hHeld => ?_)
          clear hK K
          try simp only [Act.put, List.setIfInBounds_toArray, List.set_cons_zero, List.set_cons_succ]
          refine wpAnyH_take (i := 6) (oi := { dst := some 37, op := Op.unOp UnOp.not 4 (Operand.tmp 36), type := 4, pos := "state.go:80", after := #[{ on := 5, ground := Ground.data }], guard := none }) (v := ?_) rfl (by kernel_rfl) (by kernel_rfl) (by kernel_rfl) (fun _ _ _ h => h) (Or.inl ⟨by rfl, ?_⟩) (by first | exact hHeld | assumption) ?_
          rotate_left 1
          · intro w hSw; (try dsimp only at hSw); go_simp; try (with_reducible rfl)
          try simp only [Act.put, List.setIfInBounds_toArray, List.set_cons_zero, List.set_cons_succ]
          refine wpAnyH_done (by kernel_rfl) ?_ _
          clear hHeld
          obtain ⟨s0, s1, s2, s3, s4, s5, s6, s7⟩ := Blk.eight SB.out
          go_wp2_with fail
          refine (KN.out _).mono ?_; rintro e w8 ⟨rfl, b8⟩
          replace XE := Lib.hid (XE.out.after b8)
          replace SB := Lib.hid (SB.out.after b8)
          clear b8 KN s0 s1 s2 s3 s4 s5 s6 s7
          go_wp2_with fail
          refine (NU.out _).mono ?_; rintro e w10 ⟨rfl, b8⟩
          replace XE := Lib.hid (XE.out.after b8)
          clear b8 NU
          have X9 := Lib.hid (XE.out.give V)
          go_wp2_with (first | (refine st_storeV rfl _ _ rfl (g := w.heap.size + 1) (o := 0) (v := V) rfl rfl (vB_there XE.out.2.1) ?_) | fail)
          generalize w10.setCells (w.heap.size + 1) 0 (vL V) = w9 at *
          exact bodyPost_ret (v := .tuple #[vV V, .int .i64 0]) (by rw [results_cell_tmp rfl]; simp [asAddr, Act.put, Result.andThen, vB_result X9.out.1]) rfl ⟨rfl, X9.out.2⟩
  · obtain ⟨e1, e2⟩ := getE_err hgo hr
    rw [e1, e2]
    generalize rch off size = E at *
    have hE : (E != 0) = true := by simpa using hr
    clear e1 e2 hra hsz hr hgo
    go_enter Try.func21, Try.ntmps21
    go_wp2_with (first | (refine st_load rfl _ rfl rfl X0.out.1 ?_) | fail)
    refine (RA.out _).mono ?_; rintro e w1 ⟨rfl, b1⟩
    have X1 := Lib.hid (X0.out.after b1)
    clear X0 b1
    go_wp2_with fail
    refine (SZ.out _).mono ?_; rintro e w2 ⟨rfl, b2⟩
    have X2 := Lib.hid (X1.out.after b2)
    clear X1 b2
    go_wp2_with fail
    refine (RC.out _).mono ?_; rintro e w3 ⟨rfl, b3⟩
    have X3 := Lib.hid (X2.out.after b3)
    clear X2 b3
    have X9 := Lib.hid (X3.out.give vZ)
    go_wp2_with (first | (refine st_storeV rfl _ _ rfl (g := w.heap.size + 1) (o := 0) (v := vZ) rfl rfl (vB_there X3.out.2.1) ?_) | fail)
    generalize w3.setCells (w.heap.size + 1) 0 (vL vZ) = w9 at *
    exact bodyPost_ret (v := .tuple #[vV vZ, .int .i64 E]) (by rw [results_cell_tmp rfl]; simp [asAddr, Act.put, Result.andThen, vB_result X9.out.1]) rfl ⟨rfl, X9.out.2⟩

end Go.Proofs.Ytdgckjkdimnpoaa

namespace Go.Proofs.Ytdgckjkdimnpoaa
open Go Go.RowKit
set_option maxRecDepth 100000
set_option linter.unusedVariables false
set_option linter.unusedSimpArgs false

def StOne (x : St) (w u : World) : Prop := stB w.heap.size x u ∧ Below w.heap.size w u
theorem StOne.new (x : St) (w : World) : StOne x w (w.alloc (.cells (stC x) 36)) := ⟨stB.new w x rfl, below_alloc (Below.refl _ _) _⟩
theorem StOne.after {x : St} {w u u' : World} (h : StOne x w u) (k : Below u.heap.size u u') : StOne x w u' := ⟨h.1.after k, below_next' h.2 k⟩
theorem full_no {x : St} {off size : Int} (h : stR x = false) : full x off size = false := by unfold full; rw [h]; rfl
theorem full_out {x : St} {off size : Int} (h : there off size = false) : full x off size = false := by unfold full; rw [h, Bool.and_false]; rfl
theorem full_miss {x : St} {o n j : Nat} (hj : j < n) (h : pAt x (o + j) = false) : full x o n = false := by
  unfold full
  rw [Int.toNat_natCast, Int.toNat_natCast, all_no hj h, Bool.and_false]
theorem full_yes {x : St} {o n : Nat} (hr : stR x = true) (ht : there (o : Int) (n : Int) = true) (h : ∀ t, t < n → pAt x (o + t) = true) : full x o n = true := by
  unfold full
  rw [hr, ht, Int.toNat_natCast, Int.toNat_natCast, all_yes h]; rfl

set_option maxHeartbeats 8000000 in
theorem sp_Full (x : St) (off size : Int) (w : World) (hx : stIn x) (ho : -9223372036854775808 ≤ off ∧ off ≤ 9223372036854775807) (hs : -9223372036854775808 ≤ size ∧ size ≤ 9223372036854775807) : Calls Try.prog 23 #[stV x, .int .i64 off, .int .i64 size] w (Gives (.bool (full x off size)) w) := by
  have RA := Lib.hid fun w => sp_right x w hx
  have TH := Lib.hid fun w => sp_isThere off size ho hs w
  have X0 := Lib.hid (StOne.new x w)
  cases hra : stR x
  · rw [full_no hra]
    rw [hra] at RA
    clear hra TH
    go_enter Try.func23, Try.ntmps23
    go_wp2_with (first | (refine st_load rfl _ rfl rfl X0.out.1 ?_) | fail)
    refine (RA.out _).mono ?_; rintro e w1 ⟨rfl, b1⟩
    have X1 := Lib.hid (X0.out.after b1)
    clear X0 b1
    go_wp2_with fail
    go_ret
    exact ⟨rfl, X1.out.2⟩
  cases hth : there off size
  · rw [full_out hth]
    rw [hra] at RA
    rw [hth] at TH
    clear hra hth
    go_enter Try.func23, Try.ntmps23
    go_wp2_with (first | (refine st_load rfl _ rfl rfl X0.out.1 ?_) | fail)
    refine (RA.out _).mono ?_; rintro e w1 ⟨rfl, b1⟩
    have X1 := Lib.hid (X0.out.after b1)
    clear X0 b1
    go_wp2_with fail
    refine (TH.out _).mono ?_; rintro e w2 ⟨rfl, b2⟩
    have X2 := Lib.hid (X1.out.after b2)
    clear X1 b2
    go_wp2_with fail
    go_ret
    exact ⟨rfl, X2.out.2⟩
  obtain ⟨t1, t2, t3⟩ := there_iff.mp hth
  obtain ⟨o, rfl⟩ : ∃ o : Nat, off = (o : Int) := ⟨off.toNat, by omega⟩
  obtain ⟨n, rfl⟩ : ∃ n : Nat, size = (n : Int) := ⟨size.toNat, by omega⟩
  have YES := Lib.hid (full_yes (x := x) (o := o) (n := n) hra hth)
  rw [hra] at RA
  rw [hth] at TH
  have hon : Hid (o + n ≤ 512) := Lib.hid (by omega)
  have NO := Lib.hid fun (j : Nat) (hj : j < n) (h : pAt x (o + j) = false) => full_miss (x := x) hj h
  generalize full x (o : Int) (n : Int) = R at *
  clear hra hth t1 t2 t3 ho hs
  go_enter Try.func23, Try.ntmps23
  go_wp2_with (first | (refine st_load rfl _ rfl rfl X0.out.1 ?_) | fail)
  refine (RA.out _).mono ?_; rintro e w1 ⟨rfl, b1⟩
  have X1 := Lib.hid (X0.out.after b1)
  clear X0 b1
  go_wp2_with fail
  refine (TH.out _).mono ?_; rintro e w2 ⟨rfl, b2⟩
  have X2 := Lib.hid (X1.out.after b2)
  clear X1 b2
  go_wp2_with fail
  go_loopw [19] (fun iv wr => ∃ j : Nat, iv = .int .i64 j ∧ j ≤ n ∧ Hid (StOne x w wr ∧ ∀ t : Nat, t < j → pAt x (o + t) = true)) (fun iv wr => n - (intOf iv).toNat)
  case atStart => exact ⟨0, rfl, by omega, Lib.hid ⟨X2.out, fun t ht => by omega⟩⟩
  case round =>
    obtain ⟨j, rfl, hj, V⟩ := hrel
    have j0 : (0 : Int) ≤ (j : Int) := by omega
    by_cases hlt : (j : Int) < (n : Int)
    · have hj5 : (j : Int) < 512 := by have := hon.out; omega
      obtain ⟨a, ha⟩ : ∃ a : Nat, a = o + j := ⟨_, rfl⟩
      have hw : IntKind.i64.wrap ((o : Int) + (j : Int)) = (a : Int) := by rw [IntKind.wrap_i64]; have := hon.out; omega
      obtain ⟨q, hq, hq2, hq3⟩ : ∃ q : Nat, (a : Int).tdiv 8 = (q : Int) ∧ q < 64 ∧ q = a / 8 := ⟨a / 8, by rw [Int.tdiv_eq_ediv_of_nonneg (by omega)]; omega, by have := hon.out; omega, rfl⟩
      have hqI : (q : Int) < 64 := by omega
      have hqw : IntKind.i64.wrap (q : Int) = (q : Int) := by rw [IntKind.wrap_i64]; omega
      replace hq2 := Lib.hid hq2
      have PB := Lib.hid fun w => sp_putBits (a : Int) 1 rfl ⟨by omega, by have := hon.out; omega⟩ w
      have HA := Lib.hid fun w => sp_hasAll (x.s q).p (pBits (a : Int) 1) w
      have kp : Hid (pAll (x.s q).p (pBits (a : Int) 1) = pAt x (o + j)) := Lib.hid (by unfold pAt; rw [← ha, ← hq3])
      have NJ := Lib.hid (NO.out j (by omega))
      have XE := Lib.hid V.out.1
      have VT := Lib.hid V.out.2
      rw [kp.out] at HA
      generalize pBits (a : Int) 1 = pb at *
      replace ha := Lib.hid ha
      clear V hq3
      go_upto_region 7 with fail
      replace XE := Lib.hid (XE.out.after (Below.drew (Below.refl _ _)))
      refine wp_region_held_drew (S := fun u => u.cell? ⟨w.heap.size, 77 + q * 8 + 7, none⟩ = some (bV (x.s q).p)) (by kernel_rfl) ((slot_cells XE.out.1 hq2.out).2.2.2.2.2.2.2) (fun hHeld => ?_)
      generalize wr.drew = w5 at *
      refine wpAnyH_take (i := 0) (oi := { dst := some 25, op := Op.move (Operand.tmp 8), type := 3, pos := "state.go:96", after := #[], guard := none }) (v := ?_) rfl (by kernel_rfl) (by kernel_rfl) (by kernel_rfl) (fun _ _ _ h => h) (Or.inl ⟨by rfl, ?_⟩) (by first | exact hHeld | assumption) ?_
      rotate_left 1
      · intro w hSw; (try dsimp only at hSw); go_simp; try (with_reducible rfl)
      try simp only [Act.put, List.setIfInBounds_toArray, List.set_cons_zero, List.set_cons_succ]
      refine wpAnyH_take (i := 1) (oi := { dst := some 26, op := Op.binOp BinOp.quo 3 (Operand.tmp 25) (Operand.const (Value.int IntKind.i64 8)) 3, type := 3, pos := "state.go:96", after := #[{ on := 0, ground := Ground.data }], guard := none }) (v := ?_) rfl (by kernel_rfl) (by kernel_rfl) (by kernel_rfl) (fun _ _ _ h => h) (Or.inl ⟨by rfl, ?_⟩) (by first | exact hHeld | assumption) ?_
      rotate_left 1
      · intro w hSw; (try dsimp only at hSw); go_simp; try (with_reducible rfl)
      try simp only [Act.put, List.setIfInBounds_toArray, List.set_cons_zero, List.set_cons_succ]
      refine wpAnyH_take (i := 2) (oi := { dst := some 27, op := Op.fieldAddr 36 (Operand.tmp 3) 1, type := 0, pos := "state.go:96", after := #[], guard := none }) (v := ?_) rfl (by kernel_rfl) (by kernel_rfl) (by kernel_rfl) (fun _ _ _ h => h) (Or.inl ⟨by rfl, ?_⟩) (by first | exact hHeld | assumption) ?_
      rotate_left 1
      · intro w hSw; (try dsimp only at hSw); go_simp; try (with_reducible rfl)
      try simp only [Act.put, List.setIfInBounds_toArray, List.set_cons_zero, List.set_cons_succ]
      refine wpAnyH_take (i := 3) (oi := { dst := some 28, op := Op.indexAddr 34 (Operand.tmp 27) (Operand.tmp 26), type := 0, pos := "state.go:96", after := #[{ on := 2, ground := Ground.data }, { on := 1, ground := Ground.data }], guard := none }) (v := ?_) rfl (by kernel_rfl) (by kernel_rfl) (by kernel_rfl) (fun _ _ _ h => h) (Or.inl ⟨by rfl, ?_⟩) (by first | exact hHeld | assumption) ?_
      rotate_left 1
      · intro w hSw; (try dsimp only at hSw); go_simp; try (with_reducible rfl)
      try simp only [Act.put, List.setIfInBounds_toArray, List.set_cons_zero, List.set_cons_succ]
      refine wpAnyH_take (i := 4) (oi := { dst := some 29, op := Op.fieldAddr 33 (Operand.tmp 28) 1, type := 0, pos := "state.go:96", after := #[{ on := 3, ground := Ground.data }], guard := none }) (v := ?_) rfl (by kernel_rfl) (by kernel_rfl) (by kernel_rfl) (fun _ _ _ h => h) (Or.inl ⟨by rfl, ?_⟩) (by first | exact hHeld | assumption) ?_
      rotate_left 1
      · intro w hSw; (try dsimp only at hSw); go_simp; try (with_reducible rfl)
      try simp only [Act.put, List.setIfInBounds_toArray, List.set_cons_zero, List.set_cons_succ]
      refine wpAnyH_take (i := 5) (oi := { dst := some 30, op := Op.load 5 (Operand.tmp 29), type := 5, pos := "state.go:96", after := #[{ on := 4, ground := Ground.data }], guard := none }) (v := ?_) rfl (by kernel_rfl) (by kernel_rfl) (by kernel_rfl) (fun _ _ _ h => h) (Or.inl ⟨by rfl, ?_⟩) (by first | exact hHeld | assumption) ?_
      rotate_left 1
      · intro w hSw; (try dsimp only at hSw); go_simp; try (with_reducible rfl)
      try simp only [Act.put, List.setIfInBounds_toArray, List.set_cons_zero, List.set_cons_succ]
      refine wpAnyH_take (i := 6) (oi := { dst := some 31, op := Op.move (Operand.tmp 8), type := 3, pos := "state.go:96", after := #[], guard := none }) (v := ?_) rfl (by kernel_rfl) (by kernel_rfl) (by kernel_rfl) (fun _ _ _ h => h) (Or.inl ⟨by rfl, ?_⟩) (by first | exact hHeld | assumption) ?_
      rotate_left 1
      · intro w hSw; (try dsimp only at hSw); go_simp; try (with_reducible rfl)
      try simp only [Act.put, List.setIfInBounds_toArray, List.set_cons_zero, List.set_cons_succ]
      refine wpAnyH_ready (rs := [7]) (by kernel_rfl) (by simp) ?_
      refine AllReadyH.cons (o := { dst := some 32, op := Op.call { callee := Callee.value (Operand.func 37), args := #[Operand.tmp 31, Operand.const (Value.int IntKind.i64 1)], argTypes := #[3, 3] }, type := 5, pos := "state.go:96", after := #[{ on := 6, ground := Ground.data }], guard := none }) rfl (fun K hK => ?_) AllReadyH.nil
      · skip
        go_simp
        refine (PB.out _).mono ?_; rintro e w6 ⟨rfl, b6⟩
        replace XE := Lib.hid (XE.out.after b6)
        clear b6 PB
        go_wp2_with fail
        refine hK.out _ _ (slot_cells XE.out.1 hq2.out).2.2.2.2.2.2.2 (fun hHeld => ?_)
        clear hK K
        try simp only [Act.put, List.setIfInBounds_toArray, List.set_cons_zero, List.set_cons_succ]
        refine wpAnyH_ready (rs := [8]) (by kernel_rfl) (by simp) ?_
        refine AllReadyH.cons (o := { dst := some 33, op := Op.call { callee := Callee.value (Operand.func 41), args := #[Operand.tmp 30, Operand.tmp 32], argTypes := #[5, 5] }, type := 4, pos := "state.go:96", after := #[{ on := 5, ground := Ground.data }, { on := 7, ground := Ground.data }, { on := 7, ground := Ground.chain }], guard := none }) rfl (fun K hK => ?_) AllReadyH.nil
        · skip
          go_simp
          refine (HA.out _).mono ?_; rintro e w7 ⟨rfl, b7⟩
          replace XE := Lib.hid (XE.out.after b7)
          clear b7 HA
          go_wp2_with fail
          refine hK.out _ _ (slot_cells XE.out.1 hq2.out).2.2.2.2.2.2.2 (fun hHeld => ?_)
          clear hK K
          try simp only [Act.put, List.setIfInBounds_toArray, List.set_cons_zero, List.set_cons_succ]
          refine wpAnyH_take (i := 9) (oi := { dst := some 34, op := Op.unOp UnOp.not 4 (Operand.tmp 33), type := 4, pos := "state.go:96", after := #[{ on := 8, ground := Ground.data }], guard := none }) (v := ?_) rfl (by kernel_rfl) (by kernel_rfl) (by kernel_rfl) (fun _ _ _ h => h) (Or.inl ⟨by rfl, ?_⟩) (by first | exact hHeld | assumption) ?_
          rotate_left 1
          · intro w hSw; (try dsimp only at hSw); go_simp; try (with_reducible rfl)
          try simp only [Act.put, List.setIfInBounds_toArray, List.set_cons_zero, List.set_cons_succ]
          refine wpAnyH_done (by kernel_rfl) ?_ _
          clear hHeld
          cases hv : pAt x (o + j)
          · have Y := NJ.out hv
            subst Y
            clear hv
            go_wp2_with fail
            go_ret
            exact ⟨rfl, XE.out.2⟩
          · have VN : Hid (∀ t : Nat, t < j + 1 → pAt x (o + t) = true) := Lib.hid fun t ht => by
              by_cases e : t = j
              · subst e; exact hv
              · exact VT.out t (by omega)
            clear hv NJ
            go_wp2_with fail
            go_round
            case rel => exact ⟨j + 1, by go_num, by omega, Lib.hid ⟨XE.out, VN.out⟩⟩
            case measure => simp [intOf]; omega
    · have hj2 : j = n := by omega
      subst hj2
      have Y := YES.out V.out.2
      subst Y
      go_wp2_with fail
      go_ret
      exact ⟨rfl, V.out.1.2⟩
theorem there_no {off size : Int} (h : there off size = false) : off < 0 ∨ (0 ≤ off ∧ size < 0) ∨ (0 ≤ off ∧ 0 ≤ size ∧ 512 < size) ∨ (0 ≤ off ∧ 0 ≤ size ∧ size ≤ 512 ∧ 512 - size < off) := by
  by_cases h1 : off < 0
  · exact .inl h1
  · by_cases h2 : size < 0
    · exact .inr (.inl ⟨by omega, h2⟩)
    · by_cases h3 : 512 < size
      · exact .inr (.inr (.inl ⟨by omega, by omega, h3⟩))
      · refine .inr (.inr (.inr ⟨by omega, by omega, by omega, ?_⟩))
        rcases int_lt_or (512 - size) off with h4 | h4
        · exact h4
        · exact absurd (there_iff.mpr ⟨by omega, by omega, h4⟩) (by rw [h]; exact Bool.false_ne_true)
set_option maxHeartbeats 8000000 in
theorem sr_Full (x : St) (off size : Int) (w : World) (hx : stIn x) : Calls Try.prog 24 #[stV x, .int .i64 off, .int .i64 size] w (Gives (.bool (full x off size)) w) := by
  have RA := Lib.hid fun w => sr_right x w hx
  have X0 := Lib.hid (StOne.new x w)
  cases hra : stR x
  · rw [full_no hra]
    rw [hra] at RA
    clear hra
    go_enter Try.func24, Try.ntmps24
    go_wp2_with (first | (refine st_load rfl _ rfl rfl X0.out.1 ?_) | fail)
    refine (RA.out _).mono ?_; rintro e w1 ⟨rfl, b1⟩
    have X1 := Lib.hid (X0.out.after b1)
    clear X0 b1
    go_wp2_with fail
    go_ret
    exact ⟨rfl, X1.out.2⟩
  cases hth : there off size
  · rw [full_out hth]
    rw [hra] at RA
    have hc := there_no hth
    clear hra hth
    rcases hc with k1 | ⟨k1, k2⟩ | ⟨k1, k2, k3⟩ | ⟨k1, k2, k3, k4⟩
    · skip
      go_enter Try.func24, Try.ntmps24
      go_wp2_with (first | (refine st_load rfl _ rfl rfl X0.out.1 ?_) | fail)
      refine (RA.out _).mono ?_; rintro e w1 ⟨rfl, b1⟩
      have X1 := Lib.hid (X0.out.after b1)
      clear X0 b1
      go_wp2_with fail
      go_ret
      exact ⟨rfl, X1.out.2⟩
    · have k3 : ¬ off < 0 := by omega
      go_enter Try.func24, Try.ntmps24
      go_wp2_with (first | (refine st_load rfl _ rfl rfl X0.out.1 ?_) | fail)
      refine (RA.out _).mono ?_; rintro e w1 ⟨rfl, b1⟩
      have X1 := Lib.hid (X0.out.after b1)
      clear X0 b1
      go_wp2_with fail
      go_ret
      exact ⟨rfl, X1.out.2⟩
    · have k4 : ¬ off < 0 := by omega
      have k5 : ¬ size < 0 := by omega
      go_enter Try.func24, Try.ntmps24
      go_wp2_with (first | (refine st_load rfl _ rfl rfl X0.out.1 ?_) | fail)
      refine (RA.out _).mono ?_; rintro e w1 ⟨rfl, b1⟩
      have X1 := Lib.hid (X0.out.after b1)
      clear X0 b1
      go_wp2_with fail
      go_ret
      exact ⟨rfl, X1.out.2⟩
    · have k5 : ¬ off < 0 := by omega
      have k6 : ¬ size < 0 := by omega
      have k7 : ¬ 512 < size := by omega
      have hw : IntKind.i64.wrap (512 - size) = 512 - size := by rw [IntKind.wrap_i64]; omega
      go_enter Try.func24, Try.ntmps24
      go_wp2_with (first | (refine st_load rfl _ rfl rfl X0.out.1 ?_) | fail)
      refine (RA.out _).mono ?_; rintro e w1 ⟨rfl, b1⟩
      have X1 := Lib.hid (X0.out.after b1)
      clear X0 b1
      go_wp2_with fail
      go_ret
      exact ⟨rfl, X1.out.2⟩
  obtain ⟨t1, t2, t3⟩ := there_iff.mp hth
  obtain ⟨o, rfl⟩ : ∃ o : Nat, off = (o : Int) := ⟨off.toNat, by omega⟩
  obtain ⟨n, rfl⟩ : ∃ n : Nat, size = (n : Int) := ⟨size.toNat, by omega⟩
  have YES := Lib.hid (full_yes (x := x) (o := o) (n := n) hra hth)
  rw [hra] at RA
  have hon : Hid (o + n ≤ 512) := Lib.hid (by omega)
  have NO := Lib.hid fun (j : Nat) (hj : j < n) (h : pAt x (o + j) = false) => full_miss (x := x) hj h
  have PT := Lib.hid fun (j : Nat) (hj : o + j < 512) w => sr_put x (o + j) hj w
  generalize full x (o : Int) (n : Int) = R at *
  have k5 : ¬ (o : Int) < 0 := by omega
  have k6 : ¬ (n : Int) < 0 := by omega
  have k7 : ¬ 512 < (n : Int) := by omega
  have k8 : ¬ 512 - (n : Int) < (o : Int) := by omega
  have hw : IntKind.i64.wrap (512 - (n : Int)) = 512 - (n : Int) := by rw [IntKind.wrap_i64]; omega
  have hw2 : IntKind.i64.wrap ((o : Int) + (n : Int)) = (o : Int) + (n : Int) := by rw [IntKind.wrap_i64]; omega
  clear hra hth t1 t2
  go_enter Try.func24, Try.ntmps24
  go_wp2_with (first | (refine st_load rfl _ rfl rfl X0.out.1 ?_) | fail)
  refine (RA.out _).mono ?_; rintro e w1 ⟨rfl, b1⟩
  have X1 := Lib.hid (X0.out.after b1)
  clear X0 b1
  go_wp2_with fail
  go_loopw [7] (fun iv wr => ∃ a : Nat, iv = .int .i64 a ∧ o ≤ a ∧ a ≤ o + n ∧ Hid (StOne x w wr ∧ ∀ t : Nat, o + t < a → pAt x (o + t) = true)) (fun iv wr => o + n - (intOf iv).toNat)
  case atStart => exact ⟨o, rfl, by omega, by omega, Lib.hid ⟨X1.out, fun t ht => by omega⟩⟩
  case round =>
    obtain ⟨a, rfl, ha1, ha2, V⟩ := hrel
    have a0 : (0 : Int) ≤ (a : Int) := by omega
    by_cases hlt : (a : Int) < (o : Int) + (n : Int)
    · obtain ⟨j, hj⟩ : ∃ j : Nat, a = o + j := ⟨a - o, by omega⟩
      have PJ := PT.out j (by have := hon.out; omega)
      have NJ := Lib.hid (NO.out j (by omega))
      have VT := Lib.hid V.out.2
      have XE := Lib.hid V.out.1
      rw [← hj] at PJ
      rw [← hj] at NJ
      replace PJ := Lib.hid PJ
      replace hj := Lib.hid hj
      have hab : (a : Int) < 512 := by have := hon.out; omega
      clear V PT NO
      go_wp2_with (first | (refine st_load rfl _ rfl rfl XE.out.1 ?_) | fail)
      refine (PJ.out _).mono ?_; rintro e w7 ⟨rfl, b7⟩
      replace XE := Lib.hid (XE.out.after b7)
      clear b7 PJ
      cases hv : pAt x a
      · have Y := NJ.out hv
        subst Y
        clear hv
        go_wp2_with fail
        go_ret
        exact ⟨rfl, XE.out.2⟩
      · have VN : Hid (∀ t : Nat, o + t < a + 1 → pAt x (o + t) = true) := Lib.hid fun t ht => by
          by_cases e : o + t = a
          · rw [e]; exact hv
          · exact VT.out t (by omega)
        clear hv NJ
        go_wp2_with fail
        go_round
        case rel => exact ⟨a + 1, by go_num, by omega, by omega, Lib.hid ⟨XE.out, VN.out⟩⟩
        case measure => simp [intOf]; omega
    · have Y := YES.out fun t ht => V.out.2 t (by omega)
      subst Y
      go_wp2_with fail
      go_ret
      exact ⟨rfl, V.out.1.2⟩

end Go.Proofs.Ytdgckjkdimnpoaa
