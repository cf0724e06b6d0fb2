/-
  The statement TableNumbers: for all numbers, the law returns true, and its arguments read as they did.
  Conditions: none beyond the row's own.
-/
import Derived.Test.YtnnmcfklmmpdaaaNumA
import Derived.Deep.DeepCutAuto

/-
  P9.1, P9.2: a numbered map has a value of each number below Max: the walk of the statement TableNumbers.
  Conditions: none beyond the row's own.
-/
namespace Go.Proofs.Ytnnmcfklmmpdaaa
open Go.RowKit
set_option maxRecDepth 100000
set_option linter.unusedVariables false
set_option linter.unusedSimpArgs false

def nD (V m : Nat) : Df := ⟨false, 4, V, m⟩
theorem nD_new {V m : Nat} (hV : V = 8 ∨ V = 16 ∨ V = 24 ∨ V = 32 ∨ V = 40 ∨ V = 48 ∨ V = 56 ∨ V = 64) (hm : 1 ≤ m ∧ m ≤ 16) : ∃ M, tNew [] [nD V m] = (M, some [⟨nD V m, numL m, m⟩]) ∧ InvN [⟨nD V m, numL m, m⟩] M ∧ M.length ≤ 128 := by
  have hg : (nD V m).good = true := by
    unfold nD Df.good
    simp only [Bool.and_eq_true, decide_eq_true_eq]
    rcases hV with rfl | rfl | rfl | rfl | rfl | rfl | rfl | rfl <;> (refine ⟨⟨⟨⟨⟨?_, ?_⟩, ?_⟩, ?_⟩, ?_⟩, ?_⟩ <;> first | rfl | omega)
  have hr : tRight [nD V m] = true := by
    unfold tRight
    simp [hg]
  obtain ⟨M, h1, h2⟩ := new_ok hr
  have e : newT [nD V m] = [⟨nD V m, numL m, m⟩] := by
    have : nums (nD V m) = m := by unfold nums nD; simp
    simp [newT, this]
  rw [e] at h1 h2
  have h3 := new_len hr
  rw [h1] at h3
  exact ⟨M, h1, h2, h3⟩

/-- The items of a numbered map, at first. -/
def nIt (V m : Nat) : List It := (List.range m).map fun (j : Nat) => ([(j : Int), 0, 0, 0], List.replicate V 0)
theorem nD_items {V m : Nat} {M : PM} (h : InvN [⟨nD V m, numL m, m⟩] M) : tItems [⟨nD V m, numL m, m⟩] M 0 = nIt V m := by
  unfold tItems nIt
  rw [if_pos (by simp)]
  show (numL m).map (fun x => (x.k, (pArea M (tArea 0 x.s)).1)) = _
  unfold numL
  rw [List.map_map]
  refine List.map_congr_left fun j hj => ?_
  have h1 := h.zero 0 (by simp) j (by simpa [mt] using hj)
  simp only [Function.comp]
  rw [area_gA, show (tArea (0 : Int) (j : Int)) = tArea ((0 : Nat) : Int) (j : Int) from rfl, h1]
  rfl
theorem nD_find {m k : Nat} : tFind (numL m) [(k : Int), 0, 0, 0] = if k < m then some k else none := by
  induction m with
  | zero => rfl
  | succ m ih =>
    unfold tFind at *
    rw [numL_succ, List.find?_append, Option.map_or, ih]
    by_cases h : k < m
    · rw [if_pos h, if_pos (by omega)]; rfl
    · rw [if_neg h]
      by_cases e : k = m
      · subst e; rw [if_pos (by omega)]; simp [numK]
      · rw [if_neg (by omega)]
        have : ¬ (m : Int) = (k : Int) := by omega
        simp [numK, this]
theorem nD_look {V m : Nat} {k : Nat} : tLook [⟨nD V m, numL m, m⟩] 0 [(k : Int), 0, 0, 0] = if k < m then (atI (tArea 0 k) 0, 0) else (0, 0) := by
  unfold tLook
  have hm : tMay [(⟨nD V m, numL m, m⟩ : TM)] 0 [(k : Int), 0, 0, 0] = true := rfl
  rw [hm, if_pos rfl]
  have hf : tFind (mt [(⟨nD V m, numL m, m⟩ : TM)] (0 : Int).toNat).L [(k : Int), 0, 0, 0] = if k < m then some k else none := nD_find
  rw [hf]
  by_cases h : k < m
  · rw [if_pos h, if_pos h]
  · rw [if_neg h, if_neg h]
theorem nD_put {V m : Nat} {k : Nat} {M : PM} {v : List Int} (hv : v.length = V) : tPut [⟨nD V m, numL m, m⟩] M 0 [(k : Int), 0, 0, 0] v 0 = if k < m then ⟨[⟨nD V m, numL m, m⟩], tFill M 0 k 0 v, 0, 0⟩ else ⟨[⟨nD V m, numL m, m⟩], M, 18446744073709551609, 0⟩ := by
  unfold tPut
  have hm : tMay [(⟨nD V m, numL m, m⟩ : TM)] 0 [(k : Int), 0, 0, 0] = true := rfl
  have hl : ((v.length : Int) == (mt [(⟨nD V m, numL m, m⟩ : TM)] (0 : Int).toNat).d.val) = true := by
    rw [hv]
    show ((V : Int) == (V : Int)) = true
    simp
  rw [hm, hl]
  simp only [Bool.and_self, if_true]
  rw [if_neg (by omega)]
  have hf : tFind (mt [(⟨nD V m, numL m, m⟩ : TM)] (0 : Int).toNat).L [(k : Int), 0, 0, 0] = if k < m then some k else none := nD_find
  rw [hf]
  by_cases h : k < m
  · rw [if_pos h, if_pos h]
    simp only
    rw [if_neg (by omega)]
  · rw [if_neg h, if_neg h]
    rfl
theorem nD_drop {V m : Nat} {k : Nat} : tDrop [⟨nD V m, numL m, m⟩] 0 [(k : Int), 0, 0, 0] = ([⟨nD V m, numL m, m⟩], 18446744073709551594, 0) := rfl
theorem nD_items2 {V m k : Nat} {n : Int} {M : PM} (hn : 0 ≤ n ∧ n ≤ 255) (h : InvN [⟨nD V m, numL m, m⟩] M) (hV : V ≤ 64) (hk : k < m) (hm : m ≤ 16) : (tItems [⟨nD V m, numL m, m⟩] (tFill M 0 k 0 (List.replicate V n)) 0).length = m ∧ iAt (tItems [⟨nD V m, numL m, m⟩] (tFill M 0 k 0 (List.replicate V n)) 0) k = ([(k : Int), 0, 0, 0], List.replicate V n) := by
  have e : tItems [⟨nD V m, numL m, m⟩] (tFill M 0 k 0 (List.replicate V n)) 0 = (numL m).map (fun x => (x.k, (pArea (tFill M 0 k 0 (List.replicate V n)) (tArea 0 x.s)).1)) := by
    unfold tItems
    rw [if_pos (by simp)]
    rfl
  rw [e]
  refine ⟨by rw [List.length_map, numL_len], ?_⟩
  unfold iAt numL
  rw [List.map_map, List.getD_eq_getElem?_getD, List.getElem?_map, List.getElem?_range hk]
  simp only [Option.map_some, Option.getD_some, Function.comp]
  have h1 := h.zero 0 (by simp) k (by simpa [mt] using hk)
  have h2 := gA_fill (i := 0) (s := k) (by omega) (by omega) (List.replicate V n) M _ 0 (okB_rep V hn) h1 (by simp [mt, nD]) (by simp [mt, nD]; omega) rfl
  have h3 : pArea (tFill M 0 k 0 (List.replicate V n)) (tArea 0 k) = (List.replicate V n, true) := by
    rw [area_gA]
    rw [show (tArea (0 : Int) (k : Int)) = tArea ((0 : Nat) : Int) (k : Int) from rfl]
    have h4 : gA (tFill M 0 k 0 (List.replicate V n)) (tArea ((0 : Nat) : Int) (k : Int)) = _ := h2
    rw [h4]
    simp only
    rw [putN_all (by simp [mt, nD])]
  rw [h3]

theorem fill_step {V j : Nat} {n : Int} (hj : j < V) : ((byC (List.replicate j n ++ List.replicate (V - j) 0)).toArray).setIfInBounds j (.int .u8 n) = (byC (List.replicate (j + 1) n ++ List.replicate (V - (j + 1)) 0)).toArray := by
  rw [List.setIfInBounds_toArray, byC_set, List.set_append_right _ _ (by simp), List.length_replicate, Nat.sub_self]
  obtain ⟨q, hq⟩ : ∃ q, V - j = q + 1 := ⟨V - j - 1, by omega⟩
  rw [hq, show V - (j + 1) = q by omega, List.replicate_succ, List.set_cons_zero, List.replicate_succ', List.append_assoc]
  rfl
theorem fill_at {V j : Nat} {n : Int} (hj : j < V) : ((byC (List.replicate j n ++ List.replicate (V - j) 0)).toArray)[j]? = some (.int .u8 0) := by
  rw [List.getElem?_toArray, byC_at _ (by simp; omega)]
  congr 2
  unfold bAt
  rw [List.getD_eq_getElem?_getD, List.getElem?_append_right (by simp), List.length_replicate, Nat.sub_self, List.getElem?_replicate, if_pos (by omega)]
  rfl
theorem wrapN (k : Nat) (h : (k : Int) ≤ 255) : IntKind.i64.wrap (k : Int) = (k : Int) := by rw [IntKind.wrap_i64]; omega
theorem blk_byt {u : World} {g : Nat} {b : List Int} (h : Blk g (byC b).toArray 5 u) : BytS u (some ⟨g, 0, none⟩) b := fun _ => ⟨g, 0, rfl, h.lt, fun k hk => by rw [h.cell, Nat.zero_add, List.getElem?_toArray, byC_at _ hk]⟩

set_option maxHeartbeats 8000000 in
theorem l9_TableNumbers (size most k n : Int) (w : World) (hs : 0 ≤ size ∧ size ≤ 255) (ho : 0 ≤ most ∧ most ≤ 255) (hk : 0 ≤ k ∧ k ≤ 255) (hn : 0 ≤ n ∧ n ≤ 255) : Calls Try.prog 5 #[.int .u8 size, .int .u8 most, .int .u8 k, .int .u8 n] w (Fine w) := by
  have SH := Lib.hid l9_shown
  obtain ⟨kn, rfl⟩ : ∃ kn : Nat, k = kn := ⟨k.toNat, by omega⟩
  obtain ⟨V, hV⟩ : ∃ V : Nat, 8 * (1 + size % 8) = V := ⟨(8 * (1 + size % 8)).toNat, by omega⟩
  obtain ⟨m, hm⟩ : ∃ m : Nat, 1 + most % 16 = m := ⟨(1 + most % 16).toNat, by omega⟩
  have hV8 : V = 8 ∨ V = 16 ∨ V = 24 ∨ V = 32 ∨ V = 40 ∨ V = 48 ∨ V = 56 ∨ V = 64 := by omega
  have hm16 : 1 ≤ m ∧ m ≤ 16 := by omega
  obtain ⟨M1, hnew, hI, hML⟩ := nD_new hV8 hm16
  have HML := Lib.hid hML
  have HI := Lib.hid hI
  have MEM := Lib.hid fun u => lt_Mem (law_start u)
  have NW : Hid (∀ (w0 u u' : World) (g : Nat) (C : Option Addr), Law w0 (sysM g []) sysO [] u → Below u.heap.size u u' → DefS u' C [nD V m] → (∀ g o, C = some ⟨g, o, none⟩ → g < w0.heap.size ∨ u.heap.size ≤ g) → Calls Try.prog 10 #[.pointer (some ⟨g, 0, none⟩), .slice C 1 1] u' (fun e w' => ∃ gt, e = .returned (.tuple #[.pointer (some ⟨gt, 0, none⟩), .int .i64 0]) ∧ Law w0 (sysT gt g [⟨nD V m, numL m, m⟩] M1) sysO [] w')) := Lib.hid fun w0 u u' g C h b hl hs => by
    have h1 := lt_New [nD V m] C 1 1 h b hl hs rfl (Nat.le_refl _) (by unfold maxLen; omega) (by simp)
    rw [hnew] at h1
    exact h1
  have hs1 : size.tmod 8 = size % 8 := Int.tmod_eq_emod_of_nonneg hs.1
  have ho1 : most.tmod 16 = most % 16 := Int.tmod_eq_emod_of_nonneg ho.1
  have HK8 := Lib.hid hV8
  clear hI hnew hV8 hML
  go_enter Try.func5, Try.ntmps5
  go_wp2_with fail
  refine (SH.out _).mono ?_
  rintro e w1 ⟨rfl, b1⟩
  have V1 := Lib.hid b1
  clear b1 SH
  go_upto_region 3 with fail
  have VD : Hid (Below w.heap.size w (w1.alloc (.cells #[.bool false, .int .i64 4, .int .i64 (V : Int), .int .i64 (m : Int)] 53))) := Lib.hid (below_alloc V1.out _)
  have BD : Hid (Blk w1.heap.size #[.bool false, .int .i64 4, .int .i64 (V : Int), .int .i64 (m : Int)] 53 (w1.alloc (.cells #[.bool false, .int .i64 4, .int .i64 (V : Int), .int .i64 (m : Int)] 53))) := Lib.hid (Blk.new w1 _ _ rfl)
  generalize w1.alloc (.cells #[.bool false, .int .i64 4, .int .i64 (V : Int), .int .i64 (m : Int)] 53) = wA at *
  generalize w1.heap.size = ρ at *
  clear V1
  go_cut [11, 12] (fun s1 s2 wx => ∃ (gt g : Nat) (w0 : World), s1 = .pointer (some ⟨gt, 0, none⟩) ∧ s2 = .int .i64 0 ∧ Hid (Law w0 (sysT gt g [⟨nD V m, numL m, m⟩] M1) sysO [] wx) ∧ Hid (Below w.heap.size w w0) ∧ Hid (Blk ρ #[.bool false, .int .i64 4, .int .i64 (V : Int), .int .i64 (m : Int)] 53 w0))
  case first =>
    replace VD := Lib.hid VD.out.drew
    replace BD := Lib.hid (show Blk ρ #[.bool false, .int .i64 4, .int .i64 (V : Int), .int .i64 (m : Int)] 53 wA.drew from BD.out)
    have SD : Hid (∀ u, Below wA.drew.heap.size wA.drew u → u.cell? ⟨ρ, 0, none⟩ = some (.bool false) ∧ u.cell? ⟨ρ, 1, none⟩ = some (.int .i64 4) ∧ u.cell? ⟨ρ, 2, none⟩ = some (.int .i64 (V : Int)) ∧ u.cell? ⟨ρ, 3, none⟩ = some (.int .i64 (m : Int))) := Lib.hid fun u b => ⟨Blk.cell (BD.out.after b) 0, Blk.cell (BD.out.after b) 1, Blk.cell (BD.out.after b) 2, Blk.cell (BD.out.after b) 3⟩
    have nDe : nD V m = ⟨false, 4, V, m⟩ := rfl
    rw [nDe] at NW
    clear nDe
    refine wp_region_held_drew (S := fun w' => w'.cell? ⟨ρ, 0, none⟩ = some (.bool false) ∧ w'.cell? ⟨ρ, 1, none⟩ = some (.int .i64 4) ∧ w'.cell? ⟨ρ, 2, none⟩ = some (.int .i64 (V : Int)) ∧ w'.cell? ⟨ρ, 3, none⟩ = some (.int .i64 (m : Int))) (by kernel_rfl) (SD.out _ (Below.refl _ _)) (fun hHeld => ?_)
    generalize wA.drew = wd at *
    refine wpAnyH_take (i := 1) (oi := { dst := some 38, op := Op.load 53 (Operand.tmp 10), type := 53, pos := "law.go:150", after := #[], guard := none }) (v := ?_) rfl (by kernel_rfl) (by kernel_rfl) (by kernel_rfl) (fun _ _ _ h => h) (Or.inl ⟨by rfl, ?_⟩) (by first | exact hHeld | assumption) ?_
    rotate_left 1
    · intro w hSw; (try dsimp only at hSw); go_simp; try (with_reducible rfl)
    try simp only [Act.put, List.setIfInBounds_toArray, List.set_cons_zero, List.set_cons_succ]
    refine wpAnyH_ready (rs := [0, 2]) (by kernel_rfl) (by simp) ?_
    refine AllReadyH.cons (o := { dst := some 37, op := Op.call { callee := Callee.value (Operand.func 9), args := #[], argTypes := #[] }, type := 25, pos := "law.go:150", after := #[], guard := none }) rfl (fun K hK => ?_) (AllReadyH.cons (o := { dst := some 39, op := Op.buildSlice 22 1 #[(0, Operand.tmp 38)], type := 22, pos := "law.go:150", after := #[{ on := 1, ground := Ground.data }], guard := none }) rfl (fun K hK => ?_) AllReadyH.nil)
    · skip
      go_simp
      refine (MEM.out wd).mono ?_; rintro e u1 ⟨g, rfl, q1⟩
      have Q1 := Lib.hid q1
      clear q1 hHeld
      have hHeld := SD.out u1 (Q1.out.below)
      go_wp2_with fail
      refine hK.out _ _ hHeld (fun hHeld => ?_)
      clear hK K
      try simp only [Act.put, List.setIfInBounds_toArray, List.set_cons_zero, List.set_cons_succ]
      refine wpAnyH_ready (rs := [2]) (by kernel_rfl) (by simp) ?_
      refine AllReadyH.cons (o := { dst := some 39, op := Op.buildSlice 22 1 #[(0, Operand.tmp 38)], type := 22, pos := "law.go:150", after := #[{ on := 1, ground := Ground.data }], guard := none }) rfl (fun K hK => ?_) AllReadyH.nil
      · skip
        have hH2 := SD.out (u1.alloc (.cells #[.bool false, .int .i64 4, .int .i64 (V : Int), .int .i64 (m : Int)] 53)) (below_next' Q1.out.below (below_alloc (Below.refl _ _) _))
        go_simp
        refine hK.out _ _ hH2 (fun hHeld => ?_)
        clear hK K
        try simp only [Act.put, List.setIfInBounds_toArray, List.set_cons_zero, List.set_cons_succ]
        refine wpAnyH_ready (rs := [3]) (by kernel_rfl) (by simp) ?_
        refine AllReadyH.cons (o := { dst := some 40, op := Op.call { callee := Callee.value (Operand.func 10), args := #[Operand.tmp 37, Operand.tmp 39], argTypes := #[25, 22] }, type := 33, pos := "law.go:150", after := #[{ on := 0, ground := Ground.data }, { on := 2, ground := Ground.data }, { on := 0, ground := Ground.chain }], guard := none }) rfl (fun K hK => ?_) AllReadyH.nil
        · skip
          go_simp
          have NX := Lib.hid (NW.out wd u1 (u1.alloc (.cells #[.bool false, .int .i64 4, .int .i64 (V : Int), .int .i64 (m : Int)] 53)) g (some ⟨u1.heap.size, 0, none⟩) Q1.out (below_alloc (Below.refl _ _) _) (defS_one (Blk.new u1 _ _ rfl)) (fun g o e => by cases e; exact .inr (Nat.le_refl _)))
          refine (NX.out).mono ?_; rintro e u3 ⟨gt, rfl, q3⟩
          have Q3 := Lib.hid q3
          have BW : Hid (Below wd.heap.size wd wd) := Lib.hid (Below.refl _ _)
          clear q3 hHeld NX
          have hHeld := SD.out u3 (below_next' BW.out Q3.out.below)
          go_wp2_with fail
          refine hK.out _ _ hHeld (fun hHeld => ?_)
          clear hK K
          try simp only [Act.put, List.setIfInBounds_toArray, List.set_cons_zero, List.set_cons_succ]
          refine wpAnyH_take (i := 4) (oi := { dst := some 36, op := Op.move (Operand.tmp 40), type := 33, pos := "law.go:150", after := #[{ on := 3, ground := Ground.data }], guard := none }) (v := ?_) rfl (by kernel_rfl) (by kernel_rfl) (by kernel_rfl) (fun _ _ _ h => h) (Or.inl ⟨by rfl, ?_⟩) (by first | exact hHeld | assumption) ?_
          rotate_left 1
          · intro w hSw; (try dsimp only at hSw); go_simp; try (with_reducible rfl)
          try simp only [Act.put, List.setIfInBounds_toArray, List.set_cons_zero, List.set_cons_succ]
          refine wpAnyH_take (i := 5) (oi := { dst := some 41, op := Op.extract (Operand.tmp 36) 0, type := 31, pos := "law.go:150", after := #[{ on := 4, ground := Ground.data }], guard := none }) (v := ?_) rfl (by kernel_rfl) (by kernel_rfl) (by kernel_rfl) (fun _ _ _ h => h) (Or.inl ⟨by rfl, ?_⟩) (by first | exact hHeld | assumption) ?_
          rotate_left 1
          · intro w hSw; (try dsimp only at hSw); go_simp; try (with_reducible rfl)
          try simp only [Act.put, List.setIfInBounds_toArray, List.set_cons_zero, List.set_cons_succ]
          refine wpAnyH_take (i := 6) (oi := { dst := some 42, op := Op.extract (Operand.tmp 36) 1, type := 32, pos := "law.go:150", after := #[{ on := 4, ground := Ground.data }, { on := 7, ground := Ground.gcOnly Departure.lateStores }], guard := none }) (v := ?_) rfl (by kernel_rfl) (by kernel_rfl) (by kernel_rfl) (fun _ _ _ h => h) (Or.inl ⟨by rfl, ?_⟩) (by first | exact hHeld | assumption) ?_
          rotate_left 1
          · intro w hSw; (try dsimp only at hSw); go_simp; try (with_reducible rfl)
          try simp only [Act.put, List.setIfInBounds_toArray, List.set_cons_zero, List.set_cons_succ]
          refine wpAnyH_take (i := 7) (oi := { dst := some 11, op := Op.assign (Operand.tmp 41), type := 31, pos := "law.go:150", after := #[{ on := 5, ground := Ground.data }, { on := 3, ground := Ground.chain }, { on := 0, ground := Ground.phase }, { on := 1, ground := Ground.phase }, { on := 2, ground := Ground.phase }, { on := 3, ground := Ground.phase }, { on := 4, ground := Ground.phase }, { on := 5, ground := Ground.phase }, { on := 6, ground := Ground.textOnly Departure.lateStores }], guard := none }) (v := ?_) rfl (by kernel_rfl) (by kernel_rfl) (by kernel_rfl) (fun _ _ _ h => h) (Or.inl ⟨by rfl, ?_⟩) (by first | exact hHeld | assumption) ?_
          rotate_left 1
          · intro w hSw; (try dsimp only at hSw); go_simp; try (with_reducible rfl)
          try simp only [Act.put, List.setIfInBounds_toArray, List.set_cons_zero, List.set_cons_succ]
          refine wpAnyH_take (i := 8) (oi := { dst := some 12, op := Op.assign (Operand.tmp 42), type := 32, pos := "law.go:150", after := #[{ on := 6, ground := Ground.data }, { on := 7, ground := Ground.chain }, { on := 0, ground := Ground.phase }, { on := 1, ground := Ground.phase }, { on := 2, ground := Ground.phase }, { on := 3, ground := Ground.phase }, { on := 4, ground := Ground.phase }, { on := 5, ground := Ground.phase }, { on := 6, ground := Ground.phase }, { on := 7, ground := Ground.phase }], guard := none }) (v := ?_) rfl (by kernel_rfl) (by kernel_rfl) (by kernel_rfl) (fun _ _ _ h => h) (Or.inl ⟨by rfl, ?_⟩) (by first | exact hHeld | assumption) ?_
          rotate_left 1
          · intro w hSw; (try dsimp only at hSw); go_simp; try (with_reducible rfl)
          try simp only [Act.put, List.setIfInBounds_toArray, List.set_cons_zero, List.set_cons_succ]
          refine wpAnyH_done (by kernel_rfl) ?_ _
          clear hHeld
          go_wp2_with fail
          go_meet
          exact ⟨gt, g, _, rfl, rfl, Q3, Lib.hid (VD.out.trans (BW.out.mono VD.out.size)), Lib.hid (BD.out.below BW.out BD.out.lt)⟩
    · skip
      have hH2 := SD.out (wd.alloc (.cells #[.bool false, .int .i64 4, .int .i64 (V : Int), .int .i64 (m : Int)] 53)) (below_alloc (Below.refl _ _) _)
      go_simp
      refine hK.out _ _ hH2 (fun hHeld => ?_)
      clear hK K
      try simp only [Act.put, List.setIfInBounds_toArray, List.set_cons_zero, List.set_cons_succ]
      refine wpAnyH_ready (rs := [0]) (by kernel_rfl) (by simp) ?_
      refine AllReadyH.cons (o := { dst := some 37, op := Op.call { callee := Callee.value (Operand.func 9), args := #[], argTypes := #[] }, type := 25, pos := "law.go:150", after := #[], guard := none }) rfl (fun K hK => ?_) AllReadyH.nil
      · skip
        go_simp
        refine (MEM.out (wd.alloc (.cells #[.bool false, .int .i64 4, .int .i64 (V : Int), .int .i64 (m : Int)] 53))).mono ?_; rintro e u1 ⟨g, rfl, q1⟩
        have Q1 := Lib.hid q1
        clear q1 hHeld
        have hHeld := SD.out u1 (below_next' (below_alloc (Below.refl _ _) _) Q1.out.below)
        go_wp2_with fail
        refine hK.out _ _ hHeld (fun hHeld => ?_)
        clear hK K
        try simp only [Act.put, List.setIfInBounds_toArray, List.set_cons_zero, List.set_cons_succ]
        refine wpAnyH_ready (rs := [3]) (by kernel_rfl) (by simp) ?_
        refine AllReadyH.cons (o := { dst := some 40, op := Op.call { callee := Callee.value (Operand.func 10), args := #[Operand.tmp 37, Operand.tmp 39], argTypes := #[25, 22] }, type := 33, pos := "law.go:150", after := #[{ on := 0, ground := Ground.data }, { on := 2, ground := Ground.data }, { on := 0, ground := Ground.chain }], guard := none }) rfl (fun K hK => ?_) AllReadyH.nil
        · skip
          go_simp
          have NX := Lib.hid (NW.out (wd.alloc (.cells #[.bool false, .int .i64 4, .int .i64 (V : Int), .int .i64 (m : Int)] 53)) u1 u1 g (some ⟨wd.heap.size, 0, none⟩) Q1.out (Below.refl _ _) ((defS_one (Blk.new wd _ _ rfl)).after Q1.out.below) (fun g o e => by cases e; exact .inl (by simp)))
          refine (NX.out).mono ?_; rintro e u3 ⟨gt, rfl, q3⟩
          have Q3 := Lib.hid q3
          have BW : Hid (Below wd.heap.size wd (wd.alloc (.cells #[.bool false, .int .i64 4, .int .i64 (V : Int), .int .i64 (m : Int)] 53))) := Lib.hid (below_alloc (Below.refl _ _) _)
          clear q3 hHeld NX
          have hHeld := SD.out u3 (below_next' BW.out Q3.out.below)
          go_wp2_with fail
          refine hK.out _ _ hHeld (fun hHeld => ?_)
          clear hK K
          try simp only [Act.put, List.setIfInBounds_toArray, List.set_cons_zero, List.set_cons_succ]
          refine wpAnyH_take (i := 4) (oi := { dst := some 36, op := Op.move (Operand.tmp 40), type := 33, pos := "law.go:150", after := #[{ on := 3, ground := Ground.data }], guard := none }) (v := ?_) rfl (by kernel_rfl) (by kernel_rfl) (by kernel_rfl) (fun _ _ _ h => h) (Or.inl ⟨by rfl, ?_⟩) (by first | exact hHeld | assumption) ?_
          rotate_left 1
          · intro w hSw; (try dsimp only at hSw); go_simp; try (with_reducible rfl)
          try simp only [Act.put, List.setIfInBounds_toArray, List.set_cons_zero, List.set_cons_succ]
          refine wpAnyH_take (i := 5) (oi := { dst := some 41, op := Op.extract (Operand.tmp 36) 0, type := 31, pos := "law.go:150", after := #[{ on := 4, ground := Ground.data }], guard := none }) (v := ?_) rfl (by kernel_rfl) (by kernel_rfl) (by kernel_rfl) (fun _ _ _ h => h) (Or.inl ⟨by rfl, ?_⟩) (by first | exact hHeld | assumption) ?_
          rotate_left 1
          · intro w hSw; (try dsimp only at hSw); go_simp; try (with_reducible rfl)
          try simp only [Act.put, List.setIfInBounds_toArray, List.set_cons_zero, List.set_cons_succ]
          refine wpAnyH_take (i := 6) (oi := { dst := some 42, op := Op.extract (Operand.tmp 36) 1, type := 32, pos := "law.go:150", after := #[{ on := 4, ground := Ground.data }, { on := 7, ground := Ground.gcOnly Departure.lateStores }], guard := none }) (v := ?_) rfl (by kernel_rfl) (by kernel_rfl) (by kernel_rfl) (fun _ _ _ h => h) (Or.inl ⟨by rfl, ?_⟩) (by first | exact hHeld | assumption) ?_
          rotate_left 1
          · intro w hSw; (try dsimp only at hSw); go_simp; try (with_reducible rfl)
          try simp only [Act.put, List.setIfInBounds_toArray, List.set_cons_zero, List.set_cons_succ]
          refine wpAnyH_take (i := 7) (oi := { dst := some 11, op := Op.assign (Operand.tmp 41), type := 31, pos := "law.go:150", after := #[{ on := 5, ground := Ground.data }, { on := 3, ground := Ground.chain }, { on := 0, ground := Ground.phase }, { on := 1, ground := Ground.phase }, { on := 2, ground := Ground.phase }, { on := 3, ground := Ground.phase }, { on := 4, ground := Ground.phase }, { on := 5, ground := Ground.phase }, { on := 6, ground := Ground.textOnly Departure.lateStores }], guard := none }) (v := ?_) rfl (by kernel_rfl) (by kernel_rfl) (by kernel_rfl) (fun _ _ _ h => h) (Or.inl ⟨by rfl, ?_⟩) (by first | exact hHeld | assumption) ?_
          rotate_left 1
          · intro w hSw; (try dsimp only at hSw); go_simp; try (with_reducible rfl)
          try simp only [Act.put, List.setIfInBounds_toArray, List.set_cons_zero, List.set_cons_succ]
          refine wpAnyH_take (i := 8) (oi := { dst := some 12, op := Op.assign (Operand.tmp 42), type := 32, pos := "law.go:150", after := #[{ on := 6, ground := Ground.data }, { on := 7, ground := Ground.chain }, { on := 0, ground := Ground.phase }, { on := 1, ground := Ground.phase }, { on := 2, ground := Ground.phase }, { on := 3, ground := Ground.phase }, { on := 4, ground := Ground.phase }, { on := 5, ground := Ground.phase }, { on := 6, ground := Ground.phase }, { on := 7, ground := Ground.phase }], guard := none }) (v := ?_) rfl (by kernel_rfl) (by kernel_rfl) (by kernel_rfl) (fun _ _ _ h => h) (Or.inl ⟨by rfl, ?_⟩) (by first | exact hHeld | assumption) ?_
          rotate_left 1
          · intro w hSw; (try dsimp only at hSw); go_simp; try (with_reducible rfl)
          try simp only [Act.put, List.setIfInBounds_toArray, List.set_cons_zero, List.set_cons_succ]
          refine wpAnyH_done (by kernel_rfl) ?_ _
          clear hHeld
          go_wp2_with fail
          go_meet
          exact ⟨gt, g, _, rfl, rfl, Q3, Lib.hid (VD.out.trans (BW.out.mono VD.out.size)), Lib.hid (BD.out.below BW.out BD.out.lt)⟩
  case rest =>
    obtain ⟨gt, g, w0, rfl, rfl, Q, B0, BD0⟩ := hcut
    clear VD BD NW MEM
    have HBK : Hid (∀ u, Below w0.heap.size w0 u → u.cell? ⟨ρ, 2, none⟩ = some (.int .i64 (V : Int)) ∧ u.cell? ⟨ρ, 3, none⟩ = some (.int .i64 (m : Int))) := Lib.hid fun u b => ⟨Blk.cell (BD0.out.after b) 2, Blk.cell (BD0.out.after b) 3⟩
    have IT := Lib.hid (lt_Items 0 Q.out (by simp))
    rw [nD_items HI.out] at IT
    generalize hil : nIt V m = il at *
    have HIL : Hid (il.length = m) := Lib.hid (by rw [← hil]; simp [nIt])
    have HIA : Hid (∀ j, j < m → iAt il j = ([(j : Int), 0, 0, 0], List.replicate V 0)) := Lib.hid fun j hj => by
      rw [← hil]
      unfold iAt nIt
      rw [List.getD_eq_getElem?_getD, List.getElem?_map, List.getElem?_range hj]
      rfl
    clear hil BD0
    go_wp2_with fail
    refine (IT.out).mono ?_
    rintro e w4 ⟨A, c, X, rfl, hX, hR, b4⟩
    have IS := Lib.hid (by rw [← hX]; exact hR.items.2 : ItemS w4 A il)
    replace Q := Lib.hid (Q.out.after b4)
    clear hX hR b4 IT
    have hrr := (HBK.out w4 Q.out.below).2
    rw [HIL.out]
    have V64 : V ≤ 64 := by have := HK8.out; omega
    go_wp2_with fail
    go_loopw [58] (fun iv wr => ∃ j : Nat, iv = .int .i64 j ∧ j ≤ m ∧ Hid (Below w4.heap.size w4 wr)) (fun iv wr => m - (intOf iv).toNat)
    case atStart => exact ⟨0, rfl, by omega, Lib.hid (Below.refl _ _)⟩
    case round =>
      obtain ⟨j, rfl, hj, W⟩ := hrel
      have j0 : (0 : Int) ≤ j := by omega
      clear hrr
      by_cases hlt : (j : Int) < m
      · have hjn : j < m := by omega
        obtain ⟨gI, oI, rfl, hgI, hcI⟩ := IS.out.after W.out (by rw [HIL.out]; omega)
        obtain ⟨A1, c1, A2, c2, e1, e2, y1, y2⟩ := hcI j (by rw [HIL.out]; exact hjn)
        rw [HIA.out j hjn] at e1 e2 y1 y2
        simp only [List.length_replicate] at e1 e2 y1 y2
        have e1' : wr.cell? ⟨gI, oI + j * 2, none⟩ = some (.slice A1 4 c1) := e1
        have HB2 : Hid (Below w4.heap.size w4 (wr.alloc (.cells #[.slice A1 4 c1, .slice A2 V c2] 60)).drew) := Lib.hid ((below_next' W.out (below_alloc (Below.refl _ _) _)).drew)
        have BQ : Hid (Blk wr.heap.size #[.slice A1 4 c1, .slice A2 V c2] 60 (wr.alloc (.cells #[.slice A1 4 c1, .slice A2 V c2] 60)).drew) := Lib.hid (show Blk wr.heap.size #[.slice A1 4 c1, .slice A2 V c2] 60 (wr.alloc (.cells #[.slice A1 4 c1, .slice A2 V c2] 60)) from Blk.new wr _ _ rfl)
        have Y1 : Hid (BytS (wr.alloc (.cells #[.slice A1 4 c1, .slice A2 V c2] 60)).drew A1 [(j : Int), 0, 0, 0]) := Lib.hid (y1.after (below_alloc (Below.refl _ _) _).drew)
        have Y2 : Hid (BytS (wr.alloc (.cells #[.slice A1 4 c1, .slice A2 V c2] 60)).drew A2 (List.replicate V 0)) := Lib.hid (y2.after (below_alloc (Below.refl _ _) _).drew)
        have B0W : Hid (Below w0.heap.size w0 w4) := Lib.hid Q.out.below
        have hwj : IntKind.u8.wrap (j : Int) = j := by rw [IntKind.wrap_u8]; omega
        have nq1 : ∀ u, (binOp BinOp.neq 9 (.string (strOfNums [(j : Int), 0, 0, 0])) (.string (strOfNums [(j : Int), 0, 0, 0]))).run Try.prog u = .ok (.bool false) u := fun u => by
          rw [neq_str _ _ (okB_num (by omega)) (okB_num (by omega)) u]; simp
        have nq2 : ∀ u, (binOp BinOp.neq 9 (.string (strOfNums (List.replicate V 0))) (.string (strOfNums (List.replicate V 0)))).run Try.prog u = .ok (.bool false) u := fun u => by
          rw [neq_str _ _ (okB_zeros V) (okB_zeros V) u]; simp
        clear e1 hcI y1 y2 hgI
        go_upto_region 12 with fail
        clear e1' e2
        generalize wr.heap.size = κ at *
        have SE : Hid (∀ u, Below (wr.alloc (.cells #[.slice A1 4 c1, .slice A2 V c2] 60)).drew.heap.size (wr.alloc (.cells #[.slice A1 4 c1, .slice A2 V c2] 60)).drew u → u.cell? ⟨κ, 0, none⟩ = some (.slice A1 4 c1) ∧ u.cell? ⟨κ, 1, none⟩ = some (.slice A2 V c2) ∧ u.cell? ⟨ρ, 2, none⟩ = some (.int .i64 (V : Int)) ∧ (convert 40 9 (.slice A1 4 c1)).run Try.prog u = .ok (.string (strOfNums [(j : Int), 0, 0, 0])) u ∧ (convert 40 9 (.slice A2 V c2)).run Try.prog u = .ok (.string (strOfNums (List.replicate V 0))) u) := Lib.hid fun u b => by
          refine ⟨Blk.cell (BQ.out.after b) 0, Blk.cell (BQ.out.after b) 1, (HBK.out u (B0W.out.trans ((HB2.out.trans (b.mono HB2.out.size)).mono B0W.out.size))).1, str_bytS (Y1.out.after b) c1, ?_⟩
          have := str_bytS (Y2.out.after b) c2
          rw [List.length_replicate] at this
          exact this
        refine wp_region_held_drew (S := fun w' => w'.cell? ⟨κ, 0, none⟩ = some (.slice A1 4 c1) ∧ w'.cell? ⟨κ, 1, none⟩ = some (.slice A2 V c2) ∧ w'.cell? ⟨ρ, 2, none⟩ = some (.int .i64 (V : Int)) ∧ (convert 40 9 (.slice A1 4 c1)).run Try.prog w' = .ok (.string (strOfNums [(j : Int), 0, 0, 0])) w' ∧ (convert 40 9 (.slice A2 V c2)).run Try.prog w' = .ok (.string (strOfNums (List.replicate V 0))) w') (by kernel_rfl) (SE.out _ (Below.refl _ _)) (fun hHeld => ?_)
        generalize (wr.alloc (.cells #[.slice A1 4 c1, .slice A2 V c2] 60)).drew = wd at *
        refine wpAnyH_take (i := 0) (oi := { dst := some 63, op := Op.fieldAddr 60 (Operand.tmp 15) 0, type := 0, pos := "law.go:159", after := #[], guard := none }) (v := ?_) rfl (by kernel_rfl) (by kernel_rfl) (by kernel_rfl) (fun _ _ _ h => h) (Or.inl ⟨by rfl, ?_⟩) (by first | exact hHeld | assumption) ?_
        rotate_left 1
        · intro w hSw; (try dsimp only at hSw); go_simp; try (with_reducible rfl)
        try simp only [Act.put, List.setIfInBounds_toArray, List.set_cons_zero, List.set_cons_succ]
        refine wpAnyH_take (i := 1) (oi := { dst := some 64, op := Op.load 40 (Operand.tmp 63), type := 40, pos := "law.go:159", after := #[{ on := 0, ground := Ground.data }], guard := none }) (v := ?_) rfl (by kernel_rfl) (by kernel_rfl) (by kernel_rfl) (fun _ _ _ h => h) (Or.inl ⟨by rfl, ?_⟩) (by first | exact hHeld | assumption) ?_
        rotate_left 1
        · intro w hSw; (try dsimp only at hSw); go_simp; try (with_reducible rfl)
        try simp only [Act.put, List.setIfInBounds_toArray, List.set_cons_zero, List.set_cons_succ]
        refine wpAnyH_take (i := 2) (oi := { dst := some 65, op := Op.convert 40 9 (Operand.tmp 64), type := 9, pos := "law.go:159", after := #[{ on := 1, ground := Ground.data }], guard := none }) (v := ?_) rfl (by kernel_rfl) (by kernel_rfl) (by kernel_rfl) (fun _ _ _ h => h) (Or.inl ⟨by rfl, ?_⟩) (by first | exact hHeld | assumption) ?_
        rotate_left 1
        · intro w hSw; (try dsimp only at hSw); go_simp; try (with_reducible rfl)
        try simp only [Act.put, List.setIfInBounds_toArray, List.set_cons_zero, List.set_cons_succ]
        refine wpAnyH_take (i := 3) (oi := { dst := some 66, op := Op.move (Operand.tmp 14), type := 3, pos := "law.go:159", after := #[], guard := none }) (v := ?_) rfl (by kernel_rfl) (by kernel_rfl) (by kernel_rfl) (fun _ _ _ h => h) (Or.inl ⟨by rfl, ?_⟩) (by first | exact hHeld | assumption) ?_
        rotate_left 1
        · intro w hSw; (try dsimp only at hSw); go_simp; try (with_reducible rfl)
        try simp only [Act.put, List.setIfInBounds_toArray, List.set_cons_zero, List.set_cons_succ]
        refine wpAnyH_take (i := 4) (oi := { dst := some 67, op := Op.convert 3 5 (Operand.tmp 66), type := 5, pos := "law.go:159", after := #[{ on := 3, ground := Ground.data }], guard := none }) (v := ?_) rfl (by kernel_rfl) (by kernel_rfl) (by kernel_rfl) (fun _ _ _ h => h) (Or.inl ⟨by rfl, ?_⟩) (by first | exact hHeld | assumption) ?_
        rotate_left 1
        · intro w hSw; (try dsimp only at hSw); go_simp; try (with_reducible rfl)
        try simp only [Act.put, List.setIfInBounds_toArray, List.set_cons_zero, List.set_cons_succ]
        refine wpAnyH_ready (rs := [5]) (by kernel_rfl) (by simp) ?_
        refine AllReadyH.cons (o := { dst := some 68, op := Op.buildSlice 40 4 #[(0, Operand.tmp 67), (1, Operand.const (Value.int IntKind.u8 0)), (2, Operand.const (Value.int IntKind.u8 0)), (3, Operand.const (Value.int IntKind.u8 0))], type := 40, pos := "law.go:159", after := #[{ on := 4, ground := Ground.data }], guard := none }) rfl (fun K hK => ?_) AllReadyH.nil
        · skip
          have hS1 := SE.out (wd.alloc (.cells #[.int .u8 (j : Int), .int .u8 0, .int .u8 0, .int .u8 0] 5)) (below_alloc (Below.refl _ _) _)
          go_simp
          refine hK.out _ _ hS1 (fun hHeld => ?_)
          clear hK K
          try simp only [Act.put, List.setIfInBounds_toArray, List.set_cons_zero, List.set_cons_succ]
          refine wpAnyH_ready (rs := [6]) (by kernel_rfl) (by simp) ?_
          refine AllReadyH.cons (o := { dst := some 69, op := Op.convert 40 9 (Operand.tmp 68), type := 9, pos := "law.go:159", after := #[{ on := 5, ground := Ground.data }], guard := none }) rfl (fun K hK => ?_) AllReadyH.nil
          · skip
            have h69 : (convert 40 9 (.slice (some ⟨wd.heap.size, 0, none⟩) 4 4)).run Try.prog (wd.alloc (.cells #[.int .u8 (j : Int), .int .u8 0, .int .u8 0, .int .u8 0] 5)) = .ok (.string (strOfNums [(j : Int), 0, 0, 0])) (wd.alloc (.cells #[.int .u8 (j : Int), .int .u8 0, .int .u8 0, .int .u8 0] 5)) := str_bytS (byt_new wd [(j : Int), 0, 0, 0] rfl) 4
            go_simp
            refine hK.out _ _ hS1 (fun hHeld => ?_)
            clear hK K
            try simp only [Act.put, List.setIfInBounds_toArray, List.set_cons_zero, List.set_cons_succ]
            refine wpAnyH_take (i := 7) (oi := { dst := some 70, op := Op.binOp BinOp.neq 9 (Operand.tmp 65) (Operand.tmp 69) 9, type := 4, pos := "law.go:159", after := #[{ on := 2, ground := Ground.data }, { on := 6, ground := Ground.data }], guard := none }) (v := ?_) rfl (by kernel_rfl) (by kernel_rfl) (by kernel_rfl) (fun _ _ _ h => h) (Or.inl ⟨by rfl, ?_⟩) (by first | exact hHeld | assumption) ?_
            rotate_left 1
            · intro w hSw; (try dsimp only at hSw); go_simp; try (with_reducible rfl)
            try simp only [Act.put, List.setIfInBounds_toArray, List.set_cons_zero, List.set_cons_succ]
            refine wpAnyH_take (i := 8) (oi := { dst := some 71, op := Op.move (Operand.tmp 70), type := 4, pos := "law.go:159", after := #[{ on := 7, ground := Ground.data }], guard := none }) (v := ?_) rfl (by kernel_rfl) (by kernel_rfl) (by kernel_rfl) (fun _ _ _ h => h) (Or.inl ⟨by rfl, ?_⟩) (by first | exact hHeld | assumption) ?_
            rotate_left 1
            · intro w hSw; (try dsimp only at hSw); go_simp; try (with_reducible rfl)
            try simp only [Act.put, List.setIfInBounds_toArray, List.set_cons_zero, List.set_cons_succ]
            refine wpAnyH_take (i := 9) (oi := { dst := some 72, op := Op.fieldAddr 60 (Operand.tmp 15) 1, type := 0, pos := "law.go:159", after := #[{ on := 8, ground := Ground.guard }], guard := some (8, false) }) (v := ?_) rfl (by kernel_rfl) (by kernel_rfl) (by kernel_rfl) (fun _ _ _ h => h) (Or.inl ⟨by rfl, ?_⟩) (by first | exact hHeld | assumption) ?_
            rotate_left 1
            · intro w hSw; (try dsimp only at hSw); go_simp; try (with_reducible rfl)
            try simp only [Act.put, List.setIfInBounds_toArray, List.set_cons_zero, List.set_cons_succ]
            refine wpAnyH_take (i := 10) (oi := { dst := some 73, op := Op.load 40 (Operand.tmp 72), type := 40, pos := "law.go:159", after := #[{ on := 9, ground := Ground.data }, { on := 8, ground := Ground.guard }], guard := some (8, false) }) (v := ?_) rfl (by kernel_rfl) (by kernel_rfl) (by kernel_rfl) (fun _ _ _ h => h) (Or.inl ⟨by rfl, ?_⟩) (by first | exact hHeld | assumption) ?_
            rotate_left 1
            · intro w hSw; (try dsimp only at hSw); go_simp; try (with_reducible rfl)
            try simp only [Act.put, List.setIfInBounds_toArray, List.set_cons_zero, List.set_cons_succ]
            refine wpAnyH_take (i := 11) (oi := { dst := some 74, op := Op.convert 40 9 (Operand.tmp 73), type := 9, pos := "law.go:159", after := #[{ on := 10, ground := Ground.data }, { on := 8, ground := Ground.guard }], guard := some (8, false) }) (v := ?_) rfl (by kernel_rfl) (by kernel_rfl) (by kernel_rfl) (fun _ _ _ h => h) (Or.inl ⟨by rfl, ?_⟩) (by first | exact hHeld | assumption) ?_
            rotate_left 1
            · intro w hSw; (try dsimp only at hSw); go_simp; try (with_reducible rfl)
            try simp only [Act.put, List.setIfInBounds_toArray, List.set_cons_zero, List.set_cons_succ]
            refine wpAnyH_take (i := 12) (oi := { dst := some 75, op := Op.fieldAddr 53 (Operand.tmp 10) 2, type := 0, pos := "law.go:159", after := #[{ on := 8, ground := Ground.guard }], guard := some (8, false) }) (v := ?_) rfl (by kernel_rfl) (by kernel_rfl) (by kernel_rfl) (fun _ _ _ h => h) (Or.inl ⟨by rfl, ?_⟩) (by first | exact hHeld | assumption) ?_
            rotate_left 1
            · intro w hSw; (try dsimp only at hSw); go_simp; try (with_reducible rfl)
            try simp only [Act.put, List.setIfInBounds_toArray, List.set_cons_zero, List.set_cons_succ]
            refine wpAnyH_take (i := 13) (oi := { dst := some 76, op := Op.load 3 (Operand.tmp 75), type := 3, pos := "law.go:159", after := #[{ on := 12, ground := Ground.data }, { on := 8, ground := Ground.guard }], guard := some (8, false) }) (v := ?_) rfl (by kernel_rfl) (by kernel_rfl) (by kernel_rfl) (fun _ _ _ h => h) (Or.inl ⟨by rfl, ?_⟩) (by first | exact hHeld | assumption) ?_
            rotate_left 1
            · intro w hSw; (try dsimp only at hSw); go_simp; try (with_reducible rfl)
            try simp only [Act.put, List.setIfInBounds_toArray, List.set_cons_zero, List.set_cons_succ]
            refine wpAnyH_ready (rs := [14]) (by kernel_rfl) (by simp) ?_
            refine AllReadyH.cons (o := { dst := some 77, op := Op.makeSlice 40 (Operand.tmp 76) (Operand.tmp 76), type := 40, pos := "law.go:159", after := #[{ on := 13, ground := Ground.data }, { on := 13, ground := Ground.data }, { on := 8, ground := Ground.guard }], guard := some (8, false) }) rfl (fun K hK => ?_) AllReadyH.nil
            · skip
              have hm := make_bytes (wd.alloc (.cells #[.int .u8 (j : Int), .int .u8 0, .int .u8 0, .int .u8 0] 5)) V (by omega)
              have hS2 := SE.out ((wd.alloc (.cells #[.int .u8 (j : Int), .int .u8 0, .int .u8 0, .int .u8 0] 5)).alloc (.cells (byC (List.replicate V 0)).toArray 5)) (below_next' (below_alloc (Below.refl _ _) _) (below_alloc (Below.refl _ _) _))
              go_simp
              refine hK.out _ _ hS2 (fun hHeld => ?_)
              clear hK K
              try simp only [Act.put, List.setIfInBounds_toArray, List.set_cons_zero, List.set_cons_succ]
              refine wpAnyH_ready (rs := [15]) (by kernel_rfl) (by simp) ?_
              refine AllReadyH.cons (o := { dst := some 78, op := Op.convert 40 9 (Operand.tmp 77), type := 9, pos := "law.go:159", after := #[{ on := 14, ground := Ground.data }, { on := 8, ground := Ground.guard }], guard := some (8, false) }) rfl (fun K hK => ?_) AllReadyH.nil
              · skip
                have h78 : (convert 40 9 (.slice (some ⟨wd.heap.size + 1, 0, none⟩) V V)).run Try.prog ((wd.alloc (.cells #[.int .u8 (j : Int), .int .u8 0, .int .u8 0, .int .u8 0] 5)).alloc (.cells (byC (List.replicate V 0)).toArray 5)) = .ok (.string (strOfNums (List.replicate V 0))) ((wd.alloc (.cells #[.int .u8 (j : Int), .int .u8 0, .int .u8 0, .int .u8 0] 5)).alloc (.cells (byC (List.replicate V 0)).toArray 5)) := by
                  have := str_bytS (byt_new (wd.alloc (.cells #[.int .u8 (j : Int), .int .u8 0, .int .u8 0, .int .u8 0] 5)) (List.replicate V 0) (g := wd.heap.size + 1) (by simp)) V
                  rw [List.length_replicate] at this
                  exact this
                go_simp
                refine hK.out _ _ hS2 (fun hHeld => ?_)
                clear hK K
                try simp only [Act.put, List.setIfInBounds_toArray, List.set_cons_zero, List.set_cons_succ]
                refine wpAnyH_take (i := 16) (oi := { dst := some 79, op := Op.binOp BinOp.neq 9 (Operand.tmp 74) (Operand.tmp 78) 9, type := 4, pos := "law.go:159", after := #[{ on := 11, ground := Ground.data }, { on := 15, ground := Ground.data }, { on := 8, ground := Ground.guard }], guard := some (8, false) }) (v := ?_) rfl (by kernel_rfl) (by kernel_rfl) (by kernel_rfl) (fun _ _ _ h => h) (Or.inl ⟨by rfl, ?_⟩) (by first | exact hHeld | assumption) ?_
                rotate_left 1
                · intro w hSw; (try dsimp only at hSw); go_simp; try (with_reducible rfl)
                try simp only [Act.put, List.setIfInBounds_toArray, List.set_cons_zero, List.set_cons_succ]
                refine wpAnyH_take (i := 17) (oi := { dst := some 80, op := Op.pick (Operand.tmp 71) (Operand.const (Value.bool true)) (Operand.tmp 79), type := 4, pos := "law.go:159", after := #[{ on := 8, ground := Ground.data }, { on := 16, ground := Ground.data }], guard := none }) (v := ?_) rfl (by kernel_rfl) (by kernel_rfl) (by kernel_rfl) (fun _ _ _ h => h) (Or.inl ⟨by rfl, ?_⟩) (by first | exact hHeld | assumption) ?_
                rotate_left 1
                · intro w hSw; (try dsimp only at hSw); go_simp; try (with_reducible rfl)
                try simp only [Act.put, List.setIfInBounds_toArray, List.set_cons_zero, List.set_cons_succ]
                refine wpAnyH_done (by kernel_rfl) ?_ _
                clear hHeld
                have HE : Hid (Below w4.heap.size w4 ((wd.alloc (.cells #[.int .u8 (j : Int), .int .u8 0, .int .u8 0, .int .u8 0] 5)).alloc (.cells (byC (List.replicate V 0)).toArray 5))) := Lib.hid (below_next' HB2.out (below_next' (below_alloc (Below.refl _ _) _) (below_alloc (Below.refl _ _) _)))
                clear SE HB2 BQ Y1 Y2 h69 h78 hm hS1 hS2
                go_wp2_with fail
                go_round
                case rel => exact ⟨j + 1, by go_num, by omega, HE⟩
                case measure => simp [intOf]; omega
      · have hjn : j = m := by omega
        subst hjn
        clear HIA IS HIL
        replace Q := Lib.hid (Q.out.after W.out)
        clear W
        go_upto_region 15 with fail
        go_cut [16, 17] (fun s1 s2 wx => ∃ gk gv : Nat, s1 = .slice (some ⟨gk, 0, none⟩) 4 4 ∧ s2 = .slice (some ⟨gv, 0, none⟩) V V ∧ Hid (Blk gk (byC [(kn : Int), 0, 0, 0]).toArray 5 wx ∧ Blk gv (byC (List.replicate V 0)).toArray 5 wx ∧ gk ≠ gv ∧ wr.heap.size ≤ gk ∧ wr.heap.size ≤ gv ∧ Below wr.heap.size wr wx))
        case first =>
          have SF : Hid (∀ u, Below wr.drew.heap.size wr.drew u → u.cell? ⟨ρ, 2, none⟩ = some (.int .i64 (V : Int))) := Lib.hid fun u b => (HBK.out u (Q.out.below.trans ((Below.drew (Below.refl _ _)).trans b |>.mono Q.out.below.size))).1
          have BR : Hid (Below wr.heap.size wr wr.drew) := Lib.hid (Below.drew (Below.refl _ _))
          refine wp_region_held_drew (S := fun w' => w'.cell? ⟨ρ, 2, none⟩ = some (.int .i64 (V : Int))) (by kernel_rfl) (SF.out _ (Below.refl _ _)) (fun hHeld => ?_)
          generalize wr.drew = wd at *
          refine wpAnyH_take (i := 0) (oi := { dst := some 82, op := Op.move (Operand.tmp 2), type := 5, pos := "law.go:163", after := #[], guard := none }) (v := ?_) rfl (by kernel_rfl) (by kernel_rfl) (by kernel_rfl) (fun _ _ _ h => h) (Or.inl ⟨by rfl, ?_⟩) (by first | exact hHeld | assumption) ?_
          rotate_left 1
          · intro w hSw; (try dsimp only at hSw); go_simp; try (with_reducible rfl)
          try simp only [Act.put, List.setIfInBounds_toArray, List.set_cons_zero, List.set_cons_succ]
          refine wpAnyH_take (i := 2) (oi := { dst := some 84, op := Op.fieldAddr 53 (Operand.tmp 10) 2, type := 0, pos := "law.go:163", after := #[], guard := none }) (v := ?_) rfl (by kernel_rfl) (by kernel_rfl) (by kernel_rfl) (fun _ _ _ h => h) (Or.inl ⟨by rfl, ?_⟩) (by first | exact hHeld | assumption) ?_
          rotate_left 1
          · intro w hSw; (try dsimp only at hSw); go_simp; try (with_reducible rfl)
          try simp only [Act.put, List.setIfInBounds_toArray, List.set_cons_zero, List.set_cons_succ]
          refine wpAnyH_take (i := 3) (oi := { dst := some 85, op := Op.load 3 (Operand.tmp 84), type := 3, pos := "law.go:163", after := #[{ on := 2, ground := Ground.data }], guard := none }) (v := ?_) rfl (by kernel_rfl) (by kernel_rfl) (by kernel_rfl) (fun _ _ _ h => h) (Or.inl ⟨by rfl, ?_⟩) (by first | exact hHeld | assumption) ?_
          rotate_left 1
          · intro w hSw; (try dsimp only at hSw); go_simp; try (with_reducible rfl)
          try simp only [Act.put, List.setIfInBounds_toArray, List.set_cons_zero, List.set_cons_succ]
          refine wpAnyH_ready (rs := [1, 4]) (by kernel_rfl) (by simp) ?_
          refine AllReadyH.cons (o := { dst := some 83, op := Op.buildSlice 40 4 #[(0, Operand.tmp 82), (1, Operand.const (Value.int IntKind.u8 0)), (2, Operand.const (Value.int IntKind.u8 0)), (3, Operand.const (Value.int IntKind.u8 0))], type := 40, pos := "law.go:163", after := #[{ on := 0, ground := Ground.data }], guard := none }) rfl (fun K hK => ?_) (AllReadyH.cons (o := { dst := some 86, op := Op.makeSlice 40 (Operand.tmp 85) (Operand.tmp 85), type := 40, pos := "law.go:163", after := #[{ on := 3, ground := Ground.data }, { on := 3, ground := Ground.data }], guard := none }) rfl (fun K hK => ?_) AllReadyH.nil)
          · skip
            have hS1 := SF.out (wd.alloc (.cells #[.int .u8 (kn : Int), .int .u8 0, .int .u8 0, .int .u8 0] 5)) (below_alloc (Below.refl _ _) _)
            go_simp
            refine hK.out _ _ hS1 (fun hHeld => ?_)
            clear hK K
            try simp only [Act.put, List.setIfInBounds_toArray, List.set_cons_zero, List.set_cons_succ]
            refine wpAnyH_take (i := 5) (oi := { dst := some 16, op := Op.assign (Operand.tmp 83), type := 40, pos := "law.go:163", after := #[{ on := 1, ground := Ground.data }, { on := 0, ground := Ground.phase }, { on := 1, ground := Ground.phase }, { on := 2, ground := Ground.textOnly Departure.lateStores }, { on := 3, ground := Ground.textOnly Departure.lateStores }, { on := 4, ground := Ground.textOnly Departure.lateStoresUnsure }], guard := none }) (v := ?_) rfl (by kernel_rfl) (by kernel_rfl) (by kernel_rfl) (fun _ _ _ h => h) (Or.inl ⟨by rfl, ?_⟩) (by first | exact hHeld | assumption) ?_
            rotate_left 1
            · intro w hSw; (try dsimp only at hSw); go_simp; try (with_reducible rfl)
            try simp only [Act.put, List.setIfInBounds_toArray, List.set_cons_zero, List.set_cons_succ]
            refine wpAnyH_ready (rs := [4]) (by kernel_rfl) (by simp) ?_
            refine AllReadyH.cons (o := { dst := some 86, op := Op.makeSlice 40 (Operand.tmp 85) (Operand.tmp 85), type := 40, pos := "law.go:163", after := #[{ on := 3, ground := Ground.data }, { on := 3, ground := Ground.data }], guard := none }) rfl (fun K hK => ?_) AllReadyH.nil
            · skip
              have hm := make_bytes (wd.alloc (.cells #[.int .u8 (kn : Int), .int .u8 0, .int .u8 0, .int .u8 0] 5)) V (by omega)
              have hS2 := SF.out ((wd.alloc (.cells #[.int .u8 (kn : Int), .int .u8 0, .int .u8 0, .int .u8 0] 5)).alloc (.cells (byC (List.replicate V 0)).toArray 5)) (below_next' (below_alloc (Below.refl _ _) _) (below_alloc (Below.refl _ _) _))
              go_simp
              refine hK.out _ _ hS2 (fun hHeld => ?_)
              clear hK K
              try simp only [Act.put, List.setIfInBounds_toArray, List.set_cons_zero, List.set_cons_succ]
              refine wpAnyH_take (i := 6) (oi := { dst := some 17, op := Op.assign (Operand.tmp 86), type := 40, pos := "law.go:163", after := #[{ on := 4, ground := Ground.data }, { on := 5, ground := Ground.chain }, { on := 0, ground := Ground.phase }, { on := 1, ground := Ground.phase }, { on := 2, ground := Ground.phase }, { on := 3, ground := Ground.phase }, { on := 4, ground := Ground.phase }, { on := 5, ground := Ground.phase }], guard := none }) (v := ?_) rfl (by kernel_rfl) (by kernel_rfl) (by kernel_rfl) (fun _ _ _ h => h) (Or.inl ⟨by rfl, ?_⟩) (by first | exact hHeld | assumption) ?_
              rotate_left 1
              · intro w hSw; (try dsimp only at hSw); go_simp; try (with_reducible rfl)
              try simp only [Act.put, List.setIfInBounds_toArray, List.set_cons_zero, List.set_cons_succ]
              refine wpAnyH_done (by kernel_rfl) ?_ _
              clear hHeld
              go_wp2_with fail
              go_meet
              have hz := BR.out.size
              exact ⟨wd.heap.size, wd.heap.size + 1, rfl, rfl, Lib.hid ⟨((Blk.new wd _ _ rfl : Blk wd.heap.size _ _ _).after (below_alloc (Below.refl _ _) _)), (Blk.new (wd.alloc (.cells #[.int .u8 (kn : Int), .int .u8 0, .int .u8 0, .int .u8 0] 5)) _ _ (by simp) : Blk (wd.heap.size + 1) _ _ _), by omega, by omega, by omega, below_next' BR.out (below_next' (below_alloc (Below.refl _ _) _) (below_alloc (Below.refl _ _) _))⟩⟩
          · skip
            have hm := make_bytes wd V (by omega)
            have hS1 := SF.out (wd.alloc (.cells (byC (List.replicate V 0)).toArray 5)) (below_alloc (Below.refl _ _) _)
            go_simp
            refine hK.out _ _ hS1 (fun hHeld => ?_)
            clear hK K
            try simp only [Act.put, List.setIfInBounds_toArray, List.set_cons_zero, List.set_cons_succ]
            refine wpAnyH_ready (rs := [1]) (by kernel_rfl) (by simp) ?_
            refine AllReadyH.cons (o := { dst := some 83, op := Op.buildSlice 40 4 #[(0, Operand.tmp 82), (1, Operand.const (Value.int IntKind.u8 0)), (2, Operand.const (Value.int IntKind.u8 0)), (3, Operand.const (Value.int IntKind.u8 0))], type := 40, pos := "law.go:163", after := #[{ on := 0, ground := Ground.data }], guard := none }) rfl (fun K hK => ?_) AllReadyH.nil
            · skip
              have hS2 := SF.out ((wd.alloc (.cells (byC (List.replicate V 0)).toArray 5)).alloc (.cells #[.int .u8 (kn : Int), .int .u8 0, .int .u8 0, .int .u8 0] 5)) (below_next' (below_alloc (Below.refl _ _) _) (below_alloc (Below.refl _ _) _))
              go_simp
              refine hK.out _ _ hS2 (fun hHeld => ?_)
              clear hK K
              try simp only [Act.put, List.setIfInBounds_toArray, List.set_cons_zero, List.set_cons_succ]
              refine wpAnyH_take (i := 5) (oi := { dst := some 16, op := Op.assign (Operand.tmp 83), type := 40, pos := "law.go:163", after := #[{ on := 1, ground := Ground.data }, { on := 0, ground := Ground.phase }, { on := 1, ground := Ground.phase }, { on := 2, ground := Ground.textOnly Departure.lateStores }, { on := 3, ground := Ground.textOnly Departure.lateStores }, { on := 4, ground := Ground.textOnly Departure.lateStoresUnsure }], guard := none }) (v := ?_) rfl (by kernel_rfl) (by kernel_rfl) (by kernel_rfl) (fun _ _ _ h => h) (Or.inl ⟨by rfl, ?_⟩) (by first | exact hHeld | assumption) ?_
              rotate_left 1
              · intro w hSw; (try dsimp only at hSw); go_simp; try (with_reducible rfl)
              try simp only [Act.put, List.setIfInBounds_toArray, List.set_cons_zero, List.set_cons_succ]
              refine wpAnyH_take (i := 6) (oi := { dst := some 17, op := Op.assign (Operand.tmp 86), type := 40, pos := "law.go:163", after := #[{ on := 4, ground := Ground.data }, { on := 5, ground := Ground.chain }, { on := 0, ground := Ground.phase }, { on := 1, ground := Ground.phase }, { on := 2, ground := Ground.phase }, { on := 3, ground := Ground.phase }, { on := 4, ground := Ground.phase }, { on := 5, ground := Ground.phase }], guard := none }) (v := ?_) rfl (by kernel_rfl) (by kernel_rfl) (by kernel_rfl) (fun _ _ _ h => h) (Or.inl ⟨by rfl, ?_⟩) (by first | exact hHeld | assumption) ?_
              rotate_left 1
              · intro w hSw; (try dsimp only at hSw); go_simp; try (with_reducible rfl)
              try simp only [Act.put, List.setIfInBounds_toArray, List.set_cons_zero, List.set_cons_succ]
              refine wpAnyH_done (by kernel_rfl) ?_ _
              clear hHeld
              go_wp2_with fail
              go_meet
              have hz := BR.out.size
              exact ⟨wd.heap.size + 1, wd.heap.size, rfl, rfl, Lib.hid ⟨(Blk.new (wd.alloc (.cells (byC (List.replicate V 0)).toArray 5)) _ _ (by simp) : Blk (wd.heap.size + 1) _ _ _), ((Blk.new wd _ _ rfl : Blk wd.heap.size _ _ _).after (below_alloc (Below.refl _ _) _)), by omega, by omega, by omega, below_next' BR.out (below_next' (below_alloc (Below.refl _ _) _) (below_alloc (Below.refl _ _) _))⟩⟩
        case rest =>
          obtain ⟨gk, gv, rfl, rfl, K0⟩ := hcut
          obtain ⟨wb, rfl⟩ : ∃ x, x = wr := ⟨_, rfl⟩
          go_wp2_with fail
          go_loopw [89] (fun iv wr => ∃ t : Nat, iv = .int .i64 t ∧ t ≤ V ∧ Hid (Blk gk (byC [(kn : Int), 0, 0, 0]).toArray 5 wr ∧ Blk gv (byC (List.replicate t n ++ List.replicate (V - t) 0)).toArray 5 wr ∧ Below wb.heap.size wb wr)) (fun iv wr => V - (intOf iv).toNat)
          case atStart => exact ⟨0, rfl, by omega, Lib.hid ⟨K0.out.1, by simpa using K0.out.2.1, K0.out.2.2.2.2.2⟩⟩
          case round =>
            obtain ⟨t, rfl, ht, K⟩ := hrel
            have t0 : (0 : Int) ≤ t := by omega
            by_cases htV : (t : Int) < V
            · have htn : t < V := by omega
              have hc0 : wr.cell? ⟨gv, t, none⟩ = some (.int .u8 0) := (Blk.cell K.out.2.1 t).trans (fill_at htn)
              have hf0 : wr.frozen? ⟨gv, t, none⟩ = false := Blk.free K.out.2.1 t
              have KN : Hid (Blk gk (byC [(kn : Int), 0, 0, 0]).toArray 5 (wr.setCell ⟨gv, t, none⟩ (.int .u8 n)) ∧ Blk gv (byC (List.replicate (t + 1) n ++ List.replicate (V - (t + 1)) 0)).toArray 5 (wr.setCell ⟨gv, t, none⟩ (.int .u8 n)) ∧ Below wb.heap.size wb (wr.setCell ⟨gv, t, none⟩ (.int .u8 n))) := Lib.hid (by
                refine ⟨Blk.other K.out.1 _ K0.out.2.2.1, ?_, K.out.2.2.setCell K0.out.2.2.2.2.1 _⟩
                rw [← fill_step htn]
                exact Blk.set K.out.2.1 t _)
              clear K
              go_wp2_with fail
              go_round
              case rel => exact ⟨t + 1, by go_num, by omega, KN⟩
              case measure => simp [intOf]; omega
            · obtain rfl : V = t := by omega
              have QL : Hid (Law w0 (sysT gt g [⟨nD V j, numL j, j⟩] M1) sysO [(some ⟨gk, 0, none⟩, [(kn : Int), 0, 0, 0]), (some ⟨gv, 0, none⟩, List.replicate V n)] wr) := Lib.hid (by
                have kv := K.out.2.1
                rw [Nat.sub_self, List.replicate_zero, List.append_nil] at kv
                exact Q.out.pushes K.out.2.2 [(some ⟨gk, 0, none⟩, [(kn : Int), 0, 0, 0]), (some ⟨gv, 0, none⟩, List.replicate V n)] (fun p hp => by
                  rcases List.mem_cons.1 hp with rfl | hp
                  · exact ⟨blk_byt K.out.1, fun g o _ e => by cases e; exact .inr K0.out.2.2.2.1⟩
                  · rw [List.mem_singleton] at hp
                    subst hp
                    exact ⟨blk_byt kv, fun g o _ e => by cases e; exact .inr K0.out.2.2.2.2.1⟩))
              have LK := Lib.hid (lt_Look 0 [(kn : Int), 0, 0, 0] (some ⟨gk, 0, none⟩) 4 4 QL.out (by simp) (by simp) (okB_num (by omega)) rfl (Nat.le_refl _) (by unfold maxLen; omega))
              rw [nD_look] at LK
              have PT : Hid (∀ u, Law w0 (sysT gt g [⟨nD V j, numL j, j⟩] M1) sysO [(some ⟨gk, 0, none⟩, [(kn : Int), 0, 0, 0]), (some ⟨gv, 0, none⟩, List.replicate V n)] u → _) := Lib.hid fun u h => lt_Put 0 [(kn : Int), 0, 0, 0] (List.replicate V n) (some ⟨gk, 0, none⟩) (some ⟨gv, 0, none⟩) 4 4 V V 0 h (by simp) (by simp) (okB_num (by omega)) rfl (Nat.le_refl _) (by unfold maxLen; omega) (by simp) (okB_rep V hn) (by simp) (Nat.le_refl _) (by unfold maxLen; omega) (by omega) (by have := HML.out; omega)
              rw [nD_put (by simp)] at PT
              clear K K0 Q
              by_cases hkm : kn < j
              · have hkm' : (kn : Int) < j := by omega
                rw [if_pos hkm] at LK PT
                dsimp only at LK PT
                have I2 := nD_items2 (n := n) hn HI.out V64 hkm hm16.2
                have I2a := Lib.hid I2.1
                have I2b := Lib.hid I2.2
                have AR : Hid (∀ u, Calls Try.prog 20 #[.int .i64 0, .int .i64 (kn : Int)] u (Gives (.int .i64 (tArea 0 kn)) u)) := Lib.hid fun u => q9_Area 0 kn u (by omega) (by omega)
                have AT : Hid (∀ u, Calls Try.prog 26 #[.int .i64 (tArea 0 kn), .int .i64 0] u (Gives (.int .u64 (atI (tArea 0 kn) 0)) u)) := Lib.hid fun u => c8_At (tArea 0 kn) 0 u
                have DR : Hid (∀ M u, Law w0 (sysT gt g [⟨nD V j, numL j, j⟩] M) sysO [(some ⟨gk, 0, none⟩, [(kn : Int), 0, 0, 0]), (some ⟨gv, 0, none⟩, List.replicate V n)] u → _) := Lib.hid fun M u h => lt_Drop 0 [(kn : Int), 0, 0, 0] (some ⟨gk, 0, none⟩) 4 4 h (by simp) (by simp) (okB_num (by omega)) rfl (Nat.le_refl _) (by unfold maxLen; omega)
                rw [nD_drop] at DR
                dsimp only at DR
                have IT2 := Lib.hid fun u (h : Law w0 (sysT gt g [⟨nD V j, numL j, j⟩] (tFill M1 0 kn 0 (List.replicate V n))) sysO [(some ⟨gk, 0, none⟩, [(kn : Int), 0, 0, 0]), (some ⟨gv, 0, none⟩, List.replicate V n)] u) => lt_Items 0 h (by simp)
                clear I2
                generalize tItems [⟨nD V j, numL j, j⟩] (tFill M1 0 kn 0 (List.replicate V n)) 0 = il2 at *
                generalize tFill M1 0 kn 0 (List.replicate V n) = M2 at *
                generalize atI (tArea 0 kn) 0 = at_ at *
                generalize tArea 0 kn = ar at *
                go_wp2_with fail
                refine (LK.out).mono ?_
                rintro e w5 ⟨rfl, b⟩
                replace QL := Lib.hid (QL.out.after b)
                clear b LK
                go_wp2_with fail
                refine (PT.out _ QL.out).mono ?_
                rintro e w6 ⟨rfl, q⟩
                replace QL := Lib.hid q
                clear q PT
                go_wp2_with fail
                refine (DR.out _ _ QL.out).mono ?_
                rintro e w7 ⟨rfl, q⟩
                replace QL := Lib.hid q
                clear q DR
                have hr3 := (HBK.out w7 QL.out.below).2
                go_wp2_with fail
                refine (IT2.out _ QL.out).mono ?_
                rintro e w8 ⟨AJ, cJ, X2, rfl, hX2, hR2, b8⟩
                have IS2 := (by rw [← hX2]; exact hR2.items.2 : ItemS w8 AJ il2)
                replace QL := Lib.hid (QL.out.after b8)
                obtain ⟨gJ, oJ, rfl, hgJ, hcJ⟩ := IS2 (by rw [I2a.out]; omega)
                obtain ⟨AK, cK, AV, cV, -, e2, -, y2⟩ := hcJ kn (by rw [I2a.out]; exact hkm)
                rw [I2b.out] at e2 y2
                simp only [List.length_replicate] at e2 y2
                have E2 := Lib.hid e2
                have Y2 := Lib.hid y2
                have HGJ := Lib.hid hgJ
                rw [I2a.out]
                clear hX2 hR2 b8 IS2 hcJ e2 y2 hgJ hr3 IT2
                have eq1 : ∀ u, (binOp BinOp.eql 9 (.string (strOfNums (List.replicate V n))) (.string (strOfNums (List.replicate V n)))).run Try.prog u = .ok (.bool true) u := fun u => by
                  rw [eql_str _ _ (okB_rep V hn) (okB_rep V hn) u]; simp
                have HWK : Hid (IntKind.i64.wrap (kn : Int) = (kn : Int)) := Lib.hid (wrapN kn (by omega))
                go_upto_region 29 with fail
                have SG : Hid (∀ u, Below w8.drew.heap.size w8.drew u → u.cell? ⟨ρ, 3, none⟩ = some (.int .i64 (j : Int)) ∧ u.cell? ⟨gJ, oJ + kn * 2 + 1, none⟩ = some (.slice AV V cV) ∧ (convert 40 9 (.slice AV V cV)).run Try.prog u = .ok (.string (strOfNums (List.replicate V n))) u ∧ (convert 40 9 (.slice (some ⟨gv, 0, none⟩) V V)).run Try.prog u = .ok (.string (strOfNums (List.replicate V n))) u) := Lib.hid fun u b => by
                  have bu : Below w8.heap.size w8 u := (Below.drew (Below.refl _ _)).trans b
                  refine ⟨(HBK.out u (QL.out.after bu).below).2, (bu.cell (p := ⟨gJ, oJ + kn * 2 + 1, none⟩) HGJ.out).trans E2.out, ?_, ?_⟩
                  · have := str_bytS (Y2.out.after bu) cV
                    rw [List.length_replicate] at this
                    exact this
                  · have := str_bytS ((QL.out.after bu).byt (C := some ⟨gv, 0, none⟩) (b := List.replicate V n) (by simp)) V
                    rw [List.length_replicate] at this
                    exact this
                have BE : Hid (Below w.heap.size w w8.drew) := Lib.hid ((B0.out.trans (QL.out.below.mono B0.out.size)).drew)
                refine wp_region_held_drew (S := fun w' => w'.cell? ⟨ρ, 3, none⟩ = some (.int .i64 (j : Int)) ∧ w'.cell? ⟨gJ, oJ + kn * 2 + 1, none⟩ = some (.slice AV V cV) ∧ (convert 40 9 (.slice AV V cV)).run Try.prog w' = .ok (.string (strOfNums (List.replicate V n))) w' ∧ (convert 40 9 (.slice (some ⟨gv, 0, none⟩) V V)).run Try.prog w' = .ok (.string (strOfNums (List.replicate V n))) w') (by kernel_rfl) (SG.out _ (Below.refl _ _)) (fun hHeld => ?_)
                generalize w8.drew = wd at *
                refine wpAnyH_take (i := 0) (oi := { dst := some 146, op := Op.move (Operand.tmp 9), type := 4, pos := "law.go:177", after := #[], guard := none }) (v := ?_) rfl (by kernel_rfl) (by kernel_rfl) (by kernel_rfl) (fun _ _ _ h => h) (Or.inl ⟨by rfl, ?_⟩) (by first | exact hHeld | assumption) ?_
                rotate_left 1
                · intro w hSw; (try dsimp only at hSw); go_simp; try (with_reducible rfl)
                try simp only [Act.put, List.setIfInBounds_toArray, List.set_cons_zero, List.set_cons_succ]
                refine wpAnyH_take (i := 1) (oi := { dst := some 147, op := Op.move (Operand.tmp 146), type := 4, pos := "law.go:177", after := #[{ on := 0, ground := Ground.data }], guard := none }) (v := ?_) rfl (by kernel_rfl) (by kernel_rfl) (by kernel_rfl) (fun _ _ _ h => h) (Or.inl ⟨by rfl, ?_⟩) (by first | exact hHeld | assumption) ?_
                rotate_left 1
                · intro w hSw; (try dsimp only at hSw); go_simp; try (with_reducible rfl)
                try simp only [Act.put, List.setIfInBounds_toArray, List.set_cons_zero, List.set_cons_succ]
                refine wpAnyH_take (i := 2) (oi := { dst := some 148, op := Op.move (Operand.tmp 19), type := 41, pos := "law.go:177", after := #[{ on := 1, ground := Ground.guard }], guard := some (1, true) }) (v := ?_) rfl (by kernel_rfl) (by kernel_rfl) (by kernel_rfl) (fun _ _ _ h => h) (Or.inl ⟨by rfl, ?_⟩) (by first | exact hHeld | assumption) ?_
                rotate_left 1
                · intro w hSw; (try dsimp only at hSw); go_simp; try (with_reducible rfl)
                try simp only [Act.put, List.setIfInBounds_toArray, List.set_cons_zero, List.set_cons_succ]
                refine wpAnyH_take (i := 3) (oi := { dst := some 149, op := Op.move (Operand.tmp 2), type := 5, pos := "law.go:177", after := #[{ on := 1, ground := Ground.guard }], guard := some (1, true) }) (v := ?_) rfl (by kernel_rfl) (by kernel_rfl) (by kernel_rfl) (fun _ _ _ h => h) (Or.inl ⟨by rfl, ?_⟩) (by first | exact hHeld | assumption) ?_
                rotate_left 1
                · intro w hSw; (try dsimp only at hSw); go_simp; try (with_reducible rfl)
                try simp only [Act.put, List.setIfInBounds_toArray, List.set_cons_zero, List.set_cons_succ]
                refine wpAnyH_take (i := 4) (oi := { dst := some 150, op := Op.convert 5 3 (Operand.tmp 149), type := 3, pos := "law.go:177", after := #[{ on := 3, ground := Ground.data }, { on := 1, ground := Ground.guard }], guard := some (1, true) }) (v := ?_) rfl (by kernel_rfl) (by kernel_rfl) (by kernel_rfl) (fun _ _ _ h => h) (Or.inl ⟨by rfl, ?_⟩) (by first | exact hHeld | assumption) ?_
                rotate_left 1
                · intro w hSw; (try dsimp only at hSw); go_simp; try (with_reducible rfl)
                try simp only [Act.put, List.setIfInBounds_toArray, List.set_cons_zero, List.set_cons_succ]
                refine wpAnyH_ready (rs := [5]) (by kernel_rfl) (by simp) ?_
                refine AllReadyH.cons (o := { dst := some 151, op := Op.call { callee := Callee.value (Operand.func 20), args := #[Operand.const (Value.int IntKind.i64 0), Operand.tmp 150], argTypes := #[3, 3] }, type := 3, pos := "law.go:177", after := #[{ on := 4, ground := Ground.data }, { on := 1, ground := Ground.chain }, { on := 1, ground := Ground.guard }], guard := some (1, true) }) rfl (fun K hK => ?_) AllReadyH.nil
                · skip
                  go_simp
                  try rw [HWK.out]
                  refine (AR.out _).mono ?_; rintro e u1 ⟨rfl, b1⟩
                  have B1 := Lib.hid b1
                  clear b1 hHeld
                  have hHeld := SG.out u1 B1.out
                  go_wp2_with fail
                  refine hK.out _ _ hHeld (fun hHeld => ?_)
                  clear hK K
                  try simp only [Act.put, List.setIfInBounds_toArray, List.set_cons_zero, List.set_cons_succ]
                  refine wpAnyH_ready (rs := [6]) (by kernel_rfl) (by simp) ?_
                  refine AllReadyH.cons (o := { dst := some 152, op := Op.call { callee := Callee.value (Operand.func 26), args := #[Operand.tmp 151, Operand.const (Value.int IntKind.i64 0)], argTypes := #[3, 3] }, type := 41, pos := "law.go:177", after := #[{ on := 5, ground := Ground.data }, { on := 5, ground := Ground.chain }, { on := 1, ground := Ground.guard }], guard := some (1, true) }) rfl (fun K hK => ?_) AllReadyH.nil
                  · skip
                    go_simp
                    try rw [HWK.out]
                    refine (AT.out _).mono ?_; rintro e u2 ⟨rfl, b2⟩
                    have B2 := Lib.hid (below_next' B1.out b2)
                    clear b2 hHeld
                    have hHeld := SG.out u2 B2.out
                    go_wp2_with fail
                    refine hK.out _ _ hHeld (fun hHeld => ?_)
                    clear hK K
                    try simp only [Act.put, List.setIfInBounds_toArray, List.set_cons_zero, List.set_cons_succ]
                    refine wpAnyH_take (i := 7) (oi := { dst := some 153, op := Op.binOp BinOp.eql 41 (Operand.tmp 148) (Operand.tmp 152) 41, type := 4, pos := "law.go:177", after := #[{ on := 2, ground := Ground.data }, { on := 6, ground := Ground.data }, { on := 1, ground := Ground.guard }], guard := some (1, true) }) (v := ?_) rfl (by kernel_rfl) (by kernel_rfl) (by kernel_rfl) (fun _ _ _ h => h) (Or.inl ⟨by rfl, ?_⟩) (by first | exact hHeld | assumption) ?_
                    rotate_left 1
                    · intro w hSw; (try dsimp only at hSw); go_simp; try (with_reducible rfl)
                    try simp only [Act.put, List.setIfInBounds_toArray, List.set_cons_zero, List.set_cons_succ]
                    refine wpAnyH_take (i := 8) (oi := { dst := some 154, op := Op.pick (Operand.tmp 147) (Operand.tmp 153) (Operand.const (Value.bool false)), type := 4, pos := "law.go:177", after := #[{ on := 1, ground := Ground.data }, { on := 7, ground := Ground.data }], guard := none }) (v := ?_) rfl (by kernel_rfl) (by kernel_rfl) (by kernel_rfl) (fun _ _ _ h => h) (Or.inl ⟨by rfl, ?_⟩) (by first | exact hHeld | assumption) ?_
                    rotate_left 1
                    · intro w hSw; (try dsimp only at hSw); go_simp; try (with_reducible rfl)
                    try simp only [Act.put, List.setIfInBounds_toArray, List.set_cons_zero, List.set_cons_succ]
                    refine wpAnyH_take (i := 9) (oi := { dst := some 155, op := Op.move (Operand.tmp 154), type := 4, pos := "law.go:177", after := #[{ on := 8, ground := Ground.data }, { on := 6, ground := Ground.chain }], guard := none }) (v := ?_) rfl (by kernel_rfl) (by kernel_rfl) (by kernel_rfl) (fun _ _ _ h => h) (Or.inl ⟨by rfl, ?_⟩) (by first | exact hHeld | assumption) ?_
                    rotate_left 1
                    · intro w hSw; (try dsimp only at hSw); go_simp; try (with_reducible rfl)
                    try simp only [Act.put, List.setIfInBounds_toArray, List.set_cons_zero, List.set_cons_succ]
                    refine wpAnyH_take (i := 10) (oi := { dst := some 156, op := Op.move (Operand.tmp 21), type := 41, pos := "law.go:177", after := #[{ on := 9, ground := Ground.guard }], guard := some (9, true) }) (v := ?_) rfl (by kernel_rfl) (by kernel_rfl) (by kernel_rfl) (fun _ _ _ h => h) (Or.inl ⟨by rfl, ?_⟩) (by first | exact hHeld | assumption) ?_
                    rotate_left 1
                    · intro w hSw; (try dsimp only at hSw); go_simp; try (with_reducible rfl)
                    try simp only [Act.put, List.setIfInBounds_toArray, List.set_cons_zero, List.set_cons_succ]
                    refine wpAnyH_take (i := 11) (oi := { dst := some 157, op := Op.binOp BinOp.eql 41 (Operand.tmp 156) (Operand.const (Value.int IntKind.u64 0)) 41, type := 4, pos := "law.go:177", after := #[{ on := 10, ground := Ground.data }, { on := 9, ground := Ground.guard }], guard := some (9, true) }) (v := ?_) rfl (by kernel_rfl) (by kernel_rfl) (by kernel_rfl) (fun _ _ _ h => h) (Or.inl ⟨by rfl, ?_⟩) (by first | exact hHeld | assumption) ?_
                    rotate_left 1
                    · intro w hSw; (try dsimp only at hSw); go_simp; try (with_reducible rfl)
                    try simp only [Act.put, List.setIfInBounds_toArray, List.set_cons_zero, List.set_cons_succ]
                    refine wpAnyH_take (i := 12) (oi := { dst := some 158, op := Op.pick (Operand.tmp 155) (Operand.tmp 157) (Operand.const (Value.bool false)), type := 4, pos := "law.go:177", after := #[{ on := 9, ground := Ground.data }, { on := 11, ground := Ground.data }], guard := none }) (v := ?_) rfl (by kernel_rfl) (by kernel_rfl) (by kernel_rfl) (fun _ _ _ h => h) (Or.inl ⟨by rfl, ?_⟩) (by first | exact hHeld | assumption) ?_
                    rotate_left 1
                    · intro w hSw; (try dsimp only at hSw); go_simp; try (with_reducible rfl)
                    try simp only [Act.put, List.setIfInBounds_toArray, List.set_cons_zero, List.set_cons_succ]
                    refine wpAnyH_take (i := 13) (oi := { dst := some 159, op := Op.move (Operand.tmp 158), type := 4, pos := "law.go:177", after := #[{ on := 12, ground := Ground.data }, { on := 9, ground := Ground.chain }], guard := none }) (v := ?_) rfl (by kernel_rfl) (by kernel_rfl) (by kernel_rfl) (fun _ _ _ h => h) (Or.inl ⟨by rfl, ?_⟩) (by first | exact hHeld | assumption) ?_
                    rotate_left 1
                    · intro w hSw; (try dsimp only at hSw); go_simp; try (with_reducible rfl)
                    try simp only [Act.put, List.setIfInBounds_toArray, List.set_cons_zero, List.set_cons_succ]
                    refine wpAnyH_take (i := 14) (oi := { dst := some 160, op := Op.move (Operand.tmp 13), type := 46, pos := "law.go:177", after := #[{ on := 13, ground := Ground.guard }], guard := some (13, true) }) (v := ?_) rfl (by kernel_rfl) (by kernel_rfl) (by kernel_rfl) (fun _ _ _ h => h) (Or.inl ⟨by rfl, ?_⟩) (by first | exact hHeld | assumption) ?_
                    rotate_left 1
                    · intro w hSw; (try dsimp only at hSw); go_simp; try (with_reducible rfl)
                    try simp only [Act.put, List.setIfInBounds_toArray, List.set_cons_zero, List.set_cons_succ]
                    refine wpAnyH_take (i := 15) (oi := { dst := some 161, op := Op.call { callee := Callee.builtin Builtin.len, args := #[Operand.tmp 160], argTypes := #[46] }, type := 3, pos := "law.go:177", after := #[{ on := 14, ground := Ground.data }, { on := 13, ground := Ground.guard }], guard := some (13, true) }) (v := ?_) rfl (by kernel_rfl) (by kernel_rfl) (by kernel_rfl) (fun _ _ _ h => h) (Or.inl ⟨by rfl, ?_⟩) (by first | exact hHeld | assumption) ?_
                    rotate_left 1
                    · intro w hSw; (try dsimp only at hSw); go_simp; try (with_reducible rfl)
                    try simp only [Act.put, List.setIfInBounds_toArray, List.set_cons_zero, List.set_cons_succ]
                    refine wpAnyH_take (i := 16) (oi := { dst := some 162, op := Op.fieldAddr 53 (Operand.tmp 10) 3, type := 0, pos := "law.go:177", after := #[{ on := 13, ground := Ground.guard }], guard := some (13, true) }) (v := ?_) rfl (by kernel_rfl) (by kernel_rfl) (by kernel_rfl) (fun _ _ _ h => h) (Or.inl ⟨by rfl, ?_⟩) (by first | exact hHeld | assumption) ?_
                    rotate_left 1
                    · intro w hSw; (try dsimp only at hSw); go_simp; try (with_reducible rfl)
                    try simp only [Act.put, List.setIfInBounds_toArray, List.set_cons_zero, List.set_cons_succ]
                    refine wpAnyH_take (i := 17) (oi := { dst := some 163, op := Op.load 3 (Operand.tmp 162), type := 3, pos := "law.go:177", after := #[{ on := 16, ground := Ground.data }, { on := 13, ground := Ground.guard }], guard := some (13, true) }) (v := ?_) rfl (by kernel_rfl) (by kernel_rfl) (by kernel_rfl) (fun _ _ _ h => h) (Or.inl ⟨by rfl, ?_⟩) (by first | exact hHeld | assumption) ?_
                    rotate_left 1
                    · intro w hSw; (try dsimp only at hSw); go_simp; try (with_reducible rfl)
                    try simp only [Act.put, List.setIfInBounds_toArray, List.set_cons_zero, List.set_cons_succ]
                    refine wpAnyH_take (i := 18) (oi := { dst := some 164, op := Op.binOp BinOp.eql 3 (Operand.tmp 161) (Operand.tmp 163) 3, type := 4, pos := "law.go:177", after := #[{ on := 15, ground := Ground.data }, { on := 17, ground := Ground.data }, { on := 13, ground := Ground.guard }], guard := some (13, true) }) (v := ?_) rfl (by kernel_rfl) (by kernel_rfl) (by kernel_rfl) (fun _ _ _ h => h) (Or.inl ⟨by rfl, ?_⟩) (by first | exact hHeld | assumption) ?_
                    rotate_left 1
                    · intro w hSw; (try dsimp only at hSw); go_simp; try (with_reducible rfl)
                    try simp only [Act.put, List.setIfInBounds_toArray, List.set_cons_zero, List.set_cons_succ]
                    refine wpAnyH_take (i := 19) (oi := { dst := some 165, op := Op.pick (Operand.tmp 159) (Operand.tmp 164) (Operand.const (Value.bool false)), type := 4, pos := "law.go:177", after := #[{ on := 13, ground := Ground.data }, { on := 18, ground := Ground.data }], guard := none }) (v := ?_) rfl (by kernel_rfl) (by kernel_rfl) (by kernel_rfl) (fun _ _ _ h => h) (Or.inl ⟨by rfl, ?_⟩) (by first | exact hHeld | assumption) ?_
                    rotate_left 1
                    · intro w hSw; (try dsimp only at hSw); go_simp; try (with_reducible rfl)
                    try simp only [Act.put, List.setIfInBounds_toArray, List.set_cons_zero, List.set_cons_succ]
                    refine wpAnyH_take (i := 20) (oi := { dst := some 166, op := Op.move (Operand.tmp 165), type := 4, pos := "law.go:177", after := #[{ on := 19, ground := Ground.data }, { on := 13, ground := Ground.chain }], guard := none }) (v := ?_) rfl (by kernel_rfl) (by kernel_rfl) (by kernel_rfl) (fun _ _ _ h => h) (Or.inl ⟨by rfl, ?_⟩) (by first | exact hHeld | assumption) ?_
                    rotate_left 1
                    · intro w hSw; (try dsimp only at hSw); go_simp; try (with_reducible rfl)
                    try simp only [Act.put, List.setIfInBounds_toArray, List.set_cons_zero, List.set_cons_succ]
                    refine wpAnyH_take (i := 21) (oi := { dst := some 167, op := Op.move (Operand.tmp 13), type := 46, pos := "law.go:177", after := #[{ on := 20, ground := Ground.guard }], guard := some (20, true) }) (v := ?_) rfl (by kernel_rfl) (by kernel_rfl) (by kernel_rfl) (fun _ _ _ h => h) (Or.inl ⟨by rfl, ?_⟩) (by first | exact hHeld | assumption) ?_
                    rotate_left 1
                    · intro w hSw; (try dsimp only at hSw); go_simp; try (with_reducible rfl)
                    try simp only [Act.put, List.setIfInBounds_toArray, List.set_cons_zero, List.set_cons_succ]
                    refine wpAnyH_take (i := 22) (oi := { dst := some 168, op := Op.move (Operand.tmp 2), type := 5, pos := "law.go:177", after := #[{ on := 20, ground := Ground.guard }], guard := some (20, true) }) (v := ?_) rfl (by kernel_rfl) (by kernel_rfl) (by kernel_rfl) (fun _ _ _ h => h) (Or.inl ⟨by rfl, ?_⟩) (by first | exact hHeld | assumption) ?_
                    rotate_left 1
                    · intro w hSw; (try dsimp only at hSw); go_simp; try (with_reducible rfl)
                    try simp only [Act.put, List.setIfInBounds_toArray, List.set_cons_zero, List.set_cons_succ]
                    refine wpAnyH_take (i := 23) (oi := { dst := some 169, op := Op.indexAddr 46 (Operand.tmp 167) (Operand.tmp 168), type := 0, pos := "law.go:177", after := #[{ on := 21, ground := Ground.data }, { on := 22, ground := Ground.data }, { on := 20, ground := Ground.guard }], guard := some (20, true) }) (v := ?_) rfl (by kernel_rfl) (by kernel_rfl) (by kernel_rfl) (fun _ _ _ h => h) (Or.inl ⟨by rfl, ?_⟩) (by first | exact hHeld | assumption) ?_
                    rotate_left 1
                    · intro w hSw; (try dsimp only at hSw); go_simp; try (with_reducible rfl)
                    try simp only [Act.put, List.setIfInBounds_toArray, List.set_cons_zero, List.set_cons_succ]
                    refine wpAnyH_take (i := 24) (oi := { dst := some 170, op := Op.fieldAddr 60 (Operand.tmp 169) 1, type := 0, pos := "law.go:177", after := #[{ on := 23, ground := Ground.data }, { on := 20, ground := Ground.guard }], guard := some (20, true) }) (v := ?_) rfl (by kernel_rfl) (by kernel_rfl) (by kernel_rfl) (fun _ _ _ h => h) (Or.inl ⟨by rfl, ?_⟩) (by first | exact hHeld | assumption) ?_
                    rotate_left 1
                    · intro w hSw; (try dsimp only at hSw); go_simp; try (with_reducible rfl)
                    try simp only [Act.put, List.setIfInBounds_toArray, List.set_cons_zero, List.set_cons_succ]
                    refine wpAnyH_take (i := 25) (oi := { dst := some 171, op := Op.load 40 (Operand.tmp 170), type := 40, pos := "law.go:177", after := #[{ on := 24, ground := Ground.data }, { on := 20, ground := Ground.guard }], guard := some (20, true) }) (v := ?_) rfl (by kernel_rfl) (by kernel_rfl) (by kernel_rfl) (fun _ _ _ h => h) (Or.inl ⟨by rfl, ?_⟩) (by first | exact hHeld | assumption) ?_
                    rotate_left 1
                    · intro w hSw; (try dsimp only at hSw); go_simp; try (with_reducible rfl)
                    try simp only [Act.put, List.setIfInBounds_toArray, List.set_cons_zero, List.set_cons_succ]
                    refine wpAnyH_take (i := 26) (oi := { dst := some 172, op := Op.convert 40 9 (Operand.tmp 171), type := 9, pos := "law.go:177", after := #[{ on := 25, ground := Ground.data }, { on := 20, ground := Ground.guard }], guard := some (20, true) }) (v := ?_) rfl (by kernel_rfl) (by kernel_rfl) (by kernel_rfl) (fun _ _ _ h => h) (Or.inl ⟨by rfl, ?_⟩) (by first | exact hHeld | assumption) ?_
                    rotate_left 1
                    · intro w hSw; (try dsimp only at hSw); go_simp; try (with_reducible rfl)
                    try simp only [Act.put, List.setIfInBounds_toArray, List.set_cons_zero, List.set_cons_succ]
                    refine wpAnyH_take (i := 27) (oi := { dst := some 173, op := Op.move (Operand.tmp 17), type := 40, pos := "law.go:177", after := #[{ on := 20, ground := Ground.guard }], guard := some (20, true) }) (v := ?_) rfl (by kernel_rfl) (by kernel_rfl) (by kernel_rfl) (fun _ _ _ h => h) (Or.inl ⟨by rfl, ?_⟩) (by first | exact hHeld | assumption) ?_
                    rotate_left 1
                    · intro w hSw; (try dsimp only at hSw); go_simp; try (with_reducible rfl)
                    try simp only [Act.put, List.setIfInBounds_toArray, List.set_cons_zero, List.set_cons_succ]
                    refine wpAnyH_take (i := 28) (oi := { dst := some 174, op := Op.convert 40 9 (Operand.tmp 173), type := 9, pos := "law.go:177", after := #[{ on := 27, ground := Ground.data }, { on := 20, ground := Ground.guard }], guard := some (20, true) }) (v := ?_) rfl (by kernel_rfl) (by kernel_rfl) (by kernel_rfl) (fun _ _ _ h => h) (Or.inl ⟨by rfl, ?_⟩) (by first | exact hHeld | assumption) ?_
                    rotate_left 1
                    · intro w hSw; (try dsimp only at hSw); go_simp; try (with_reducible rfl)
                    try simp only [Act.put, List.setIfInBounds_toArray, List.set_cons_zero, List.set_cons_succ]
                    refine wpAnyH_take (i := 29) (oi := { dst := some 175, op := Op.binOp BinOp.eql 9 (Operand.tmp 172) (Operand.tmp 174) 9, type := 4, pos := "law.go:177", after := #[{ on := 26, ground := Ground.data }, { on := 28, ground := Ground.data }, { on := 20, ground := Ground.guard }], guard := some (20, true) }) (v := ?_) rfl (by kernel_rfl) (by kernel_rfl) (by kernel_rfl) (fun _ _ _ h => h) (Or.inl ⟨by rfl, ?_⟩) (by first | exact hHeld | assumption) ?_
                    rotate_left 1
                    · intro w hSw; (try dsimp only at hSw); go_simp; try (with_reducible rfl)
                    try simp only [Act.put, List.setIfInBounds_toArray, List.set_cons_zero, List.set_cons_succ]
                    refine wpAnyH_take (i := 30) (oi := { dst := some 176, op := Op.pick (Operand.tmp 166) (Operand.tmp 175) (Operand.const (Value.bool false)), type := 4, pos := "law.go:177", after := #[{ on := 20, ground := Ground.data }, { on := 29, ground := Ground.data }], guard := none }) (v := ?_) rfl (by kernel_rfl) (by kernel_rfl) (by kernel_rfl) (fun _ _ _ h => h) (Or.inl ⟨by rfl, ?_⟩) (by first | exact hHeld | assumption) ?_
                    rotate_left 1
                    · intro w hSw; (try dsimp only at hSw); go_simp; try (with_reducible rfl)
                    try simp only [Act.put, List.setIfInBounds_toArray, List.set_cons_zero, List.set_cons_succ]
                    refine wpAnyH_take (i := 31) (oi := { dst := some 8, op := Op.assign (Operand.tmp 176), type := 4, pos := "law.go:177", after := #[{ on := 30, ground := Ground.data }, { on := 20, ground := Ground.chain }, { on := 0, ground := Ground.phase }, { on := 1, ground := Ground.phase }, { on := 2, ground := Ground.phase }, { on := 3, ground := Ground.phase }, { on := 4, ground := Ground.phase }, { on := 5, ground := Ground.phase }, { on := 6, ground := Ground.phase }, { on := 7, ground := Ground.phase }, { on := 8, ground := Ground.phase }, { on := 9, ground := Ground.phase }, { on := 10, ground := Ground.phase }, { on := 11, ground := Ground.phase }, { on := 12, ground := Ground.phase }, { on := 13, ground := Ground.phase }, { on := 14, ground := Ground.phase }, { on := 15, ground := Ground.phase }, { on := 16, ground := Ground.phase }, { on := 17, ground := Ground.phase }, { on := 18, ground := Ground.phase }, { on := 19, ground := Ground.phase }, { on := 20, ground := Ground.phase }, { on := 21, ground := Ground.phase }, { on := 22, ground := Ground.phase }, { on := 23, ground := Ground.phase }, { on := 24, ground := Ground.phase }, { on := 25, ground := Ground.phase }, { on := 26, ground := Ground.phase }, { on := 27, ground := Ground.phase }, { on := 28, ground := Ground.phase }, { on := 29, ground := Ground.phase }, { on := 30, ground := Ground.phase }], guard := none }) (v := ?_) rfl (by kernel_rfl) (by kernel_rfl) (by kernel_rfl) (fun _ _ _ h => h) (Or.inl ⟨by rfl, ?_⟩) (by first | exact hHeld | assumption) ?_
                    rotate_left 1
                    · intro w hSw; (try dsimp only at hSw); go_simp; try (with_reducible rfl)
                    try simp only [Act.put, List.setIfInBounds_toArray, List.set_cons_zero, List.set_cons_succ]
                    refine wpAnyH_done (by kernel_rfl) ?_ _
                    clear hHeld SG
                    go_wp2_with fail
                    go_ret
                    exact ⟨rfl, BE.out.trans (B2.out.mono BE.out.size)⟩
              · have hkm' : (j : Int) ≤ kn := by omega
                rw [if_neg hkm] at LK PT
                dsimp only at LK PT
                have DR : Hid (∀ M u, Law w0 (sysT gt g [⟨nD V j, numL j, j⟩] M) sysO [(some ⟨gk, 0, none⟩, [(kn : Int), 0, 0, 0]), (some ⟨gv, 0, none⟩, List.replicate V n)] u → _) := Lib.hid fun M u h => lt_Drop 0 [(kn : Int), 0, 0, 0] (some ⟨gk, 0, none⟩) 4 4 h (by simp) (by simp) (okB_num (by omega)) rfl (Nat.le_refl _) (by unfold maxLen; omega)
                rw [nD_drop] at DR
                dsimp only at DR
                go_wp2_with fail
                refine (LK.out).mono ?_
                rintro e w5 ⟨rfl, b⟩
                replace QL := Lib.hid (QL.out.after b)
                clear b LK
                go_wp2_with fail
                refine (PT.out _ QL.out).mono ?_
                rintro e w6 ⟨rfl, q⟩
                replace QL := Lib.hid q
                clear q PT
                go_wp2_with fail
                refine (DR.out _ _ QL.out).mono ?_
                rintro e w7 ⟨rfl, q⟩
                replace QL := Lib.hid q
                clear q DR
                have hr3 := (HBK.out w7 QL.out.below).2
                go_wp2_with fail
                go_ret
                exact ⟨rfl, B0.out.trans (QL.out.below.mono B0.out.size)⟩

end Go.Proofs.Ytnnmcfklmmpdaaa


/-
  The statement TableNumbers: for all numbers, the law returns true, and its arguments read as they did.
  Conditions: none beyond the row's own.
-/
namespace Go.Proofs.Ytnnmcfklmmpdaaa
open Go.ChangeShapes Go.WideShapes Go.ChangeAt Go.RowKit
set_option linter.unusedVariables false

set_option maxRecDepth 100000 in
theorem tnumbers_lifted (os : Os) (started : os.Started) (H : Type) (enc : TypeId × Value → H) :
    ReturnsInHanded {} Try.checked os 5 .any (Rows.tableNumbersSpec.pre6 enc Try.prog Try.f5 Rows.tableNumbersRow.domain false) (Rows.tableNumbersSpec.post enc Try.prog Try.f5 false true false false) := by
  refine law_lifted (C := Try.checked) own_none started (by kernel_rfl) Try.func5
    (ChangeSpec.witness6 (enc := enc) (C := Try.checked) false ⟨#[], #[.int .u8 0, .int .u8 0, .int .u8 0, .int .u8 0], []⟩ 8 (by kernel_rfl) (by kernel_rfl) (by kernel_rfl) (by kernel_rfl))
    laid_out rfl rfl Try.underlying4 (by kernel_rfl) (fun ds hd => by match ds, hd with | [d1, d2, d3, d4], _ => rfl) ?_
  intro W base args ds p hval hA
  rw [Try.params5] at hval hA
  obtain ⟨v0, v1, v2, v3, d0, d1, d2, d3, p0, p1, p2, p3, rfl, rfl, rfl, h0, h1, h2, h3⟩ := trodAll_four hA
  obtain ⟨size, rfl, _, _, wsize⟩ := open_int Try.underlying5 (hval 0 _ _ rfl rfl) h0
  obtain ⟨most, rfl, _, _, wmost⟩ := open_int Try.underlying5 (hval 1 _ _ rfl rfl) h1
  obtain ⟨k, rfl, _, _, wk⟩ := open_int Try.underlying5 (hval 2 _ _ rfl rfl) h2
  obtain ⟨n, rfl, _, _, wn⟩ := open_int Try.underlying5 (hval 3 _ _ rfl rfl) h3
  exact l9_TableNumbers size most k n W (bounds_u8 wsize) (bounds_u8 wmost) (bounds_u8 wk) (bounds_u8 wn)

theorem tnumbers_holds : Rows.TableNumbersSaid :=
  OpenClaim.holds_of_wide 5 Try.f5 rfl rfl rfl rfl rfl rfl rfl ⟨rfl, rfl, rfl, rfl, rfl⟩ rfl rfl rfl rfl rfl (by kernel_rfl) Try.func5 (by kernel_rfl)
    (of_decide_eq_true (by kernel_rfl)) (by unfold Func.isWrapper; first | (rw [if_pos (by decide +kernel)]; kernel_rfl) | (rw [if_neg (by decide +kernel)]; exact ⟨rfl, rfl⟩))
    (fun os started H enc _ => tnumbers_lifted os started H enc)

#print axioms tnumbers_holds
end Go.Proofs.Ytnnmcfklmmpdaaa
