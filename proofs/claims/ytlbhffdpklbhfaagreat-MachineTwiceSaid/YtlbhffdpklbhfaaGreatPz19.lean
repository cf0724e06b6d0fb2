/-
  Texts, one behind the other: Code3l.
  Conditions: those that each theorem states.
-/
import Derived.Deep.RegionHeld3
import Derived.Deep.DeepCutAuto
import Derived.Deep.CutBlock
import Derived.Test.YtlbhffdpklbhfaaGreatPz18
namespace Go.Proofs.YtlbhffdpklbhfaaGreat
open Go.RowKit
set_option maxRecDepth 100000
set_option linter.unusedVariables false
set_option linter.unusedSimpArgs false
set_option maxRecDepth 100000 in
set_option maxHeartbeats 1000000 in
theorem c7_load_a (x : Ins) (s m : Int) (sg : Bool) (e0 : (m == 128) = sg) (e1 : (m == 96) = true)
    (C1 : Hid (∀ w, Calls Tryz.prog 177 #[iV x] w (Gives (.int .i64 s) w)))
    (C2 : Hid (∀ w, Calls Tryz.prog 178 #[iV x] w (Gives (.int .u8 m) w))) (w : World) :
    Calls Tryz.prog 146 #[iV x] w (Gives (.tuple #[whV (⟨5, 0, false, false, sg, s⟩ : Wh), .int .u8 13]) w) := by
  have P : Hid (IDuo x Wh.zero w ((w.alloc (.cells #[.int .u8 x.op, .int .u8 x.dst, .int .u8 x.src, .int .i16 x.off, .int .i32 x.imm] 63)).alloc (.cells #[.int .u8 0, .int .u8 0, .bool false, .bool false, .bool false, .int .i64 0] 96))) := Lib.hid (IDuo.new x Wh.zero w)
  go_enter Tryz.func146, Tryz.ntmps146
  go_upto_region 1 with fail
  go_cut [4] (fun sl wx => ∃ gb, sl = .pointer (some ⟨gb, 0, none⟩) ∧ w.heap.size + 1 < gb ∧ Hid (IDuo x Wh.zero w wx ∧ whB gb (⟨5, 0, false, false, sg, s⟩ : Wh) wx))
  case first =>
    generalize ((w.alloc (.cells #[.int .u8 x.op, .int .u8 x.dst, .int .u8 x.src, .int .i16 x.off, .int .i32 x.imm] 63)).alloc (.cells #[.int .u8 0, .int .u8 0, .bool false, .bool false, .bool false, .int .i64 0] 96)) = wS at *
    have PQ := Lib.hid (P.out.after (Below.drew (Below.refl _ _)))
    have H : Hid (∀ v wx, IDuo x v w wx → wx.cell? ⟨w.heap.size, 0, none⟩ = some (.int .u8 x.op) ∧ wx.cell? ⟨w.heap.size, 1, none⟩ = some (.int .u8 x.dst) ∧ wx.cell? ⟨w.heap.size, 2, none⟩ = some (.int .u8 x.src) ∧ wx.cell? ⟨w.heap.size, 3, none⟩ = some (.int .i16 x.off) ∧ wx.cell? ⟨w.heap.size, 4, none⟩ = some (.int .i32 x.imm)) := Lib.hid fun v wx hx => hx.2.1.cells
    refine wp_region_held_drew (S := (fun w' => w'.cell? ⟨w.heap.size, 0, none⟩ = some (.int .u8 x.op) ∧ w'.cell? ⟨w.heap.size, 1, none⟩ = some (.int .u8 x.dst) ∧ w'.cell? ⟨w.heap.size, 2, none⟩ = some (.int .u8 x.src) ∧ w'.cell? ⟨w.heap.size, 3, none⟩ = some (.int .i16 x.off) ∧ w'.cell? ⟨w.heap.size, 4, none⟩ = some (.int .i32 x.imm))) (by kernel_rfl) (H.out _ _ PQ.out) (fun hHeld => ?_)
    refine wpAnyH_take (i := 0) (v := ?_) rfl (by kernel_rfl) (by kernel_rfl) (by kernel_rfl) (fun _ _ _ h => h) (Or.inl ⟨by rfl, ?_⟩) (by assumption) ?_
    rotate_left 1
    · intro w hSw; (try dsimp only at hSw); go_simp; try (with_reducible rfl)
    try simp only [Act.put, List.setIfInBounds_toArray, List.set_cons_zero, List.set_cons_succ]
    refine wpAnyH_take (i := 2) (v := ?_) rfl (by kernel_rfl) (by kernel_rfl) (by kernel_rfl) (fun _ _ _ h => h) (Or.inl ⟨by rfl, ?_⟩) (by assumption) ?_
    rotate_left 1
    · intro w hSw; (try dsimp only at hSw); go_simp; try (with_reducible rfl)
    try simp only [Act.put, List.setIfInBounds_toArray, List.set_cons_zero, List.set_cons_succ]
    refine wpAnyH_ready (rs := [1, 6]) (by kernel_rfl) (by simp) ?_
    refine AllReadyH.cons rfl (fun K hK => ?_) (AllReadyH.cons rfl (fun K hK => ?_) AllReadyH.nil)
    · skip
      go_simp
      refine (C1.out _).mono ?_; rintro e w5 ⟨rfl, hb⟩
      replace PQ := Lib.hid (PQ.out.after hb)
      clear hb
      go_wp2_with fail
      refine hK.out _ _ (H.out _ _ PQ.out) (fun hHeld => ?_)
      clear hK K
      try simp only [Act.put, List.setIfInBounds_toArray, List.set_cons_zero, List.set_cons_succ]
      refine wpAnyH_ready (rs := [3, 6]) (by kernel_rfl) (by simp) ?_
      refine AllReadyH.cons rfl (fun K hK => ?_) (AllReadyH.cons rfl (fun K hK => ?_) AllReadyH.nil)
      · skip
        go_simp
        refine (C2.out _).mono ?_; rintro e w6 ⟨rfl, hb⟩
        replace PQ := Lib.hid (PQ.out.after hb)
        clear hb
        go_wp2_with fail
        refine hK.out _ _ (H.out _ _ PQ.out) (fun hHeld => ?_)
        clear hK K
        try simp only [Act.put, List.setIfInBounds_toArray, List.set_cons_zero, List.set_cons_succ]
        refine wpAnyH_take (i := 4) (v := ?_) rfl (by kernel_rfl) (by kernel_rfl) (by kernel_rfl) (fun _ _ _ h => h) (Or.inl ⟨by rfl, ?_⟩) (by assumption) ?_
        rotate_left 1
        · intro w hSw; (try dsimp only at hSw); go_simp; try (with_reducible rfl)
        try simp only [Act.put, List.setIfInBounds_toArray, List.set_cons_zero, List.set_cons_succ]
        refine wpAnyH_take (i := 5) (v := ?_) rfl (by kernel_rfl) (by kernel_rfl) (by kernel_rfl) (fun _ _ _ h => h) (Or.inl ⟨by rfl, ?_⟩) (by assumption) ?_
        rotate_left 1
        · intro w hSw; (try dsimp only at hSw); go_simp; try (with_reducible rfl)
        try simp only [Act.put, List.setIfInBounds_toArray, List.set_cons_zero, List.set_cons_succ]
        refine wpAnyH_ready (rs := [6]) (by kernel_rfl) (by simp) ?_
        refine AllReadyH.cons rfl (fun K hK => ?_) AllReadyH.nil
        go_simp
        have KG := PQ.out.2.2.lt
        have PR := PQ
        have PB : Hid (whB w6.heap.size Wh.zero _) := Lib.hid (whB.new w6 Wh.zero rfl)
        replace PQ := Lib.hid (PQ.out.after (below_alloc (Below.refl _ _) (.cells #[.int .u8 0, .int .u8 0, .bool false, .bool false, .bool false, .int .i64 0] 96)))
        refine hK.out _ _ (H.out _ _ PQ.out) (fun hHeld => ?_)
        clear hK K
        try simp only [Act.put, List.setIfInBounds_toArray, List.set_cons_zero, List.set_cons_succ]
        refine wpAnyH_ready (rs := [7]) (by kernel_rfl) (by simp) ?_
        refine AllReadyH.cons rfl (fun K hK => ?_) AllReadyH.nil
        go_simp
        replace PB : Hid (whB w6.heap.size (⟨5, 0, false, false, sg, s⟩ : Wh) _) := Lib.hid (whB.new w6 (⟨5, 0, false, false, sg, s⟩ : Wh) rfl)
        replace PQ := Lib.hid (PR.out.after (below_alloc (Below.refl _ _) (.cells (whCells (⟨5, 0, false, false, sg, s⟩ : Wh)) 96)))
        refine hK.out _ _ (H.out _ _ PQ.out) (fun hHeld => ?_)
        clear hK K
        try simp only [Act.put, List.setIfInBounds_toArray, List.set_cons_zero, List.set_cons_succ]
        refine wpAnyH_done (by kernel_rfl) ?_ _
        go_wp2_with fail
        go_meet
        exact ⟨_, rfl, KG, Lib.hid ⟨PQ.out, PB.out⟩⟩
      · skip
        go_simp
        have KG := PQ.out.2.2.lt
        have PR := PQ
        have PB : Hid (whB w5.heap.size Wh.zero _) := Lib.hid (whB.new w5 Wh.zero rfl)
        replace PQ := Lib.hid (PQ.out.after (below_alloc (Below.refl _ _) (.cells #[.int .u8 0, .int .u8 0, .bool false, .bool false, .bool false, .int .i64 0] 96)))
        refine hK.out _ _ (H.out _ _ PQ.out) (fun hHeld => ?_)
        clear hK K
        try simp only [Act.put, List.setIfInBounds_toArray, List.set_cons_zero, List.set_cons_succ]
        refine wpAnyH_ready (rs := [3]) (by kernel_rfl) (by simp) ?_
        refine AllReadyH.cons rfl (fun K hK => ?_) AllReadyH.nil
        go_simp
        refine (C2.out _).mono ?_; rintro e w6 ⟨rfl, hb⟩
        replace PQ := Lib.hid (PQ.out.after hb)
        replace PB := Lib.hid (PB.out.after hb)
        clear hb
        go_wp2_with fail
        refine hK.out _ _ (H.out _ _ PQ.out) (fun hHeld => ?_)
        clear hK K
        try simp only [Act.put, List.setIfInBounds_toArray, List.set_cons_zero, List.set_cons_succ]
        refine wpAnyH_take (i := 4) (v := ?_) rfl (by kernel_rfl) (by kernel_rfl) (by kernel_rfl) (fun _ _ _ h => h) (Or.inl ⟨by rfl, ?_⟩) (by assumption) ?_
        rotate_left 1
        · intro w hSw; (try dsimp only at hSw); go_simp; try (with_reducible rfl)
        try simp only [Act.put, List.setIfInBounds_toArray, List.set_cons_zero, List.set_cons_succ]
        refine wpAnyH_take (i := 5) (v := ?_) rfl (by kernel_rfl) (by kernel_rfl) (by kernel_rfl) (fun _ _ _ h => h) (Or.inl ⟨by rfl, ?_⟩) (by assumption) ?_
        rotate_left 1
        · intro w hSw; (try dsimp only at hSw); go_simp; try (with_reducible rfl)
        try simp only [Act.put, List.setIfInBounds_toArray, List.set_cons_zero, List.set_cons_succ]
        refine wpAnyH_ready (rs := [7]) (by kernel_rfl) (by simp) ?_
        refine AllReadyH.cons rfl (fun K hK => ?_) AllReadyH.nil
        obtain ⟨f0, f1, f2, f3, f4, f5⟩ := PB.out.free
        obtain ⟨z0, z1, z2, z3, z4, z5⟩ := PB.out.cells
        go_simp
        replace PQ := Lib.hid (iduo_whs' PQ.out (⟨5, 0, false, false, sg, s⟩ : Wh) KG)
        replace PB := Lib.hid (PB.out.set (⟨5, 0, false, false, sg, s⟩ : Wh))
        clear f0 f1 f2 f3 f4 f5 z0 z1 z2 z3 z4 z5
        refine hK.out _ _ (H.out _ _ PQ.out) (fun hHeld => ?_)
        clear hK K
        try simp only [Act.put, List.setIfInBounds_toArray, List.set_cons_zero, List.set_cons_succ]
        refine wpAnyH_done (by kernel_rfl) ?_ _
        go_wp2_with fail
        go_meet
        exact ⟨_, rfl, KG, Lib.hid ⟨PQ.out, PB.out⟩⟩
    · skip
      go_simp
      have KG := PQ.out.2.2.lt
      have PR := PQ
      have PB : Hid (whB wS.heap.size Wh.zero _) := Lib.hid (whB.new wS.drew Wh.zero rfl)
      replace PQ := Lib.hid (PQ.out.after (below_alloc (Below.refl _ _) (.cells #[.int .u8 0, .int .u8 0, .bool false, .bool false, .bool false, .int .i64 0] 96)))
      refine hK.out _ _ (H.out _ _ PQ.out) (fun hHeld => ?_)
      clear hK K
      try simp only [Act.put, List.setIfInBounds_toArray, List.set_cons_zero, List.set_cons_succ]
      refine wpAnyH_ready (rs := [1]) (by kernel_rfl) (by simp) ?_
      refine AllReadyH.cons rfl (fun K hK => ?_) AllReadyH.nil
      go_simp
      refine (C1.out _).mono ?_; rintro e w5 ⟨rfl, hb⟩
      replace PQ := Lib.hid (PQ.out.after hb)
      replace PB := Lib.hid (PB.out.after hb)
      clear hb
      go_wp2_with fail
      refine hK.out _ _ (H.out _ _ PQ.out) (fun hHeld => ?_)
      clear hK K
      try simp only [Act.put, List.setIfInBounds_toArray, List.set_cons_zero, List.set_cons_succ]
      refine wpAnyH_ready (rs := [3]) (by kernel_rfl) (by simp) ?_
      refine AllReadyH.cons rfl (fun K hK => ?_) AllReadyH.nil
      go_simp
      refine (C2.out _).mono ?_; rintro e w6 ⟨rfl, hb⟩
      replace PQ := Lib.hid (PQ.out.after hb)
      replace PB := Lib.hid (PB.out.after hb)
      clear hb
      go_wp2_with fail
      refine hK.out _ _ (H.out _ _ PQ.out) (fun hHeld => ?_)
      clear hK K
      try simp only [Act.put, List.setIfInBounds_toArray, List.set_cons_zero, List.set_cons_succ]
      refine wpAnyH_take (i := 4) (v := ?_) rfl (by kernel_rfl) (by kernel_rfl) (by kernel_rfl) (fun _ _ _ h => h) (Or.inl ⟨by rfl, ?_⟩) (by assumption) ?_
      rotate_left 1
      · intro w hSw; (try dsimp only at hSw); go_simp; try (with_reducible rfl)
      try simp only [Act.put, List.setIfInBounds_toArray, List.set_cons_zero, List.set_cons_succ]
      refine wpAnyH_take (i := 5) (v := ?_) rfl (by kernel_rfl) (by kernel_rfl) (by kernel_rfl) (fun _ _ _ h => h) (Or.inl ⟨by rfl, ?_⟩) (by assumption) ?_
      rotate_left 1
      · intro w hSw; (try dsimp only at hSw); go_simp; try (with_reducible rfl)
      try simp only [Act.put, List.setIfInBounds_toArray, List.set_cons_zero, List.set_cons_succ]
      refine wpAnyH_ready (rs := [7]) (by kernel_rfl) (by simp) ?_
      refine AllReadyH.cons rfl (fun K hK => ?_) AllReadyH.nil
      obtain ⟨f0, f1, f2, f3, f4, f5⟩ := PB.out.free
      obtain ⟨z0, z1, z2, z3, z4, z5⟩ := PB.out.cells
      go_simp
      replace PQ := Lib.hid (iduo_whs' PQ.out (⟨5, 0, false, false, sg, s⟩ : Wh) KG)
      replace PB := Lib.hid (PB.out.set (⟨5, 0, false, false, sg, s⟩ : Wh))
      clear f0 f1 f2 f3 f4 f5 z0 z1 z2 z3 z4 z5
      refine hK.out _ _ (H.out _ _ PQ.out) (fun hHeld => ?_)
      clear hK K
      try simp only [Act.put, List.setIfInBounds_toArray, List.set_cons_zero, List.set_cons_succ]
      refine wpAnyH_done (by kernel_rfl) ?_ _
      go_wp2_with fail
      go_meet
      exact ⟨_, rfl, KG, Lib.hid ⟨PQ.out, PB.out⟩⟩
  case rest =>
    clear P
    obtain ⟨gb, rfl, kg, Q⟩ := hcut
    obtain ⟨p0, p1, p2, p3, p4⟩ := Q.out.1.2.1.cells
    obtain ⟨f0, f1, f2, f3, f4, f5⟩ := Q.out.1.2.2.free
    obtain ⟨z0, z1, z2, z3, z4, z5⟩ := Q.out.1.2.2.cells
    obtain ⟨c0, c1, c2, c3, c4, c5⟩ := Q.out.2.cells
    have k1 := Q.out.1.2.1.lt
    have k2 := Q.out.1.2.2.lt
    have k3 := Q.out.2.lt
    go_wp2_with fail
    refine (C2.out _).mono ?_
    rintro e w8 ⟨rfl, hb⟩
    replace Q := Lib.hid (And.intro (Q.out.1.after hb) (Q.out.2.after hb))
    clear hb
    clear p0 p1 p2 p3 p4 f0 f1 f2 f3 f4 f5 z0 z1 z2 z3 z4 z5 c0 c1 c2 c3 c4 c5 k1 k2 k3
    obtain ⟨p0, p1, p2, p3, p4⟩ := Q.out.1.2.1.cells
    obtain ⟨f0, f1, f2, f3, f4, f5⟩ := Q.out.1.2.2.free
    obtain ⟨z0, z1, z2, z3, z4, z5⟩ := Q.out.1.2.2.cells
    obtain ⟨c0, c1, c2, c3, c4, c5⟩ := Q.out.2.cells
    have k1 := Q.out.1.2.1.lt
    have k2 := Q.out.1.2.2.lt
    have k3 := Q.out.2.lt
    have BB := Lib.hid (Q.out.1.set (⟨5, 0, false, false, sg, s⟩ : Wh)).1
    go_wp2_with fail
    exact bodyPost_ret (v := .tuple #[whV (⟨5, 0, false, false, sg, s⟩ : Wh), .int .u8 13]) (by simp [results, Tryz.results146, go_sem, z0, z1, z2, z3, z4, z5, k2, Wh.zero]) rfl ⟨rfl, BB.out⟩
set_option maxRecDepth 100000 in
set_option maxHeartbeats 1000000 in
theorem c7_load_b (x : Ins) (s m : Int) (sg : Bool) (e0 : (m == 128) = sg) (e1 : (m == 96) = false) (e2 : sg = true) (e3 : s < 8)
    (C1 : Hid (∀ w, Calls Tryz.prog 177 #[iV x] w (Gives (.int .i64 s) w)))
    (C2 : Hid (∀ w, Calls Tryz.prog 178 #[iV x] w (Gives (.int .u8 m) w))) (w : World) :
    Calls Tryz.prog 146 #[iV x] w (Gives (.tuple #[whV (⟨5, 0, false, false, sg, s⟩ : Wh), .int .u8 13]) w) := by
  have P : Hid (IDuo x Wh.zero w ((w.alloc (.cells #[.int .u8 x.op, .int .u8 x.dst, .int .u8 x.src, .int .i16 x.off, .int .i32 x.imm] 63)).alloc (.cells #[.int .u8 0, .int .u8 0, .bool false, .bool false, .bool false, .int .i64 0] 96))) := Lib.hid (IDuo.new x Wh.zero w)
  go_enter Tryz.func146, Tryz.ntmps146
  subst e2
  go_upto_region 1 with fail
  go_cut [4] (fun sl wx => ∃ gb, sl = .pointer (some ⟨gb, 0, none⟩) ∧ w.heap.size + 1 < gb ∧ Hid (IDuo x Wh.zero w wx ∧ whB gb (⟨5, 0, false, false, true, s⟩ : Wh) wx))
  case first =>
    generalize ((w.alloc (.cells #[.int .u8 x.op, .int .u8 x.dst, .int .u8 x.src, .int .i16 x.off, .int .i32 x.imm] 63)).alloc (.cells #[.int .u8 0, .int .u8 0, .bool false, .bool false, .bool false, .int .i64 0] 96)) = wS at *
    have PQ := Lib.hid (P.out.after (Below.drew (Below.refl _ _)))
    have H : Hid (∀ v wx, IDuo x v w wx → wx.cell? ⟨w.heap.size, 0, none⟩ = some (.int .u8 x.op) ∧ wx.cell? ⟨w.heap.size, 1, none⟩ = some (.int .u8 x.dst) ∧ wx.cell? ⟨w.heap.size, 2, none⟩ = some (.int .u8 x.src) ∧ wx.cell? ⟨w.heap.size, 3, none⟩ = some (.int .i16 x.off) ∧ wx.cell? ⟨w.heap.size, 4, none⟩ = some (.int .i32 x.imm)) := Lib.hid fun v wx hx => hx.2.1.cells
    refine wp_region_held_drew (S := (fun w' => w'.cell? ⟨w.heap.size, 0, none⟩ = some (.int .u8 x.op) ∧ w'.cell? ⟨w.heap.size, 1, none⟩ = some (.int .u8 x.dst) ∧ w'.cell? ⟨w.heap.size, 2, none⟩ = some (.int .u8 x.src) ∧ w'.cell? ⟨w.heap.size, 3, none⟩ = some (.int .i16 x.off) ∧ w'.cell? ⟨w.heap.size, 4, none⟩ = some (.int .i32 x.imm))) (by kernel_rfl) (H.out _ _ PQ.out) (fun hHeld => ?_)
    refine wpAnyH_take (i := 0) (v := ?_) rfl (by kernel_rfl) (by kernel_rfl) (by kernel_rfl) (fun _ _ _ h => h) (Or.inl ⟨by rfl, ?_⟩) (by assumption) ?_
    rotate_left 1
    · intro w hSw; (try dsimp only at hSw); go_simp; try (with_reducible rfl)
    try simp only [Act.put, List.setIfInBounds_toArray, List.set_cons_zero, List.set_cons_succ]
    refine wpAnyH_take (i := 2) (v := ?_) rfl (by kernel_rfl) (by kernel_rfl) (by kernel_rfl) (fun _ _ _ h => h) (Or.inl ⟨by rfl, ?_⟩) (by assumption) ?_
    rotate_left 1
    · intro w hSw; (try dsimp only at hSw); go_simp; try (with_reducible rfl)
    try simp only [Act.put, List.setIfInBounds_toArray, List.set_cons_zero, List.set_cons_succ]
    refine wpAnyH_ready (rs := [1, 6]) (by kernel_rfl) (by simp) ?_
    refine AllReadyH.cons rfl (fun K hK => ?_) (AllReadyH.cons rfl (fun K hK => ?_) AllReadyH.nil)
    · skip
      go_simp
      refine (C1.out _).mono ?_; rintro e w5 ⟨rfl, hb⟩
      replace PQ := Lib.hid (PQ.out.after hb)
      clear hb
      go_wp2_with fail
      refine hK.out _ _ (H.out _ _ PQ.out) (fun hHeld => ?_)
      clear hK K
      try simp only [Act.put, List.setIfInBounds_toArray, List.set_cons_zero, List.set_cons_succ]
      refine wpAnyH_ready (rs := [3, 6]) (by kernel_rfl) (by simp) ?_
      refine AllReadyH.cons rfl (fun K hK => ?_) (AllReadyH.cons rfl (fun K hK => ?_) AllReadyH.nil)
      · skip
        go_simp
        refine (C2.out _).mono ?_; rintro e w6 ⟨rfl, hb⟩
        replace PQ := Lib.hid (PQ.out.after hb)
        clear hb
        go_wp2_with fail
        refine hK.out _ _ (H.out _ _ PQ.out) (fun hHeld => ?_)
        clear hK K
        try simp only [Act.put, List.setIfInBounds_toArray, List.set_cons_zero, List.set_cons_succ]
        refine wpAnyH_take (i := 4) (v := ?_) rfl (by kernel_rfl) (by kernel_rfl) (by kernel_rfl) (fun _ _ _ h => h) (Or.inl ⟨by rfl, ?_⟩) (by assumption) ?_
        rotate_left 1
        · intro w hSw; (try dsimp only at hSw); go_simp; try (with_reducible rfl)
        try simp only [Act.put, List.setIfInBounds_toArray, List.set_cons_zero, List.set_cons_succ]
        refine wpAnyH_take (i := 5) (v := ?_) rfl (by kernel_rfl) (by kernel_rfl) (by kernel_rfl) (fun _ _ _ h => h) (Or.inl ⟨by rfl, ?_⟩) (by assumption) ?_
        rotate_left 1
        · intro w hSw; (try dsimp only at hSw); go_simp; try (with_reducible rfl)
        try simp only [Act.put, List.setIfInBounds_toArray, List.set_cons_zero, List.set_cons_succ]
        refine wpAnyH_ready (rs := [6]) (by kernel_rfl) (by simp) ?_
        refine AllReadyH.cons rfl (fun K hK => ?_) AllReadyH.nil
        go_simp
        have KG := PQ.out.2.2.lt
        have PR := PQ
        have PB : Hid (whB w6.heap.size Wh.zero _) := Lib.hid (whB.new w6 Wh.zero rfl)
        replace PQ := Lib.hid (PQ.out.after (below_alloc (Below.refl _ _) (.cells #[.int .u8 0, .int .u8 0, .bool false, .bool false, .bool false, .int .i64 0] 96)))
        refine hK.out _ _ (H.out _ _ PQ.out) (fun hHeld => ?_)
        clear hK K
        try simp only [Act.put, List.setIfInBounds_toArray, List.set_cons_zero, List.set_cons_succ]
        refine wpAnyH_ready (rs := [7]) (by kernel_rfl) (by simp) ?_
        refine AllReadyH.cons rfl (fun K hK => ?_) AllReadyH.nil
        go_simp
        replace PB : Hid (whB w6.heap.size (⟨5, 0, false, false, true, s⟩ : Wh) _) := Lib.hid (whB.new w6 (⟨5, 0, false, false, true, s⟩ : Wh) rfl)
        replace PQ := Lib.hid (PR.out.after (below_alloc (Below.refl _ _) (.cells (whCells (⟨5, 0, false, false, true, s⟩ : Wh)) 96)))
        refine hK.out _ _ (H.out _ _ PQ.out) (fun hHeld => ?_)
        clear hK K
        try simp only [Act.put, List.setIfInBounds_toArray, List.set_cons_zero, List.set_cons_succ]
        refine wpAnyH_done (by kernel_rfl) ?_ _
        go_wp2_with fail
        go_meet
        exact ⟨_, rfl, KG, Lib.hid ⟨PQ.out, PB.out⟩⟩
      · skip
        go_simp
        have KG := PQ.out.2.2.lt
        have PR := PQ
        have PB : Hid (whB w5.heap.size Wh.zero _) := Lib.hid (whB.new w5 Wh.zero rfl)
        replace PQ := Lib.hid (PQ.out.after (below_alloc (Below.refl _ _) (.cells #[.int .u8 0, .int .u8 0, .bool false, .bool false, .bool false, .int .i64 0] 96)))
        refine hK.out _ _ (H.out _ _ PQ.out) (fun hHeld => ?_)
        clear hK K
        try simp only [Act.put, List.setIfInBounds_toArray, List.set_cons_zero, List.set_cons_succ]
        refine wpAnyH_ready (rs := [3]) (by kernel_rfl) (by simp) ?_
        refine AllReadyH.cons rfl (fun K hK => ?_) AllReadyH.nil
        go_simp
        refine (C2.out _).mono ?_; rintro e w6 ⟨rfl, hb⟩
        replace PQ := Lib.hid (PQ.out.after hb)
        replace PB := Lib.hid (PB.out.after hb)
        clear hb
        go_wp2_with fail
        refine hK.out _ _ (H.out _ _ PQ.out) (fun hHeld => ?_)
        clear hK K
        try simp only [Act.put, List.setIfInBounds_toArray, List.set_cons_zero, List.set_cons_succ]
        refine wpAnyH_take (i := 4) (v := ?_) rfl (by kernel_rfl) (by kernel_rfl) (by kernel_rfl) (fun _ _ _ h => h) (Or.inl ⟨by rfl, ?_⟩) (by assumption) ?_
        rotate_left 1
        · intro w hSw; (try dsimp only at hSw); go_simp; try (with_reducible rfl)
        try simp only [Act.put, List.setIfInBounds_toArray, List.set_cons_zero, List.set_cons_succ]
        refine wpAnyH_take (i := 5) (v := ?_) rfl (by kernel_rfl) (by kernel_rfl) (by kernel_rfl) (fun _ _ _ h => h) (Or.inl ⟨by rfl, ?_⟩) (by assumption) ?_
        rotate_left 1
        · intro w hSw; (try dsimp only at hSw); go_simp; try (with_reducible rfl)
        try simp only [Act.put, List.setIfInBounds_toArray, List.set_cons_zero, List.set_cons_succ]
        refine wpAnyH_ready (rs := [7]) (by kernel_rfl) (by simp) ?_
        refine AllReadyH.cons rfl (fun K hK => ?_) AllReadyH.nil
        obtain ⟨f0, f1, f2, f3, f4, f5⟩ := PB.out.free
        obtain ⟨z0, z1, z2, z3, z4, z5⟩ := PB.out.cells
        go_simp
        replace PQ := Lib.hid (iduo_whs' PQ.out (⟨5, 0, false, false, true, s⟩ : Wh) KG)
        replace PB := Lib.hid (PB.out.set (⟨5, 0, false, false, true, s⟩ : Wh))
        clear f0 f1 f2 f3 f4 f5 z0 z1 z2 z3 z4 z5
        refine hK.out _ _ (H.out _ _ PQ.out) (fun hHeld => ?_)
        clear hK K
        try simp only [Act.put, List.setIfInBounds_toArray, List.set_cons_zero, List.set_cons_succ]
        refine wpAnyH_done (by kernel_rfl) ?_ _
        go_wp2_with fail
        go_meet
        exact ⟨_, rfl, KG, Lib.hid ⟨PQ.out, PB.out⟩⟩
    · skip
      go_simp
      have KG := PQ.out.2.2.lt
      have PR := PQ
      have PB : Hid (whB wS.heap.size Wh.zero _) := Lib.hid (whB.new wS.drew Wh.zero rfl)
      replace PQ := Lib.hid (PQ.out.after (below_alloc (Below.refl _ _) (.cells #[.int .u8 0, .int .u8 0, .bool false, .bool false, .bool false, .int .i64 0] 96)))
      refine hK.out _ _ (H.out _ _ PQ.out) (fun hHeld => ?_)
      clear hK K
      try simp only [Act.put, List.setIfInBounds_toArray, List.set_cons_zero, List.set_cons_succ]
      refine wpAnyH_ready (rs := [1]) (by kernel_rfl) (by simp) ?_
      refine AllReadyH.cons rfl (fun K hK => ?_) AllReadyH.nil
      go_simp
      refine (C1.out _).mono ?_; rintro e w5 ⟨rfl, hb⟩
      replace PQ := Lib.hid (PQ.out.after hb)
      replace PB := Lib.hid (PB.out.after hb)
      clear hb
      go_wp2_with fail
      refine hK.out _ _ (H.out _ _ PQ.out) (fun hHeld => ?_)
      clear hK K
      try simp only [Act.put, List.setIfInBounds_toArray, List.set_cons_zero, List.set_cons_succ]
      refine wpAnyH_ready (rs := [3]) (by kernel_rfl) (by simp) ?_
      refine AllReadyH.cons rfl (fun K hK => ?_) AllReadyH.nil
      go_simp
      refine (C2.out _).mono ?_; rintro e w6 ⟨rfl, hb⟩
      replace PQ := Lib.hid (PQ.out.after hb)
      replace PB := Lib.hid (PB.out.after hb)
      clear hb
      go_wp2_with fail
      refine hK.out _ _ (H.out _ _ PQ.out) (fun hHeld => ?_)
      clear hK K
      try simp only [Act.put, List.setIfInBounds_toArray, List.set_cons_zero, List.set_cons_succ]
      refine wpAnyH_take (i := 4) (v := ?_) rfl (by kernel_rfl) (by kernel_rfl) (by kernel_rfl) (fun _ _ _ h => h) (Or.inl ⟨by rfl, ?_⟩) (by assumption) ?_
      rotate_left 1
      · intro w hSw; (try dsimp only at hSw); go_simp; try (with_reducible rfl)
      try simp only [Act.put, List.setIfInBounds_toArray, List.set_cons_zero, List.set_cons_succ]
      refine wpAnyH_take (i := 5) (v := ?_) rfl (by kernel_rfl) (by kernel_rfl) (by kernel_rfl) (fun _ _ _ h => h) (Or.inl ⟨by rfl, ?_⟩) (by assumption) ?_
      rotate_left 1
      · intro w hSw; (try dsimp only at hSw); go_simp; try (with_reducible rfl)
      try simp only [Act.put, List.setIfInBounds_toArray, List.set_cons_zero, List.set_cons_succ]
      refine wpAnyH_ready (rs := [7]) (by kernel_rfl) (by simp) ?_
      refine AllReadyH.cons rfl (fun K hK => ?_) AllReadyH.nil
      obtain ⟨f0, f1, f2, f3, f4, f5⟩ := PB.out.free
      obtain ⟨z0, z1, z2, z3, z4, z5⟩ := PB.out.cells
      go_simp
      replace PQ := Lib.hid (iduo_whs' PQ.out (⟨5, 0, false, false, true, s⟩ : Wh) KG)
      replace PB := Lib.hid (PB.out.set (⟨5, 0, false, false, true, s⟩ : Wh))
      clear f0 f1 f2 f3 f4 f5 z0 z1 z2 z3 z4 z5
      refine hK.out _ _ (H.out _ _ PQ.out) (fun hHeld => ?_)
      clear hK K
      try simp only [Act.put, List.setIfInBounds_toArray, List.set_cons_zero, List.set_cons_succ]
      refine wpAnyH_done (by kernel_rfl) ?_ _
      go_wp2_with fail
      go_meet
      exact ⟨_, rfl, KG, Lib.hid ⟨PQ.out, PB.out⟩⟩
  case rest =>
    clear P
    obtain ⟨gb, rfl, kg, Q⟩ := hcut
    obtain ⟨p0, p1, p2, p3, p4⟩ := Q.out.1.2.1.cells
    obtain ⟨f0, f1, f2, f3, f4, f5⟩ := Q.out.1.2.2.free
    obtain ⟨z0, z1, z2, z3, z4, z5⟩ := Q.out.1.2.2.cells
    obtain ⟨c0, c1, c2, c3, c4, c5⟩ := Q.out.2.cells
    have k1 := Q.out.1.2.1.lt
    have k2 := Q.out.1.2.2.lt
    have k3 := Q.out.2.lt
    go_wp2_with fail
    refine (C2.out _).mono ?_
    rintro e w8 ⟨rfl, hb⟩
    replace Q := Lib.hid (And.intro (Q.out.1.after hb) (Q.out.2.after hb))
    clear hb
    clear p0 p1 p2 p3 p4 f0 f1 f2 f3 f4 f5 z0 z1 z2 z3 z4 z5 c0 c1 c2 c3 c4 c5 k1 k2 k3
    obtain ⟨p0, p1, p2, p3, p4⟩ := Q.out.1.2.1.cells
    obtain ⟨f0, f1, f2, f3, f4, f5⟩ := Q.out.1.2.2.free
    obtain ⟨z0, z1, z2, z3, z4, z5⟩ := Q.out.1.2.2.cells
    obtain ⟨c0, c1, c2, c3, c4, c5⟩ := Q.out.2.cells
    have k1 := Q.out.1.2.1.lt
    have k2 := Q.out.1.2.2.lt
    have k3 := Q.out.2.lt
    have BB := Lib.hid (Q.out.1.set (⟨5, 0, false, false, true, s⟩ : Wh)).1
    go_wp2_with fail
    exact bodyPost_ret (v := .tuple #[whV (⟨5, 0, false, false, true, s⟩ : Wh), .int .u8 13]) (by simp [results, Tryz.results146, go_sem, z0, z1, z2, z3, z4, z5, k2, Wh.zero]) rfl ⟨rfl, BB.out⟩
set_option maxRecDepth 100000 in
set_option maxHeartbeats 1000000 in
theorem c7_load_c (x : Ins) (s m : Int) (sg : Bool) (e0 : (m == 128) = sg) (e1 : (m == 96) = false) (e2 : sg = true) (e3 : 8 ≤ s)
    (C1 : Hid (∀ w, Calls Tryz.prog 177 #[iV x] w (Gives (.int .i64 s) w)))
    (C2 : Hid (∀ w, Calls Tryz.prog 178 #[iV x] w (Gives (.int .u8 m) w))) (w : World) :
    Calls Tryz.prog 146 #[iV x] w (Gives (.tuple #[whV Wh.zero, .int .u8 0]) w) := by
  have P : Hid (IDuo x Wh.zero w ((w.alloc (.cells #[.int .u8 x.op, .int .u8 x.dst, .int .u8 x.src, .int .i16 x.off, .int .i32 x.imm] 63)).alloc (.cells #[.int .u8 0, .int .u8 0, .bool false, .bool false, .bool false, .int .i64 0] 96))) := Lib.hid (IDuo.new x Wh.zero w)
  go_enter Tryz.func146, Tryz.ntmps146
  subst e2
  go_upto_region 1 with fail
  go_cut [4] (fun sl wx => ∃ gb, sl = .pointer (some ⟨gb, 0, none⟩) ∧ w.heap.size + 1 < gb ∧ Hid (IDuo x Wh.zero w wx ∧ whB gb (⟨5, 0, false, false, true, s⟩ : Wh) wx))
  case first =>
    generalize ((w.alloc (.cells #[.int .u8 x.op, .int .u8 x.dst, .int .u8 x.src, .int .i16 x.off, .int .i32 x.imm] 63)).alloc (.cells #[.int .u8 0, .int .u8 0, .bool false, .bool false, .bool false, .int .i64 0] 96)) = wS at *
    have PQ := Lib.hid (P.out.after (Below.drew (Below.refl _ _)))
    have H : Hid (∀ v wx, IDuo x v w wx → wx.cell? ⟨w.heap.size, 0, none⟩ = some (.int .u8 x.op) ∧ wx.cell? ⟨w.heap.size, 1, none⟩ = some (.int .u8 x.dst) ∧ wx.cell? ⟨w.heap.size, 2, none⟩ = some (.int .u8 x.src) ∧ wx.cell? ⟨w.heap.size, 3, none⟩ = some (.int .i16 x.off) ∧ wx.cell? ⟨w.heap.size, 4, none⟩ = some (.int .i32 x.imm)) := Lib.hid fun v wx hx => hx.2.1.cells
    refine wp_region_held_drew (S := (fun w' => w'.cell? ⟨w.heap.size, 0, none⟩ = some (.int .u8 x.op) ∧ w'.cell? ⟨w.heap.size, 1, none⟩ = some (.int .u8 x.dst) ∧ w'.cell? ⟨w.heap.size, 2, none⟩ = some (.int .u8 x.src) ∧ w'.cell? ⟨w.heap.size, 3, none⟩ = some (.int .i16 x.off) ∧ w'.cell? ⟨w.heap.size, 4, none⟩ = some (.int .i32 x.imm))) (by kernel_rfl) (H.out _ _ PQ.out) (fun hHeld => ?_)
    refine wpAnyH_take (i := 0) (v := ?_) rfl (by kernel_rfl) (by kernel_rfl) (by kernel_rfl) (fun _ _ _ h => h) (Or.inl ⟨by rfl, ?_⟩) (by assumption) ?_
    rotate_left 1
    · intro w hSw; (try dsimp only at hSw); go_simp; try (with_reducible rfl)
    try simp only [Act.put, List.setIfInBounds_toArray, List.set_cons_zero, List.set_cons_succ]
    refine wpAnyH_take (i := 2) (v := ?_) rfl (by kernel_rfl) (by kernel_rfl) (by kernel_rfl) (fun _ _ _ h => h) (Or.inl ⟨by rfl, ?_⟩) (by assumption) ?_
    rotate_left 1
    · intro w hSw; (try dsimp only at hSw); go_simp; try (with_reducible rfl)
    try simp only [Act.put, List.setIfInBounds_toArray, List.set_cons_zero, List.set_cons_succ]
    refine wpAnyH_ready (rs := [1, 6]) (by kernel_rfl) (by simp) ?_
    refine AllReadyH.cons rfl (fun K hK => ?_) (AllReadyH.cons rfl (fun K hK => ?_) AllReadyH.nil)
    · skip
      go_simp
      refine (C1.out _).mono ?_; rintro e w5 ⟨rfl, hb⟩
      replace PQ := Lib.hid (PQ.out.after hb)
      clear hb
      go_wp2_with fail
      refine hK.out _ _ (H.out _ _ PQ.out) (fun hHeld => ?_)
      clear hK K
      try simp only [Act.put, List.setIfInBounds_toArray, List.set_cons_zero, List.set_cons_succ]
      refine wpAnyH_ready (rs := [3, 6]) (by kernel_rfl) (by simp) ?_
      refine AllReadyH.cons rfl (fun K hK => ?_) (AllReadyH.cons rfl (fun K hK => ?_) AllReadyH.nil)
      · skip
        go_simp
        refine (C2.out _).mono ?_; rintro e w6 ⟨rfl, hb⟩
        replace PQ := Lib.hid (PQ.out.after hb)
        clear hb
        go_wp2_with fail
        refine hK.out _ _ (H.out _ _ PQ.out) (fun hHeld => ?_)
        clear hK K
        try simp only [Act.put, List.setIfInBounds_toArray, List.set_cons_zero, List.set_cons_succ]
        refine wpAnyH_take (i := 4) (v := ?_) rfl (by kernel_rfl) (by kernel_rfl) (by kernel_rfl) (fun _ _ _ h => h) (Or.inl ⟨by rfl, ?_⟩) (by assumption) ?_
        rotate_left 1
        · intro w hSw; (try dsimp only at hSw); go_simp; try (with_reducible rfl)
        try simp only [Act.put, List.setIfInBounds_toArray, List.set_cons_zero, List.set_cons_succ]
        refine wpAnyH_take (i := 5) (v := ?_) rfl (by kernel_rfl) (by kernel_rfl) (by kernel_rfl) (fun _ _ _ h => h) (Or.inl ⟨by rfl, ?_⟩) (by assumption) ?_
        rotate_left 1
        · intro w hSw; (try dsimp only at hSw); go_simp; try (with_reducible rfl)
        try simp only [Act.put, List.setIfInBounds_toArray, List.set_cons_zero, List.set_cons_succ]
        refine wpAnyH_ready (rs := [6]) (by kernel_rfl) (by simp) ?_
        refine AllReadyH.cons rfl (fun K hK => ?_) AllReadyH.nil
        go_simp
        have KG := PQ.out.2.2.lt
        have PR := PQ
        have PB : Hid (whB w6.heap.size Wh.zero _) := Lib.hid (whB.new w6 Wh.zero rfl)
        replace PQ := Lib.hid (PQ.out.after (below_alloc (Below.refl _ _) (.cells #[.int .u8 0, .int .u8 0, .bool false, .bool false, .bool false, .int .i64 0] 96)))
        refine hK.out _ _ (H.out _ _ PQ.out) (fun hHeld => ?_)
        clear hK K
        try simp only [Act.put, List.setIfInBounds_toArray, List.set_cons_zero, List.set_cons_succ]
        refine wpAnyH_ready (rs := [7]) (by kernel_rfl) (by simp) ?_
        refine AllReadyH.cons rfl (fun K hK => ?_) AllReadyH.nil
        go_simp
        replace PB : Hid (whB w6.heap.size (⟨5, 0, false, false, true, s⟩ : Wh) _) := Lib.hid (whB.new w6 (⟨5, 0, false, false, true, s⟩ : Wh) rfl)
        replace PQ := Lib.hid (PR.out.after (below_alloc (Below.refl _ _) (.cells (whCells (⟨5, 0, false, false, true, s⟩ : Wh)) 96)))
        refine hK.out _ _ (H.out _ _ PQ.out) (fun hHeld => ?_)
        clear hK K
        try simp only [Act.put, List.setIfInBounds_toArray, List.set_cons_zero, List.set_cons_succ]
        refine wpAnyH_done (by kernel_rfl) ?_ _
        go_wp2_with fail
        go_meet
        exact ⟨_, rfl, KG, Lib.hid ⟨PQ.out, PB.out⟩⟩
      · skip
        go_simp
        have KG := PQ.out.2.2.lt
        have PR := PQ
        have PB : Hid (whB w5.heap.size Wh.zero _) := Lib.hid (whB.new w5 Wh.zero rfl)
        replace PQ := Lib.hid (PQ.out.after (below_alloc (Below.refl _ _) (.cells #[.int .u8 0, .int .u8 0, .bool false, .bool false, .bool false, .int .i64 0] 96)))
        refine hK.out _ _ (H.out _ _ PQ.out) (fun hHeld => ?_)
        clear hK K
        try simp only [Act.put, List.setIfInBounds_toArray, List.set_cons_zero, List.set_cons_succ]
        refine wpAnyH_ready (rs := [3]) (by kernel_rfl) (by simp) ?_
        refine AllReadyH.cons rfl (fun K hK => ?_) AllReadyH.nil
        go_simp
        refine (C2.out _).mono ?_; rintro e w6 ⟨rfl, hb⟩
        replace PQ := Lib.hid (PQ.out.after hb)
        replace PB := Lib.hid (PB.out.after hb)
        clear hb
        go_wp2_with fail
        refine hK.out _ _ (H.out _ _ PQ.out) (fun hHeld => ?_)
        clear hK K
        try simp only [Act.put, List.setIfInBounds_toArray, List.set_cons_zero, List.set_cons_succ]
        refine wpAnyH_take (i := 4) (v := ?_) rfl (by kernel_rfl) (by kernel_rfl) (by kernel_rfl) (fun _ _ _ h => h) (Or.inl ⟨by rfl, ?_⟩) (by assumption) ?_
        rotate_left 1
        · intro w hSw; (try dsimp only at hSw); go_simp; try (with_reducible rfl)
        try simp only [Act.put, List.setIfInBounds_toArray, List.set_cons_zero, List.set_cons_succ]
        refine wpAnyH_take (i := 5) (v := ?_) rfl (by kernel_rfl) (by kernel_rfl) (by kernel_rfl) (fun _ _ _ h => h) (Or.inl ⟨by rfl, ?_⟩) (by assumption) ?_
        rotate_left 1
        · intro w hSw; (try dsimp only at hSw); go_simp; try (with_reducible rfl)
        try simp only [Act.put, List.setIfInBounds_toArray, List.set_cons_zero, List.set_cons_succ]
        refine wpAnyH_ready (rs := [7]) (by kernel_rfl) (by simp) ?_
        refine AllReadyH.cons rfl (fun K hK => ?_) AllReadyH.nil
        obtain ⟨f0, f1, f2, f3, f4, f5⟩ := PB.out.free
        obtain ⟨z0, z1, z2, z3, z4, z5⟩ := PB.out.cells
        go_simp
        replace PQ := Lib.hid (iduo_whs' PQ.out (⟨5, 0, false, false, true, s⟩ : Wh) KG)
        replace PB := Lib.hid (PB.out.set (⟨5, 0, false, false, true, s⟩ : Wh))
        clear f0 f1 f2 f3 f4 f5 z0 z1 z2 z3 z4 z5
        refine hK.out _ _ (H.out _ _ PQ.out) (fun hHeld => ?_)
        clear hK K
        try simp only [Act.put, List.setIfInBounds_toArray, List.set_cons_zero, List.set_cons_succ]
        refine wpAnyH_done (by kernel_rfl) ?_ _
        go_wp2_with fail
        go_meet
        exact ⟨_, rfl, KG, Lib.hid ⟨PQ.out, PB.out⟩⟩
    · skip
      go_simp
      have KG := PQ.out.2.2.lt
      have PR := PQ
      have PB : Hid (whB wS.heap.size Wh.zero _) := Lib.hid (whB.new wS.drew Wh.zero rfl)
      replace PQ := Lib.hid (PQ.out.after (below_alloc (Below.refl _ _) (.cells #[.int .u8 0, .int .u8 0, .bool false, .bool false, .bool false, .int .i64 0] 96)))
      refine hK.out _ _ (H.out _ _ PQ.out) (fun hHeld => ?_)
      clear hK K
      try simp only [Act.put, List.setIfInBounds_toArray, List.set_cons_zero, List.set_cons_succ]
      refine wpAnyH_ready (rs := [1]) (by kernel_rfl) (by simp) ?_
      refine AllReadyH.cons rfl (fun K hK => ?_) AllReadyH.nil
      go_simp
      refine (C1.out _).mono ?_; rintro e w5 ⟨rfl, hb⟩
      replace PQ := Lib.hid (PQ.out.after hb)
      replace PB := Lib.hid (PB.out.after hb)
      clear hb
      go_wp2_with fail
      refine hK.out _ _ (H.out _ _ PQ.out) (fun hHeld => ?_)
      clear hK K
      try simp only [Act.put, List.setIfInBounds_toArray, List.set_cons_zero, List.set_cons_succ]
      refine wpAnyH_ready (rs := [3]) (by kernel_rfl) (by simp) ?_
      refine AllReadyH.cons rfl (fun K hK => ?_) AllReadyH.nil
      go_simp
      refine (C2.out _).mono ?_; rintro e w6 ⟨rfl, hb⟩
      replace PQ := Lib.hid (PQ.out.after hb)
      replace PB := Lib.hid (PB.out.after hb)
      clear hb
      go_wp2_with fail
      refine hK.out _ _ (H.out _ _ PQ.out) (fun hHeld => ?_)
      clear hK K
      try simp only [Act.put, List.setIfInBounds_toArray, List.set_cons_zero, List.set_cons_succ]
      refine wpAnyH_take (i := 4) (v := ?_) rfl (by kernel_rfl) (by kernel_rfl) (by kernel_rfl) (fun _ _ _ h => h) (Or.inl ⟨by rfl, ?_⟩) (by assumption) ?_
      rotate_left 1
      · intro w hSw; (try dsimp only at hSw); go_simp; try (with_reducible rfl)
      try simp only [Act.put, List.setIfInBounds_toArray, List.set_cons_zero, List.set_cons_succ]
      refine wpAnyH_take (i := 5) (v := ?_) rfl (by kernel_rfl) (by kernel_rfl) (by kernel_rfl) (fun _ _ _ h => h) (Or.inl ⟨by rfl, ?_⟩) (by assumption) ?_
      rotate_left 1
      · intro w hSw; (try dsimp only at hSw); go_simp; try (with_reducible rfl)
      try simp only [Act.put, List.setIfInBounds_toArray, List.set_cons_zero, List.set_cons_succ]
      refine wpAnyH_ready (rs := [7]) (by kernel_rfl) (by simp) ?_
      refine AllReadyH.cons rfl (fun K hK => ?_) AllReadyH.nil
      obtain ⟨f0, f1, f2, f3, f4, f5⟩ := PB.out.free
      obtain ⟨z0, z1, z2, z3, z4, z5⟩ := PB.out.cells
      go_simp
      replace PQ := Lib.hid (iduo_whs' PQ.out (⟨5, 0, false, false, true, s⟩ : Wh) KG)
      replace PB := Lib.hid (PB.out.set (⟨5, 0, false, false, true, s⟩ : Wh))
      clear f0 f1 f2 f3 f4 f5 z0 z1 z2 z3 z4 z5
      refine hK.out _ _ (H.out _ _ PQ.out) (fun hHeld => ?_)
      clear hK K
      try simp only [Act.put, List.setIfInBounds_toArray, List.set_cons_zero, List.set_cons_succ]
      refine wpAnyH_done (by kernel_rfl) ?_ _
      go_wp2_with fail
      go_meet
      exact ⟨_, rfl, KG, Lib.hid ⟨PQ.out, PB.out⟩⟩
  case rest =>
    clear P
    obtain ⟨gb, rfl, kg, Q⟩ := hcut
    obtain ⟨p0, p1, p2, p3, p4⟩ := Q.out.1.2.1.cells
    obtain ⟨f0, f1, f2, f3, f4, f5⟩ := Q.out.1.2.2.free
    obtain ⟨z0, z1, z2, z3, z4, z5⟩ := Q.out.1.2.2.cells
    obtain ⟨c0, c1, c2, c3, c4, c5⟩ := Q.out.2.cells
    have k1 := Q.out.1.2.1.lt
    have k2 := Q.out.1.2.2.lt
    have k3 := Q.out.2.lt
    go_wp2_with fail
    refine (C2.out _).mono ?_
    rintro e w8 ⟨rfl, hb⟩
    replace Q := Lib.hid (And.intro (Q.out.1.after hb) (Q.out.2.after hb))
    clear hb
    clear p0 p1 p2 p3 p4 f0 f1 f2 f3 f4 f5 z0 z1 z2 z3 z4 z5 c0 c1 c2 c3 c4 c5 k1 k2 k3
    obtain ⟨p0, p1, p2, p3, p4⟩ := Q.out.1.2.1.cells
    obtain ⟨f0, f1, f2, f3, f4, f5⟩ := Q.out.1.2.2.free
    obtain ⟨z0, z1, z2, z3, z4, z5⟩ := Q.out.1.2.2.cells
    obtain ⟨c0, c1, c2, c3, c4, c5⟩ := Q.out.2.cells
    have k1 := Q.out.1.2.1.lt
    have k2 := Q.out.1.2.2.lt
    have k3 := Q.out.2.lt
    have BB := Lib.hid (Q.out.1.set Wh.zero).1
    go_wp2_with fail
    exact bodyPost_ret (v := .tuple #[whV Wh.zero, .int .u8 0]) (by simp [results, Tryz.results146, go_sem, z0, z1, z2, z3, z4, z5, k2, Wh.zero]) rfl ⟨rfl, BB.out⟩
set_option maxRecDepth 100000 in
set_option maxHeartbeats 1000000 in
theorem c7_load_d (x : Ins) (s m : Int) (sg : Bool) (e0 : (m == 128) = sg) (e1 : (m == 96) = false) (e2 : sg = false)
    (C1 : Hid (∀ w, Calls Tryz.prog 177 #[iV x] w (Gives (.int .i64 s) w)))
    (C2 : Hid (∀ w, Calls Tryz.prog 178 #[iV x] w (Gives (.int .u8 m) w))) (w : World) :
    Calls Tryz.prog 146 #[iV x] w (Gives (.tuple #[whV Wh.zero, .int .u8 0]) w) := by
  have P : Hid (IDuo x Wh.zero w ((w.alloc (.cells #[.int .u8 x.op, .int .u8 x.dst, .int .u8 x.src, .int .i16 x.off, .int .i32 x.imm] 63)).alloc (.cells #[.int .u8 0, .int .u8 0, .bool false, .bool false, .bool false, .int .i64 0] 96))) := Lib.hid (IDuo.new x Wh.zero w)
  go_enter Tryz.func146, Tryz.ntmps146
  subst e2
  go_upto_region 1 with fail
  go_cut [4] (fun sl wx => ∃ gb, sl = .pointer (some ⟨gb, 0, none⟩) ∧ w.heap.size + 1 < gb ∧ Hid (IDuo x Wh.zero w wx ∧ whB gb (⟨5, 0, false, false, false, s⟩ : Wh) wx))
  case first =>
    generalize ((w.alloc (.cells #[.int .u8 x.op, .int .u8 x.dst, .int .u8 x.src, .int .i16 x.off, .int .i32 x.imm] 63)).alloc (.cells #[.int .u8 0, .int .u8 0, .bool false, .bool false, .bool false, .int .i64 0] 96)) = wS at *
    have PQ := Lib.hid (P.out.after (Below.drew (Below.refl _ _)))
    have H : Hid (∀ v wx, IDuo x v w wx → wx.cell? ⟨w.heap.size, 0, none⟩ = some (.int .u8 x.op) ∧ wx.cell? ⟨w.heap.size, 1, none⟩ = some (.int .u8 x.dst) ∧ wx.cell? ⟨w.heap.size, 2, none⟩ = some (.int .u8 x.src) ∧ wx.cell? ⟨w.heap.size, 3, none⟩ = some (.int .i16 x.off) ∧ wx.cell? ⟨w.heap.size, 4, none⟩ = some (.int .i32 x.imm)) := Lib.hid fun v wx hx => hx.2.1.cells
    refine wp_region_held_drew (S := (fun w' => w'.cell? ⟨w.heap.size, 0, none⟩ = some (.int .u8 x.op) ∧ w'.cell? ⟨w.heap.size, 1, none⟩ = some (.int .u8 x.dst) ∧ w'.cell? ⟨w.heap.size, 2, none⟩ = some (.int .u8 x.src) ∧ w'.cell? ⟨w.heap.size, 3, none⟩ = some (.int .i16 x.off) ∧ w'.cell? ⟨w.heap.size, 4, none⟩ = some (.int .i32 x.imm))) (by kernel_rfl) (H.out _ _ PQ.out) (fun hHeld => ?_)
    refine wpAnyH_take (i := 0) (v := ?_) rfl (by kernel_rfl) (by kernel_rfl) (by kernel_rfl) (fun _ _ _ h => h) (Or.inl ⟨by rfl, ?_⟩) (by assumption) ?_
    rotate_left 1
    · intro w hSw; (try dsimp only at hSw); go_simp; try (with_reducible rfl)
    try simp only [Act.put, List.setIfInBounds_toArray, List.set_cons_zero, List.set_cons_succ]
    refine wpAnyH_take (i := 2) (v := ?_) rfl (by kernel_rfl) (by kernel_rfl) (by kernel_rfl) (fun _ _ _ h => h) (Or.inl ⟨by rfl, ?_⟩) (by assumption) ?_
    rotate_left 1
    · intro w hSw; (try dsimp only at hSw); go_simp; try (with_reducible rfl)
    try simp only [Act.put, List.setIfInBounds_toArray, List.set_cons_zero, List.set_cons_succ]
    refine wpAnyH_ready (rs := [1, 6]) (by kernel_rfl) (by simp) ?_
    refine AllReadyH.cons rfl (fun K hK => ?_) (AllReadyH.cons rfl (fun K hK => ?_) AllReadyH.nil)
    · skip
      go_simp
      refine (C1.out _).mono ?_; rintro e w5 ⟨rfl, hb⟩
      replace PQ := Lib.hid (PQ.out.after hb)
      clear hb
      go_wp2_with fail
      refine hK.out _ _ (H.out _ _ PQ.out) (fun hHeld => ?_)
      clear hK K
      try simp only [Act.put, List.setIfInBounds_toArray, List.set_cons_zero, List.set_cons_succ]
      refine wpAnyH_ready (rs := [3, 6]) (by kernel_rfl) (by simp) ?_
      refine AllReadyH.cons rfl (fun K hK => ?_) (AllReadyH.cons rfl (fun K hK => ?_) AllReadyH.nil)
      · skip
        go_simp
        refine (C2.out _).mono ?_; rintro e w6 ⟨rfl, hb⟩
        replace PQ := Lib.hid (PQ.out.after hb)
        clear hb
        go_wp2_with fail
        refine hK.out _ _ (H.out _ _ PQ.out) (fun hHeld => ?_)
        clear hK K
        try simp only [Act.put, List.setIfInBounds_toArray, List.set_cons_zero, List.set_cons_succ]
        refine wpAnyH_take (i := 4) (v := ?_) rfl (by kernel_rfl) (by kernel_rfl) (by kernel_rfl) (fun _ _ _ h => h) (Or.inl ⟨by rfl, ?_⟩) (by assumption) ?_
        rotate_left 1
        · intro w hSw; (try dsimp only at hSw); go_simp; try (with_reducible rfl)
        try simp only [Act.put, List.setIfInBounds_toArray, List.set_cons_zero, List.set_cons_succ]
        refine wpAnyH_take (i := 5) (v := ?_) rfl (by kernel_rfl) (by kernel_rfl) (by kernel_rfl) (fun _ _ _ h => h) (Or.inl ⟨by rfl, ?_⟩) (by assumption) ?_
        rotate_left 1
        · intro w hSw; (try dsimp only at hSw); go_simp; try (with_reducible rfl)
        try simp only [Act.put, List.setIfInBounds_toArray, List.set_cons_zero, List.set_cons_succ]
        refine wpAnyH_ready (rs := [6]) (by kernel_rfl) (by simp) ?_
        refine AllReadyH.cons rfl (fun K hK => ?_) AllReadyH.nil
        go_simp
        have KG := PQ.out.2.2.lt
        have PR := PQ
        have PB : Hid (whB w6.heap.size Wh.zero _) := Lib.hid (whB.new w6 Wh.zero rfl)
        replace PQ := Lib.hid (PQ.out.after (below_alloc (Below.refl _ _) (.cells #[.int .u8 0, .int .u8 0, .bool false, .bool false, .bool false, .int .i64 0] 96)))
        refine hK.out _ _ (H.out _ _ PQ.out) (fun hHeld => ?_)
        clear hK K
        try simp only [Act.put, List.setIfInBounds_toArray, List.set_cons_zero, List.set_cons_succ]
        refine wpAnyH_ready (rs := [7]) (by kernel_rfl) (by simp) ?_
        refine AllReadyH.cons rfl (fun K hK => ?_) AllReadyH.nil
        go_simp
        replace PB : Hid (whB w6.heap.size (⟨5, 0, false, false, false, s⟩ : Wh) _) := Lib.hid (whB.new w6 (⟨5, 0, false, false, false, s⟩ : Wh) rfl)
        replace PQ := Lib.hid (PR.out.after (below_alloc (Below.refl _ _) (.cells (whCells (⟨5, 0, false, false, false, s⟩ : Wh)) 96)))
        refine hK.out _ _ (H.out _ _ PQ.out) (fun hHeld => ?_)
        clear hK K
        try simp only [Act.put, List.setIfInBounds_toArray, List.set_cons_zero, List.set_cons_succ]
        refine wpAnyH_done (by kernel_rfl) ?_ _
        go_wp2_with fail
        go_meet
        exact ⟨_, rfl, KG, Lib.hid ⟨PQ.out, PB.out⟩⟩
      · skip
        go_simp
        have KG := PQ.out.2.2.lt
        have PR := PQ
        have PB : Hid (whB w5.heap.size Wh.zero _) := Lib.hid (whB.new w5 Wh.zero rfl)
        replace PQ := Lib.hid (PQ.out.after (below_alloc (Below.refl _ _) (.cells #[.int .u8 0, .int .u8 0, .bool false, .bool false, .bool false, .int .i64 0] 96)))
        refine hK.out _ _ (H.out _ _ PQ.out) (fun hHeld => ?_)
        clear hK K
        try simp only [Act.put, List.setIfInBounds_toArray, List.set_cons_zero, List.set_cons_succ]
        refine wpAnyH_ready (rs := [3]) (by kernel_rfl) (by simp) ?_
        refine AllReadyH.cons rfl (fun K hK => ?_) AllReadyH.nil
        go_simp
        refine (C2.out _).mono ?_; rintro e w6 ⟨rfl, hb⟩
        replace PQ := Lib.hid (PQ.out.after hb)
        replace PB := Lib.hid (PB.out.after hb)
        clear hb
        go_wp2_with fail
        refine hK.out _ _ (H.out _ _ PQ.out) (fun hHeld => ?_)
        clear hK K
        try simp only [Act.put, List.setIfInBounds_toArray, List.set_cons_zero, List.set_cons_succ]
        refine wpAnyH_take (i := 4) (v := ?_) rfl (by kernel_rfl) (by kernel_rfl) (by kernel_rfl) (fun _ _ _ h => h) (Or.inl ⟨by rfl, ?_⟩) (by assumption) ?_
        rotate_left 1
        · intro w hSw; (try dsimp only at hSw); go_simp; try (with_reducible rfl)
        try simp only [Act.put, List.setIfInBounds_toArray, List.set_cons_zero, List.set_cons_succ]
        refine wpAnyH_take (i := 5) (v := ?_) rfl (by kernel_rfl) (by kernel_rfl) (by kernel_rfl) (fun _ _ _ h => h) (Or.inl ⟨by rfl, ?_⟩) (by assumption) ?_
        rotate_left 1
        · intro w hSw; (try dsimp only at hSw); go_simp; try (with_reducible rfl)
        try simp only [Act.put, List.setIfInBounds_toArray, List.set_cons_zero, List.set_cons_succ]
        refine wpAnyH_ready (rs := [7]) (by kernel_rfl) (by simp) ?_
        refine AllReadyH.cons rfl (fun K hK => ?_) AllReadyH.nil
        obtain ⟨f0, f1, f2, f3, f4, f5⟩ := PB.out.free
        obtain ⟨z0, z1, z2, z3, z4, z5⟩ := PB.out.cells
        go_simp
        replace PQ := Lib.hid (iduo_whs' PQ.out (⟨5, 0, false, false, false, s⟩ : Wh) KG)
        replace PB := Lib.hid (PB.out.set (⟨5, 0, false, false, false, s⟩ : Wh))
        clear f0 f1 f2 f3 f4 f5 z0 z1 z2 z3 z4 z5
        refine hK.out _ _ (H.out _ _ PQ.out) (fun hHeld => ?_)
        clear hK K
        try simp only [Act.put, List.setIfInBounds_toArray, List.set_cons_zero, List.set_cons_succ]
        refine wpAnyH_done (by kernel_rfl) ?_ _
        go_wp2_with fail
        go_meet
        exact ⟨_, rfl, KG, Lib.hid ⟨PQ.out, PB.out⟩⟩
    · skip
      go_simp
      have KG := PQ.out.2.2.lt
      have PR := PQ
      have PB : Hid (whB wS.heap.size Wh.zero _) := Lib.hid (whB.new wS.drew Wh.zero rfl)
      replace PQ := Lib.hid (PQ.out.after (below_alloc (Below.refl _ _) (.cells #[.int .u8 0, .int .u8 0, .bool false, .bool false, .bool false, .int .i64 0] 96)))
      refine hK.out _ _ (H.out _ _ PQ.out) (fun hHeld => ?_)
      clear hK K
      try simp only [Act.put, List.setIfInBounds_toArray, List.set_cons_zero, List.set_cons_succ]
      refine wpAnyH_ready (rs := [1]) (by kernel_rfl) (by simp) ?_
      refine AllReadyH.cons rfl (fun K hK => ?_) AllReadyH.nil
      go_simp
      refine (C1.out _).mono ?_; rintro e w5 ⟨rfl, hb⟩
      replace PQ := Lib.hid (PQ.out.after hb)
      replace PB := Lib.hid (PB.out.after hb)
      clear hb
      go_wp2_with fail
      refine hK.out _ _ (H.out _ _ PQ.out) (fun hHeld => ?_)
      clear hK K
      try simp only [Act.put, List.setIfInBounds_toArray, List.set_cons_zero, List.set_cons_succ]
      refine wpAnyH_ready (rs := [3]) (by kernel_rfl) (by simp) ?_
      refine AllReadyH.cons rfl (fun K hK => ?_) AllReadyH.nil
      go_simp
      refine (C2.out _).mono ?_; rintro e w6 ⟨rfl, hb⟩
      replace PQ := Lib.hid (PQ.out.after hb)
      replace PB := Lib.hid (PB.out.after hb)
      clear hb
      go_wp2_with fail
      refine hK.out _ _ (H.out _ _ PQ.out) (fun hHeld => ?_)
      clear hK K
      try simp only [Act.put, List.setIfInBounds_toArray, List.set_cons_zero, List.set_cons_succ]
      refine wpAnyH_take (i := 4) (v := ?_) rfl (by kernel_rfl) (by kernel_rfl) (by kernel_rfl) (fun _ _ _ h => h) (Or.inl ⟨by rfl, ?_⟩) (by assumption) ?_
      rotate_left 1
      · intro w hSw; (try dsimp only at hSw); go_simp; try (with_reducible rfl)
      try simp only [Act.put, List.setIfInBounds_toArray, List.set_cons_zero, List.set_cons_succ]
      refine wpAnyH_take (i := 5) (v := ?_) rfl (by kernel_rfl) (by kernel_rfl) (by kernel_rfl) (fun _ _ _ h => h) (Or.inl ⟨by rfl, ?_⟩) (by assumption) ?_
      rotate_left 1
      · intro w hSw; (try dsimp only at hSw); go_simp; try (with_reducible rfl)
      try simp only [Act.put, List.setIfInBounds_toArray, List.set_cons_zero, List.set_cons_succ]
      refine wpAnyH_ready (rs := [7]) (by kernel_rfl) (by simp) ?_
      refine AllReadyH.cons rfl (fun K hK => ?_) AllReadyH.nil
      obtain ⟨f0, f1, f2, f3, f4, f5⟩ := PB.out.free
      obtain ⟨z0, z1, z2, z3, z4, z5⟩ := PB.out.cells
      go_simp
      replace PQ := Lib.hid (iduo_whs' PQ.out (⟨5, 0, false, false, false, s⟩ : Wh) KG)
      replace PB := Lib.hid (PB.out.set (⟨5, 0, false, false, false, s⟩ : Wh))
      clear f0 f1 f2 f3 f4 f5 z0 z1 z2 z3 z4 z5
      refine hK.out _ _ (H.out _ _ PQ.out) (fun hHeld => ?_)
      clear hK K
      try simp only [Act.put, List.setIfInBounds_toArray, List.set_cons_zero, List.set_cons_succ]
      refine wpAnyH_done (by kernel_rfl) ?_ _
      go_wp2_with fail
      go_meet
      exact ⟨_, rfl, KG, Lib.hid ⟨PQ.out, PB.out⟩⟩
  case rest =>
    clear P
    obtain ⟨gb, rfl, kg, Q⟩ := hcut
    obtain ⟨p0, p1, p2, p3, p4⟩ := Q.out.1.2.1.cells
    obtain ⟨f0, f1, f2, f3, f4, f5⟩ := Q.out.1.2.2.free
    obtain ⟨z0, z1, z2, z3, z4, z5⟩ := Q.out.1.2.2.cells
    obtain ⟨c0, c1, c2, c3, c4, c5⟩ := Q.out.2.cells
    have k1 := Q.out.1.2.1.lt
    have k2 := Q.out.1.2.2.lt
    have k3 := Q.out.2.lt
    go_wp2_with fail
    refine (C2.out _).mono ?_
    rintro e w8 ⟨rfl, hb⟩
    replace Q := Lib.hid (And.intro (Q.out.1.after hb) (Q.out.2.after hb))
    clear hb
    clear p0 p1 p2 p3 p4 f0 f1 f2 f3 f4 f5 z0 z1 z2 z3 z4 z5 c0 c1 c2 c3 c4 c5 k1 k2 k3
    obtain ⟨p0, p1, p2, p3, p4⟩ := Q.out.1.2.1.cells
    obtain ⟨f0, f1, f2, f3, f4, f5⟩ := Q.out.1.2.2.free
    obtain ⟨z0, z1, z2, z3, z4, z5⟩ := Q.out.1.2.2.cells
    obtain ⟨c0, c1, c2, c3, c4, c5⟩ := Q.out.2.cells
    have k1 := Q.out.1.2.1.lt
    have k2 := Q.out.1.2.2.lt
    have k3 := Q.out.2.lt
    have BB := Lib.hid (Q.out.1.set Wh.zero).1
    go_wp2_with fail
    exact bodyPost_ret (v := .tuple #[whV Wh.zero, .int .u8 0]) (by simp [results, Tryz.results146, go_sem, z0, z1, z2, z3, z4, z5, k2, Wh.zero]) rfl ⟨rfl, BB.out⟩
theorem c7_load (x : Ins) (hx : x.ok) (w : World) : Calls Tryz.prog 146 #[iV x] w (Gives (.tuple #[whV (tLoad x).1, .int .u8 (tLoad x).2]) w) := by
  have C1 := Lib.hid (c7_sizeOf x hx)
  have C2 := Lib.hid (c7_mode x hx)
  unfold tLoad
  generalize x.op / 32 * 32 = m at *
  generalize szT x.op = s at *
  cases h1 : (m == 96)
  rotate_left 1
  · exact c7_load_a x s m _ rfl h1 C1 C2 w
  cases h2 : (m == 128)
  · exact c7_load_d x s m _ h2 h1 rfl C1 C2 w
  by_cases h3 : s < 8
  · rw [decide_eq_true h3]
    exact c7_load_b x s m _ h2 h1 rfl h3 C1 C2 w
  · rw [decide_eq_false h3]
    exact c7_load_c x s m _ h2 h1 rfl (by omega) C1 C2 w
end Go.Proofs.YtlbhffdpklbhfaaGreat
