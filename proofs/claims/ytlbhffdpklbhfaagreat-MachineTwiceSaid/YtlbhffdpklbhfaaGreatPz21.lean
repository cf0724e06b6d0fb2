/-
  Texts, one behind the other: Code3a.
  Conditions: those that each theorem states.
-/
import Derived.Deep.RegionHeld3
import Derived.Deep.DeepCutAuto
import Derived.Deep.CutBlock
import Derived.Test.YtlbhffdpklbhfaaGreatPz18
namespace Go.Proofs.YtlbhffdpklbhfaaGreat
open Go.RowKit
set_option maxRecDepth 100000
set_option linter.unusedVariables false
set_option linter.unusedSimpArgs false
set_option maxRecDepth 100000 in
set_option maxHeartbeats 1000000 in
theorem c7_arith_a (x : Ins) (h c sc s1 s2 : Int) (b r ok : Bool) (e0 : (c == 7) = b) (q1 : bits .or .u8 1 sc = s1) (q2 : bits .or .u8 s1 8 = s2) (e1 : ok = false)
    (C2 : Hid (∀ w, Calls Tryz.prog 144 #[iV x] w (Gives (.int .u8 c) w)))
    (C1 : Hid (∀ w, Calls Tryz.prog 149 #[iV x] w (Gives (.int .u8 h) w)))
    (C3 : Hid (∀ w, Calls Tryz.prog 181 #[iV x] w (Gives (.bool r) w)))
    (C5 : Hid (∀ w, Calls Tryz.prog 183 #[iV x] w (Gives (.int .u8 sc) w)))
    (C4 : Hid (∀ w, Calls Tryz.prog 182 #[whV ⟨1, h, b, r, false, 0⟩, .int .i16 x.off] w (Gives (.bool ok) w))) (w : World) :
    Calls Tryz.prog 151 #[iV x] w (Gives (.tuple #[whV Wh.zero, .int .u8 0]) w) := by
  have P : Hid (IDuo x Wh.zero w ((w.alloc (.cells #[.int .u8 x.op, .int .u8 x.dst, .int .u8 x.src, .int .i16 x.off, .int .i32 x.imm] 63)).alloc (.cells #[.int .u8 0, .int .u8 0, .bool false, .bool false, .bool false, .int .i64 0] 96))) := Lib.hid (IDuo.new x Wh.zero w)
  go_enter Tryz.func151, Tryz.ntmps151
  subst e1
  go_upto_region 1 with fail
  go_cut [4] (fun sl wx => ∃ gb, sl = .pointer (some ⟨gb, 0, none⟩) ∧ w.heap.size + 1 < gb ∧ Hid (IDuo x Wh.zero w wx ∧ whB gb (⟨1, h, b, r, false, 0⟩ : Wh) wx))
  case first =>
    generalize ((w.alloc (.cells #[.int .u8 x.op, .int .u8 x.dst, .int .u8 x.src, .int .i16 x.off, .int .i32 x.imm] 63)).alloc (.cells #[.int .u8 0, .int .u8 0, .bool false, .bool false, .bool false, .int .i64 0] 96)) = wS at *
    have PQ := Lib.hid (P.out.after (Below.drew (Below.refl _ _)))
    have H : Hid (∀ v wx, IDuo x v w wx → wx.cell? ⟨w.heap.size, 0, none⟩ = some (.int .u8 x.op) ∧ wx.cell? ⟨w.heap.size, 1, none⟩ = some (.int .u8 x.dst) ∧ wx.cell? ⟨w.heap.size, 2, none⟩ = some (.int .u8 x.src) ∧ wx.cell? ⟨w.heap.size, 3, none⟩ = some (.int .i16 x.off) ∧ wx.cell? ⟨w.heap.size, 4, none⟩ = some (.int .i32 x.imm)) := Lib.hid fun v wx hx => hx.2.1.cells
    refine wp_region_held_drew (S := (fun w' => w'.cell? ⟨w.heap.size, 0, none⟩ = some (.int .u8 x.op) ∧ w'.cell? ⟨w.heap.size, 1, none⟩ = some (.int .u8 x.dst) ∧ w'.cell? ⟨w.heap.size, 2, none⟩ = some (.int .u8 x.src) ∧ w'.cell? ⟨w.heap.size, 3, none⟩ = some (.int .i16 x.off) ∧ w'.cell? ⟨w.heap.size, 4, none⟩ = some (.int .i32 x.imm))) (by kernel_rfl) (H.out _ _ PQ.out) (fun hHeld => ?_)
    refine wpAnyH_take (i := 0) (v := ?_) rfl (by kernel_rfl) (by kernel_rfl) (by kernel_rfl) (fun _ _ _ h => h) (Or.inl ⟨by rfl, ?_⟩) (by assumption) ?_
    rotate_left 1
    · intro w hSw; (try dsimp only at hSw); go_simp; try (with_reducible rfl)
    try simp only [Act.put, List.setIfInBounds_toArray, List.set_cons_zero, List.set_cons_succ]
    refine wpAnyH_take (i := 2) (v := ?_) rfl (by kernel_rfl) (by kernel_rfl) (by kernel_rfl) (fun _ _ _ h => h) (Or.inl ⟨by rfl, ?_⟩) (by assumption) ?_
    rotate_left 1
    · intro w hSw; (try dsimp only at hSw); go_simp; try (with_reducible rfl)
    try simp only [Act.put, List.setIfInBounds_toArray, List.set_cons_zero, List.set_cons_succ]
    refine wpAnyH_take (i := 5) (v := ?_) rfl (by kernel_rfl) (by kernel_rfl) (by kernel_rfl) (fun _ _ _ h => h) (Or.inl ⟨by rfl, ?_⟩) (by assumption) ?_
    rotate_left 1
    · intro w hSw; (try dsimp only at hSw); go_simp; try (with_reducible rfl)
    try simp only [Act.put, List.setIfInBounds_toArray, List.set_cons_zero, List.set_cons_succ]
    refine wpAnyH_ready (rs := [1, 8]) (by kernel_rfl) (by simp) ?_
    refine AllReadyH.cons rfl (fun K hK => ?_) (AllReadyH.cons rfl (fun K hK => ?_) AllReadyH.nil)
    · skip
      go_simp
      refine (C1.out _).mono ?_; rintro e w5 ⟨rfl, hb⟩
      replace PQ := Lib.hid (PQ.out.after hb)
      clear hb
      go_wp2_with fail
      refine hK.out _ _ (H.out _ _ PQ.out) (fun hHeld => ?_)
      clear hK K
      try simp only [Act.put, List.setIfInBounds_toArray, List.set_cons_zero, List.set_cons_succ]
      refine wpAnyH_ready (rs := [3, 8]) (by kernel_rfl) (by simp) ?_
      refine AllReadyH.cons rfl (fun K hK => ?_) (AllReadyH.cons rfl (fun K hK => ?_) AllReadyH.nil)
      · skip
        go_simp
        refine (C2.out _).mono ?_; rintro e w6 ⟨rfl, hb⟩
        replace PQ := Lib.hid (PQ.out.after hb)
        clear hb
        go_wp2_with fail
        refine hK.out _ _ (H.out _ _ PQ.out) (fun hHeld => ?_)
        clear hK K
        try simp only [Act.put, List.setIfInBounds_toArray, List.set_cons_zero, List.set_cons_succ]
        refine wpAnyH_take (i := 4) (v := ?_) rfl (by kernel_rfl) (by kernel_rfl) (by kernel_rfl) (fun _ _ _ h => h) (Or.inl ⟨by rfl, ?_⟩) (by assumption) ?_
        rotate_left 1
        · intro w hSw; (try dsimp only at hSw); go_simp; try (with_reducible rfl)
        try simp only [Act.put, List.setIfInBounds_toArray, List.set_cons_zero, List.set_cons_succ]
        refine wpAnyH_ready (rs := [6, 8]) (by kernel_rfl) (by simp) ?_
        refine AllReadyH.cons rfl (fun K hK => ?_) (AllReadyH.cons rfl (fun K hK => ?_) AllReadyH.nil)
        · skip
          go_simp
          refine (C3.out _).mono ?_; rintro e w7 ⟨rfl, hb⟩
          replace PQ := Lib.hid (PQ.out.after hb)
          clear hb
          go_wp2_with fail
          refine hK.out _ _ (H.out _ _ PQ.out) (fun hHeld => ?_)
          clear hK K
          try simp only [Act.put, List.setIfInBounds_toArray, List.set_cons_zero, List.set_cons_succ]
          refine wpAnyH_take (i := 7) (v := ?_) rfl (by kernel_rfl) (by kernel_rfl) (by kernel_rfl) (fun _ _ _ h => h) (Or.inl ⟨by rfl, ?_⟩) (by assumption) ?_
          rotate_left 1
          · intro w hSw; (try dsimp only at hSw); go_simp; try (with_reducible rfl)
          try simp only [Act.put, List.setIfInBounds_toArray, List.set_cons_zero, List.set_cons_succ]
          refine wpAnyH_ready (rs := [8]) (by kernel_rfl) (by simp) ?_
          refine AllReadyH.cons rfl (fun K hK => ?_) AllReadyH.nil
          go_simp
          have KG := PQ.out.2.2.lt
          have PR := PQ
          have PB : Hid (whB w7.heap.size Wh.zero _) := Lib.hid (whB.new w7 Wh.zero rfl)
          replace PQ := Lib.hid (PQ.out.after (below_alloc (Below.refl _ _) (.cells #[.int .u8 0, .int .u8 0, .bool false, .bool false, .bool false, .int .i64 0] 96)))
          refine hK.out _ _ (H.out _ _ PQ.out) (fun hHeld => ?_)
          clear hK K
          try simp only [Act.put, List.setIfInBounds_toArray, List.set_cons_zero, List.set_cons_succ]
          refine wpAnyH_ready (rs := [9]) (by kernel_rfl) (by simp) ?_
          refine AllReadyH.cons rfl (fun K hK => ?_) AllReadyH.nil
          go_simp
          replace PB : Hid (whB w7.heap.size (⟨1, h, b, r, false, 0⟩ : Wh) _) := Lib.hid (whB.new w7 (⟨1, h, b, r, false, 0⟩ : Wh) rfl)
          replace PQ := Lib.hid (PR.out.after (below_alloc (Below.refl _ _) (.cells (whCells (⟨1, h, b, r, false, 0⟩ : Wh)) 96)))
          refine hK.out _ _ (H.out _ _ PQ.out) (fun hHeld => ?_)
          clear hK K
          try simp only [Act.put, List.setIfInBounds_toArray, List.set_cons_zero, List.set_cons_succ]
          refine wpAnyH_done (by kernel_rfl) ?_ _
          go_wp2_with fail
          go_meet
          exact ⟨_, rfl, KG, Lib.hid ⟨PQ.out, PB.out⟩⟩
        · skip
          go_simp
          have KG := PQ.out.2.2.lt
          have PR := PQ
          have PB : Hid (whB w6.heap.size Wh.zero _) := Lib.hid (whB.new w6 Wh.zero rfl)
          replace PQ := Lib.hid (PQ.out.after (below_alloc (Below.refl _ _) (.cells #[.int .u8 0, .int .u8 0, .bool false, .bool false, .bool false, .int .i64 0] 96)))
          refine hK.out _ _ (H.out _ _ PQ.out) (fun hHeld => ?_)
          clear hK K
          try simp only [Act.put, List.setIfInBounds_toArray, List.set_cons_zero, List.set_cons_succ]
          refine wpAnyH_ready (rs := [6]) (by kernel_rfl) (by simp) ?_
          refine AllReadyH.cons rfl (fun K hK => ?_) AllReadyH.nil
          go_simp
          refine (C3.out _).mono ?_; rintro e w7 ⟨rfl, hb⟩
          replace PQ := Lib.hid (PQ.out.after hb)
          replace PB := Lib.hid (PB.out.after hb)
          clear hb
          go_wp2_with fail
          refine hK.out _ _ (H.out _ _ PQ.out) (fun hHeld => ?_)
          clear hK K
          try simp only [Act.put, List.setIfInBounds_toArray, List.set_cons_zero, List.set_cons_succ]
          refine wpAnyH_take (i := 7) (v := ?_) rfl (by kernel_rfl) (by kernel_rfl) (by kernel_rfl) (fun _ _ _ h => h) (Or.inl ⟨by rfl, ?_⟩) (by assumption) ?_
          rotate_left 1
          · intro w hSw; (try dsimp only at hSw); go_simp; try (with_reducible rfl)
          try simp only [Act.put, List.setIfInBounds_toArray, List.set_cons_zero, List.set_cons_succ]
          refine wpAnyH_ready (rs := [9]) (by kernel_rfl) (by simp) ?_
          refine AllReadyH.cons rfl (fun K hK => ?_) AllReadyH.nil
          obtain ⟨f0, f1, f2, f3, f4, f5⟩ := PB.out.free
          obtain ⟨z0, z1, z2, z3, z4, z5⟩ := PB.out.cells
          go_simp
          replace PQ := Lib.hid (iduo_whs' PQ.out (⟨1, h, b, r, false, 0⟩ : Wh) KG)
          replace PB := Lib.hid (PB.out.set (⟨1, h, b, r, false, 0⟩ : Wh))
          clear f0 f1 f2 f3 f4 f5 z0 z1 z2 z3 z4 z5
          refine hK.out _ _ (H.out _ _ PQ.out) (fun hHeld => ?_)
          clear hK K
          try simp only [Act.put, List.setIfInBounds_toArray, List.set_cons_zero, List.set_cons_succ]
          refine wpAnyH_done (by kernel_rfl) ?_ _
          go_wp2_with fail
          go_meet
          exact ⟨_, rfl, KG, Lib.hid ⟨PQ.out, PB.out⟩⟩
      · skip
        go_simp
        have KG := PQ.out.2.2.lt
        have PR := PQ
        have PB : Hid (whB w5.heap.size Wh.zero _) := Lib.hid (whB.new w5 Wh.zero rfl)
        replace PQ := Lib.hid (PQ.out.after (below_alloc (Below.refl _ _) (.cells #[.int .u8 0, .int .u8 0, .bool false, .bool false, .bool false, .int .i64 0] 96)))
        refine hK.out _ _ (H.out _ _ PQ.out) (fun hHeld => ?_)
        clear hK K
        try simp only [Act.put, List.setIfInBounds_toArray, List.set_cons_zero, List.set_cons_succ]
        refine wpAnyH_ready (rs := [3]) (by kernel_rfl) (by simp) ?_
        refine AllReadyH.cons rfl (fun K hK => ?_) AllReadyH.nil
        go_simp
        refine (C2.out _).mono ?_; rintro e w6 ⟨rfl, hb⟩
        replace PQ := Lib.hid (PQ.out.after hb)
        replace PB := Lib.hid (PB.out.after hb)
        clear hb
        go_wp2_with fail
        refine hK.out _ _ (H.out _ _ PQ.out) (fun hHeld => ?_)
        clear hK K
        try simp only [Act.put, List.setIfInBounds_toArray, List.set_cons_zero, List.set_cons_succ]
        refine wpAnyH_take (i := 4) (v := ?_) rfl (by kernel_rfl) (by kernel_rfl) (by kernel_rfl) (fun _ _ _ h => h) (Or.inl ⟨by rfl, ?_⟩) (by assumption) ?_
        rotate_left 1
        · intro w hSw; (try dsimp only at hSw); go_simp; try (with_reducible rfl)
        try simp only [Act.put, List.setIfInBounds_toArray, List.set_cons_zero, List.set_cons_succ]
        refine wpAnyH_ready (rs := [6]) (by kernel_rfl) (by simp) ?_
        refine AllReadyH.cons rfl (fun K hK => ?_) AllReadyH.nil
        go_simp
        refine (C3.out _).mono ?_; rintro e w7 ⟨rfl, hb⟩
        replace PQ := Lib.hid (PQ.out.after hb)
        replace PB := Lib.hid (PB.out.after hb)
        clear hb
        go_wp2_with fail
        refine hK.out _ _ (H.out _ _ PQ.out) (fun hHeld => ?_)
        clear hK K
        try simp only [Act.put, List.setIfInBounds_toArray, List.set_cons_zero, List.set_cons_succ]
        refine wpAnyH_take (i := 7) (v := ?_) rfl (by kernel_rfl) (by kernel_rfl) (by kernel_rfl) (fun _ _ _ h => h) (Or.inl ⟨by rfl, ?_⟩) (by assumption) ?_
        rotate_left 1
        · intro w hSw; (try dsimp only at hSw); go_simp; try (with_reducible rfl)
        try simp only [Act.put, List.setIfInBounds_toArray, List.set_cons_zero, List.set_cons_succ]
        refine wpAnyH_ready (rs := [9]) (by kernel_rfl) (by simp) ?_
        refine AllReadyH.cons rfl (fun K hK => ?_) AllReadyH.nil
        obtain ⟨f0, f1, f2, f3, f4, f5⟩ := PB.out.free
        obtain ⟨z0, z1, z2, z3, z4, z5⟩ := PB.out.cells
        go_simp
        replace PQ := Lib.hid (iduo_whs' PQ.out (⟨1, h, b, r, false, 0⟩ : Wh) KG)
        replace PB := Lib.hid (PB.out.set (⟨1, h, b, r, false, 0⟩ : Wh))
        clear f0 f1 f2 f3 f4 f5 z0 z1 z2 z3 z4 z5
        refine hK.out _ _ (H.out _ _ PQ.out) (fun hHeld => ?_)
        clear hK K
        try simp only [Act.put, List.setIfInBounds_toArray, List.set_cons_zero, List.set_cons_succ]
        refine wpAnyH_done (by kernel_rfl) ?_ _
        go_wp2_with fail
        go_meet
        exact ⟨_, rfl, KG, Lib.hid ⟨PQ.out, PB.out⟩⟩
    · skip
      go_simp
      have KG := PQ.out.2.2.lt
      have PR := PQ
      have PB : Hid (whB wS.heap.size Wh.zero _) := Lib.hid (whB.new wS.drew Wh.zero rfl)
      replace PQ := Lib.hid (PQ.out.after (below_alloc (Below.refl _ _) (.cells #[.int .u8 0, .int .u8 0, .bool false, .bool false, .bool false, .int .i64 0] 96)))
      refine hK.out _ _ (H.out _ _ PQ.out) (fun hHeld => ?_)
      clear hK K
      try simp only [Act.put, List.setIfInBounds_toArray, List.set_cons_zero, List.set_cons_succ]
      refine wpAnyH_ready (rs := [1]) (by kernel_rfl) (by simp) ?_
      refine AllReadyH.cons rfl (fun K hK => ?_) AllReadyH.nil
      go_simp
      refine (C1.out _).mono ?_; rintro e w5 ⟨rfl, hb⟩
      replace PQ := Lib.hid (PQ.out.after hb)
      replace PB := Lib.hid (PB.out.after hb)
      clear hb
      go_wp2_with fail
      refine hK.out _ _ (H.out _ _ PQ.out) (fun hHeld => ?_)
      clear hK K
      try simp only [Act.put, List.setIfInBounds_toArray, List.set_cons_zero, List.set_cons_succ]
      refine wpAnyH_ready (rs := [3]) (by kernel_rfl) (by simp) ?_
      refine AllReadyH.cons rfl (fun K hK => ?_) AllReadyH.nil
      go_simp
      refine (C2.out _).mono ?_; rintro e w6 ⟨rfl, hb⟩
      replace PQ := Lib.hid (PQ.out.after hb)
      replace PB := Lib.hid (PB.out.after hb)
      clear hb
      go_wp2_with fail
      refine hK.out _ _ (H.out _ _ PQ.out) (fun hHeld => ?_)
      clear hK K
      try simp only [Act.put, List.setIfInBounds_toArray, List.set_cons_zero, List.set_cons_succ]
      refine wpAnyH_take (i := 4) (v := ?_) rfl (by kernel_rfl) (by kernel_rfl) (by kernel_rfl) (fun _ _ _ h => h) (Or.inl ⟨by rfl, ?_⟩) (by assumption) ?_
      rotate_left 1
      · intro w hSw; (try dsimp only at hSw); go_simp; try (with_reducible rfl)
      try simp only [Act.put, List.setIfInBounds_toArray, List.set_cons_zero, List.set_cons_succ]
      refine wpAnyH_ready (rs := [6]) (by kernel_rfl) (by simp) ?_
      refine AllReadyH.cons rfl (fun K hK => ?_) AllReadyH.nil
      go_simp
      refine (C3.out _).mono ?_; rintro e w7 ⟨rfl, hb⟩
      replace PQ := Lib.hid (PQ.out.after hb)
      replace PB := Lib.hid (PB.out.after hb)
      clear hb
      go_wp2_with fail
      refine hK.out _ _ (H.out _ _ PQ.out) (fun hHeld => ?_)
      clear hK K
      try simp only [Act.put, List.setIfInBounds_toArray, List.set_cons_zero, List.set_cons_succ]
      refine wpAnyH_take (i := 7) (v := ?_) rfl (by kernel_rfl) (by kernel_rfl) (by kernel_rfl) (fun _ _ _ h => h) (Or.inl ⟨by rfl, ?_⟩) (by assumption) ?_
      rotate_left 1
      · intro w hSw; (try dsimp only at hSw); go_simp; try (with_reducible rfl)
      try simp only [Act.put, List.setIfInBounds_toArray, List.set_cons_zero, List.set_cons_succ]
      refine wpAnyH_ready (rs := [9]) (by kernel_rfl) (by simp) ?_
      refine AllReadyH.cons rfl (fun K hK => ?_) AllReadyH.nil
      obtain ⟨f0, f1, f2, f3, f4, f5⟩ := PB.out.free
      obtain ⟨z0, z1, z2, z3, z4, z5⟩ := PB.out.cells
      go_simp
      replace PQ := Lib.hid (iduo_whs' PQ.out (⟨1, h, b, r, false, 0⟩ : Wh) KG)
      replace PB := Lib.hid (PB.out.set (⟨1, h, b, r, false, 0⟩ : Wh))
      clear f0 f1 f2 f3 f4 f5 z0 z1 z2 z3 z4 z5
      refine hK.out _ _ (H.out _ _ PQ.out) (fun hHeld => ?_)
      clear hK K
      try simp only [Act.put, List.setIfInBounds_toArray, List.set_cons_zero, List.set_cons_succ]
      refine wpAnyH_done (by kernel_rfl) ?_ _
      go_wp2_with fail
      go_meet
      exact ⟨_, rfl, KG, Lib.hid ⟨PQ.out, PB.out⟩⟩
  case rest =>
    clear P
    obtain ⟨gb, rfl, kg, Q⟩ := hcut
    obtain ⟨p0, p1, p2, p3, p4⟩ := Q.out.1.2.1.cells
    obtain ⟨f0, f1, f2, f3, f4, f5⟩ := Q.out.1.2.2.free
    obtain ⟨z0, z1, z2, z3, z4, z5⟩ := Q.out.1.2.2.cells
    obtain ⟨c0, c1, c2, c3, c4, c5⟩ := Q.out.2.cells
    have k1 := Q.out.1.2.1.lt
    have k2 := Q.out.1.2.2.lt
    have k3 := Q.out.2.lt
    go_wp2_with fail
    refine (C4.out _).mono ?_
    rintro e w8 ⟨rfl, hb⟩
    replace Q := Lib.hid (And.intro (Q.out.1.after hb) (Q.out.2.after hb))
    clear hb
    clear p0 p1 p2 p3 p4 f0 f1 f2 f3 f4 f5 z0 z1 z2 z3 z4 z5 c0 c1 c2 c3 c4 c5 k1 k2 k3
    obtain ⟨p0, p1, p2, p3, p4⟩ := Q.out.1.2.1.cells
    obtain ⟨f0, f1, f2, f3, f4, f5⟩ := Q.out.1.2.2.free
    obtain ⟨z0, z1, z2, z3, z4, z5⟩ := Q.out.1.2.2.cells
    obtain ⟨c0, c1, c2, c3, c4, c5⟩ := Q.out.2.cells
    have k1 := Q.out.1.2.1.lt
    have k2 := Q.out.1.2.2.lt
    have k3 := Q.out.2.lt
    have BB := Lib.hid (Q.out.1.set Wh.zero).1
    go_wp2_with fail
    exact bodyPost_ret (v := .tuple #[whV Wh.zero, .int .u8 0]) (by simp [results, Tryz.results151, go_sem, z0, z1, z2, z3, z4, z5, k2, Wh.zero]) rfl ⟨rfl, BB.out⟩
set_option maxRecDepth 100000 in
set_option maxHeartbeats 1000000 in
theorem c7_arith_b (x : Ins) (h c sc s1 s2 : Int) (b r ok : Bool) (e0 : (c == 7) = b) (q1 : bits .or .u8 1 sc = s1) (q2 : bits .or .u8 s1 8 = s2) (e1 : ok = true) (e2 : (h != 128) = true)
    (C2 : Hid (∀ w, Calls Tryz.prog 144 #[iV x] w (Gives (.int .u8 c) w)))
    (C1 : Hid (∀ w, Calls Tryz.prog 149 #[iV x] w (Gives (.int .u8 h) w)))
    (C3 : Hid (∀ w, Calls Tryz.prog 181 #[iV x] w (Gives (.bool r) w)))
    (C5 : Hid (∀ w, Calls Tryz.prog 183 #[iV x] w (Gives (.int .u8 sc) w)))
    (C4 : Hid (∀ w, Calls Tryz.prog 182 #[whV ⟨1, h, b, r, false, 0⟩, .int .i16 x.off] w (Gives (.bool ok) w))) (w : World) :
    Calls Tryz.prog 151 #[iV x] w (Gives (.tuple #[whV (⟨1, h, b, r, false, 0⟩ : Wh), .int .u8 s2]) w) := by
  have P : Hid (IDuo x Wh.zero w ((w.alloc (.cells #[.int .u8 x.op, .int .u8 x.dst, .int .u8 x.src, .int .i16 x.off, .int .i32 x.imm] 63)).alloc (.cells #[.int .u8 0, .int .u8 0, .bool false, .bool false, .bool false, .int .i64 0] 96))) := Lib.hid (IDuo.new x Wh.zero w)
  go_enter Tryz.func151, Tryz.ntmps151
  subst e1
  go_upto_region 1 with fail
  go_cut [4] (fun sl wx => ∃ gb, sl = .pointer (some ⟨gb, 0, none⟩) ∧ w.heap.size + 1 < gb ∧ Hid (IDuo x Wh.zero w wx ∧ whB gb (⟨1, h, b, r, false, 0⟩ : Wh) wx))
  case first =>
    generalize ((w.alloc (.cells #[.int .u8 x.op, .int .u8 x.dst, .int .u8 x.src, .int .i16 x.off, .int .i32 x.imm] 63)).alloc (.cells #[.int .u8 0, .int .u8 0, .bool false, .bool false, .bool false, .int .i64 0] 96)) = wS at *
    have PQ := Lib.hid (P.out.after (Below.drew (Below.refl _ _)))
    have H : Hid (∀ v wx, IDuo x v w wx → wx.cell? ⟨w.heap.size, 0, none⟩ = some (.int .u8 x.op) ∧ wx.cell? ⟨w.heap.size, 1, none⟩ = some (.int .u8 x.dst) ∧ wx.cell? ⟨w.heap.size, 2, none⟩ = some (.int .u8 x.src) ∧ wx.cell? ⟨w.heap.size, 3, none⟩ = some (.int .i16 x.off) ∧ wx.cell? ⟨w.heap.size, 4, none⟩ = some (.int .i32 x.imm)) := Lib.hid fun v wx hx => hx.2.1.cells
    refine wp_region_held_drew (S := (fun w' => w'.cell? ⟨w.heap.size, 0, none⟩ = some (.int .u8 x.op) ∧ w'.cell? ⟨w.heap.size, 1, none⟩ = some (.int .u8 x.dst) ∧ w'.cell? ⟨w.heap.size, 2, none⟩ = some (.int .u8 x.src) ∧ w'.cell? ⟨w.heap.size, 3, none⟩ = some (.int .i16 x.off) ∧ w'.cell? ⟨w.heap.size, 4, none⟩ = some (.int .i32 x.imm))) (by kernel_rfl) (H.out _ _ PQ.out) (fun hHeld => ?_)
    refine wpAnyH_take (i := 0) (v := ?_) rfl (by kernel_rfl) (by kernel_rfl) (by kernel_rfl) (fun _ _ _ h => h) (Or.inl ⟨by rfl, ?_⟩) (by assumption) ?_
    rotate_left 1
    · intro w hSw; (try dsimp only at hSw); go_simp; try (with_reducible rfl)
    try simp only [Act.put, List.setIfInBounds_toArray, List.set_cons_zero, List.set_cons_succ]
    refine wpAnyH_take (i := 2) (v := ?_) rfl (by kernel_rfl) (by kernel_rfl) (by kernel_rfl) (fun _ _ _ h => h) (Or.inl ⟨by rfl, ?_⟩) (by assumption) ?_
    rotate_left 1
    · intro w hSw; (try dsimp only at hSw); go_simp; try (with_reducible rfl)
    try simp only [Act.put, List.setIfInBounds_toArray, List.set_cons_zero, List.set_cons_succ]
    refine wpAnyH_take (i := 5) (v := ?_) rfl (by kernel_rfl) (by kernel_rfl) (by kernel_rfl) (fun _ _ _ h => h) (Or.inl ⟨by rfl, ?_⟩) (by assumption) ?_
    rotate_left 1
    · intro w hSw; (try dsimp only at hSw); go_simp; try (with_reducible rfl)
    try simp only [Act.put, List.setIfInBounds_toArray, List.set_cons_zero, List.set_cons_succ]
    refine wpAnyH_ready (rs := [1, 8]) (by kernel_rfl) (by simp) ?_
    refine AllReadyH.cons rfl (fun K hK => ?_) (AllReadyH.cons rfl (fun K hK => ?_) AllReadyH.nil)
    · skip
      go_simp
      refine (C1.out _).mono ?_; rintro e w5 ⟨rfl, hb⟩
      replace PQ := Lib.hid (PQ.out.after hb)
      clear hb
      go_wp2_with fail
      refine hK.out _ _ (H.out _ _ PQ.out) (fun hHeld => ?_)
      clear hK K
      try simp only [Act.put, List.setIfInBounds_toArray, List.set_cons_zero, List.set_cons_succ]
      refine wpAnyH_ready (rs := [3, 8]) (by kernel_rfl) (by simp) ?_
      refine AllReadyH.cons rfl (fun K hK => ?_) (AllReadyH.cons rfl (fun K hK => ?_) AllReadyH.nil)
      · skip
        go_simp
        refine (C2.out _).mono ?_; rintro e w6 ⟨rfl, hb⟩
        replace PQ := Lib.hid (PQ.out.after hb)
        clear hb
        go_wp2_with fail
        refine hK.out _ _ (H.out _ _ PQ.out) (fun hHeld => ?_)
        clear hK K
        try simp only [Act.put, List.setIfInBounds_toArray, List.set_cons_zero, List.set_cons_succ]
        refine wpAnyH_take (i := 4) (v := ?_) rfl (by kernel_rfl) (by kernel_rfl) (by kernel_rfl) (fun _ _ _ h => h) (Or.inl ⟨by rfl, ?_⟩) (by assumption) ?_
        rotate_left 1
        · intro w hSw; (try dsimp only at hSw); go_simp; try (with_reducible rfl)
        try simp only [Act.put, List.setIfInBounds_toArray, List.set_cons_zero, List.set_cons_succ]
        refine wpAnyH_ready (rs := [6, 8]) (by kernel_rfl) (by simp) ?_
        refine AllReadyH.cons rfl (fun K hK => ?_) (AllReadyH.cons rfl (fun K hK => ?_) AllReadyH.nil)
        · skip
          go_simp
          refine (C3.out _).mono ?_; rintro e w7 ⟨rfl, hb⟩
          replace PQ := Lib.hid (PQ.out.after hb)
          clear hb
          go_wp2_with fail
          refine hK.out _ _ (H.out _ _ PQ.out) (fun hHeld => ?_)
          clear hK K
          try simp only [Act.put, List.setIfInBounds_toArray, List.set_cons_zero, List.set_cons_succ]
          refine wpAnyH_take (i := 7) (v := ?_) rfl (by kernel_rfl) (by kernel_rfl) (by kernel_rfl) (fun _ _ _ h => h) (Or.inl ⟨by rfl, ?_⟩) (by assumption) ?_
          rotate_left 1
          · intro w hSw; (try dsimp only at hSw); go_simp; try (with_reducible rfl)
          try simp only [Act.put, List.setIfInBounds_toArray, List.set_cons_zero, List.set_cons_succ]
          refine wpAnyH_ready (rs := [8]) (by kernel_rfl) (by simp) ?_
          refine AllReadyH.cons rfl (fun K hK => ?_) AllReadyH.nil
          go_simp
          have KG := PQ.out.2.2.lt
          have PR := PQ
          have PB : Hid (whB w7.heap.size Wh.zero _) := Lib.hid (whB.new w7 Wh.zero rfl)
          replace PQ := Lib.hid (PQ.out.after (below_alloc (Below.refl _ _) (.cells #[.int .u8 0, .int .u8 0, .bool false, .bool false, .bool false, .int .i64 0] 96)))
          refine hK.out _ _ (H.out _ _ PQ.out) (fun hHeld => ?_)
          clear hK K
          try simp only [Act.put, List.setIfInBounds_toArray, List.set_cons_zero, List.set_cons_succ]
          refine wpAnyH_ready (rs := [9]) (by kernel_rfl) (by simp) ?_
          refine AllReadyH.cons rfl (fun K hK => ?_) AllReadyH.nil
          go_simp
          replace PB : Hid (whB w7.heap.size (⟨1, h, b, r, false, 0⟩ : Wh) _) := Lib.hid (whB.new w7 (⟨1, h, b, r, false, 0⟩ : Wh) rfl)
          replace PQ := Lib.hid (PR.out.after (below_alloc (Below.refl _ _) (.cells (whCells (⟨1, h, b, r, false, 0⟩ : Wh)) 96)))
          refine hK.out _ _ (H.out _ _ PQ.out) (fun hHeld => ?_)
          clear hK K
          try simp only [Act.put, List.setIfInBounds_toArray, List.set_cons_zero, List.set_cons_succ]
          refine wpAnyH_done (by kernel_rfl) ?_ _
          go_wp2_with fail
          go_meet
          exact ⟨_, rfl, KG, Lib.hid ⟨PQ.out, PB.out⟩⟩
        · skip
          go_simp
          have KG := PQ.out.2.2.lt
          have PR := PQ
          have PB : Hid (whB w6.heap.size Wh.zero _) := Lib.hid (whB.new w6 Wh.zero rfl)
          replace PQ := Lib.hid (PQ.out.after (below_alloc (Below.refl _ _) (.cells #[.int .u8 0, .int .u8 0, .bool false, .bool false, .bool false, .int .i64 0] 96)))
          refine hK.out _ _ (H.out _ _ PQ.out) (fun hHeld => ?_)
          clear hK K
          try simp only [Act.put, List.setIfInBounds_toArray, List.set_cons_zero, List.set_cons_succ]
          refine wpAnyH_ready (rs := [6]) (by kernel_rfl) (by simp) ?_
          refine AllReadyH.cons rfl (fun K hK => ?_) AllReadyH.nil
          go_simp
          refine (C3.out _).mono ?_; rintro e w7 ⟨rfl, hb⟩
          replace PQ := Lib.hid (PQ.out.after hb)
          replace PB := Lib.hid (PB.out.after hb)
          clear hb
          go_wp2_with fail
          refine hK.out _ _ (H.out _ _ PQ.out) (fun hHeld => ?_)
          clear hK K
          try simp only [Act.put, List.setIfInBounds_toArray, List.set_cons_zero, List.set_cons_succ]
          refine wpAnyH_take (i := 7) (v := ?_) rfl (by kernel_rfl) (by kernel_rfl) (by kernel_rfl) (fun _ _ _ h => h) (Or.inl ⟨by rfl, ?_⟩) (by assumption) ?_
          rotate_left 1
          · intro w hSw; (try dsimp only at hSw); go_simp; try (with_reducible rfl)
          try simp only [Act.put, List.setIfInBounds_toArray, List.set_cons_zero, List.set_cons_succ]
          refine wpAnyH_ready (rs := [9]) (by kernel_rfl) (by simp) ?_
          refine AllReadyH.cons rfl (fun K hK => ?_) AllReadyH.nil
          obtain ⟨f0, f1, f2, f3, f4, f5⟩ := PB.out.free
          obtain ⟨z0, z1, z2, z3, z4, z5⟩ := PB.out.cells
          go_simp
          replace PQ := Lib.hid (iduo_whs' PQ.out (⟨1, h, b, r, false, 0⟩ : Wh) KG)
          replace PB := Lib.hid (PB.out.set (⟨1, h, b, r, false, 0⟩ : Wh))
          clear f0 f1 f2 f3 f4 f5 z0 z1 z2 z3 z4 z5
          refine hK.out _ _ (H.out _ _ PQ.out) (fun hHeld => ?_)
          clear hK K
          try simp only [Act.put, List.setIfInBounds_toArray, List.set_cons_zero, List.set_cons_succ]
          refine wpAnyH_done (by kernel_rfl) ?_ _
          go_wp2_with fail
          go_meet
          exact ⟨_, rfl, KG, Lib.hid ⟨PQ.out, PB.out⟩⟩
      · skip
        go_simp
        have KG := PQ.out.2.2.lt
        have PR := PQ
        have PB : Hid (whB w5.heap.size Wh.zero _) := Lib.hid (whB.new w5 Wh.zero rfl)
        replace PQ := Lib.hid (PQ.out.after (below_alloc (Below.refl _ _) (.cells #[.int .u8 0, .int .u8 0, .bool false, .bool false, .bool false, .int .i64 0] 96)))
        refine hK.out _ _ (H.out _ _ PQ.out) (fun hHeld => ?_)
        clear hK K
        try simp only [Act.put, List.setIfInBounds_toArray, List.set_cons_zero, List.set_cons_succ]
        refine wpAnyH_ready (rs := [3]) (by kernel_rfl) (by simp) ?_
        refine AllReadyH.cons rfl (fun K hK => ?_) AllReadyH.nil
        go_simp
        refine (C2.out _).mono ?_; rintro e w6 ⟨rfl, hb⟩
        replace PQ := Lib.hid (PQ.out.after hb)
        replace PB := Lib.hid (PB.out.after hb)
        clear hb
        go_wp2_with fail
        refine hK.out _ _ (H.out _ _ PQ.out) (fun hHeld => ?_)
        clear hK K
        try simp only [Act.put, List.setIfInBounds_toArray, List.set_cons_zero, List.set_cons_succ]
        refine wpAnyH_take (i := 4) (v := ?_) rfl (by kernel_rfl) (by kernel_rfl) (by kernel_rfl) (fun _ _ _ h => h) (Or.inl ⟨by rfl, ?_⟩) (by assumption) ?_
        rotate_left 1
        · intro w hSw; (try dsimp only at hSw); go_simp; try (with_reducible rfl)
        try simp only [Act.put, List.setIfInBounds_toArray, List.set_cons_zero, List.set_cons_succ]
        refine wpAnyH_ready (rs := [6]) (by kernel_rfl) (by simp) ?_
        refine AllReadyH.cons rfl (fun K hK => ?_) AllReadyH.nil
        go_simp
        refine (C3.out _).mono ?_; rintro e w7 ⟨rfl, hb⟩
        replace PQ := Lib.hid (PQ.out.after hb)
        replace PB := Lib.hid (PB.out.after hb)
        clear hb
        go_wp2_with fail
        refine hK.out _ _ (H.out _ _ PQ.out) (fun hHeld => ?_)
        clear hK K
        try simp only [Act.put, List.setIfInBounds_toArray, List.set_cons_zero, List.set_cons_succ]
        refine wpAnyH_take (i := 7) (v := ?_) rfl (by kernel_rfl) (by kernel_rfl) (by kernel_rfl) (fun _ _ _ h => h) (Or.inl ⟨by rfl, ?_⟩) (by assumption) ?_
        rotate_left 1
        · intro w hSw; (try dsimp only at hSw); go_simp; try (with_reducible rfl)
        try simp only [Act.put, List.setIfInBounds_toArray, List.set_cons_zero, List.set_cons_succ]
        refine wpAnyH_ready (rs := [9]) (by kernel_rfl) (by simp) ?_
        refine AllReadyH.cons rfl (fun K hK => ?_) AllReadyH.nil
        obtain ⟨f0, f1, f2, f3, f4, f5⟩ := PB.out.free
        obtain ⟨z0, z1, z2, z3, z4, z5⟩ := PB.out.cells
        go_simp
        replace PQ := Lib.hid (iduo_whs' PQ.out (⟨1, h, b, r, false, 0⟩ : Wh) KG)
        replace PB := Lib.hid (PB.out.set (⟨1, h, b, r, false, 0⟩ : Wh))
        clear f0 f1 f2 f3 f4 f5 z0 z1 z2 z3 z4 z5
        refine hK.out _ _ (H.out _ _ PQ.out) (fun hHeld => ?_)
        clear hK K
        try simp only [Act.put, List.setIfInBounds_toArray, List.set_cons_zero, List.set_cons_succ]
        refine wpAnyH_done (by kernel_rfl) ?_ _
        go_wp2_with fail
        go_meet
        exact ⟨_, rfl, KG, Lib.hid ⟨PQ.out, PB.out⟩⟩
    · skip
      go_simp
      have KG := PQ.out.2.2.lt
      have PR := PQ
      have PB : Hid (whB wS.heap.size Wh.zero _) := Lib.hid (whB.new wS.drew Wh.zero rfl)
      replace PQ := Lib.hid (PQ.out.after (below_alloc (Below.refl _ _) (.cells #[.int .u8 0, .int .u8 0, .bool false, .bool false, .bool false, .int .i64 0] 96)))
      refine hK.out _ _ (H.out _ _ PQ.out) (fun hHeld => ?_)
      clear hK K
      try simp only [Act.put, List.setIfInBounds_toArray, List.set_cons_zero, List.set_cons_succ]
      refine wpAnyH_ready (rs := [1]) (by kernel_rfl) (by simp) ?_
      refine AllReadyH.cons rfl (fun K hK => ?_) AllReadyH.nil
      go_simp
      refine (C1.out _).mono ?_; rintro e w5 ⟨rfl, hb⟩
      replace PQ := Lib.hid (PQ.out.after hb)
      replace PB := Lib.hid (PB.out.after hb)
      clear hb
      go_wp2_with fail
      refine hK.out _ _ (H.out _ _ PQ.out) (fun hHeld => ?_)
      clear hK K
      try simp only [Act.put, List.setIfInBounds_toArray, List.set_cons_zero, List.set_cons_succ]
      refine wpAnyH_ready (rs := [3]) (by kernel_rfl) (by simp) ?_
      refine AllReadyH.cons rfl (fun K hK => ?_) AllReadyH.nil
      go_simp
      refine (C2.out _).mono ?_; rintro e w6 ⟨rfl, hb⟩
      replace PQ := Lib.hid (PQ.out.after hb)
      replace PB := Lib.hid (PB.out.after hb)
      clear hb
      go_wp2_with fail
      refine hK.out _ _ (H.out _ _ PQ.out) (fun hHeld => ?_)
      clear hK K
      try simp only [Act.put, List.setIfInBounds_toArray, List.set_cons_zero, List.set_cons_succ]
      refine wpAnyH_take (i := 4) (v := ?_) rfl (by kernel_rfl) (by kernel_rfl) (by kernel_rfl) (fun _ _ _ h => h) (Or.inl ⟨by rfl, ?_⟩) (by assumption) ?_
      rotate_left 1
      · intro w hSw; (try dsimp only at hSw); go_simp; try (with_reducible rfl)
      try simp only [Act.put, List.setIfInBounds_toArray, List.set_cons_zero, List.set_cons_succ]
      refine wpAnyH_ready (rs := [6]) (by kernel_rfl) (by simp) ?_
      refine AllReadyH.cons rfl (fun K hK => ?_) AllReadyH.nil
      go_simp
      refine (C3.out _).mono ?_; rintro e w7 ⟨rfl, hb⟩
      replace PQ := Lib.hid (PQ.out.after hb)
      replace PB := Lib.hid (PB.out.after hb)
      clear hb
      go_wp2_with fail
      refine hK.out _ _ (H.out _ _ PQ.out) (fun hHeld => ?_)
      clear hK K
      try simp only [Act.put, List.setIfInBounds_toArray, List.set_cons_zero, List.set_cons_succ]
      refine wpAnyH_take (i := 7) (v := ?_) rfl (by kernel_rfl) (by kernel_rfl) (by kernel_rfl) (fun _ _ _ h => h) (Or.inl ⟨by rfl, ?_⟩) (by assumption) ?_
      rotate_left 1
      · intro w hSw; (try dsimp only at hSw); go_simp; try (with_reducible rfl)
      try simp only [Act.put, List.setIfInBounds_toArray, List.set_cons_zero, List.set_cons_succ]
      refine wpAnyH_ready (rs := [9]) (by kernel_rfl) (by simp) ?_
      refine AllReadyH.cons rfl (fun K hK => ?_) AllReadyH.nil
      obtain ⟨f0, f1, f2, f3, f4, f5⟩ := PB.out.free
      obtain ⟨z0, z1, z2, z3, z4, z5⟩ := PB.out.cells
      go_simp
      replace PQ := Lib.hid (iduo_whs' PQ.out (⟨1, h, b, r, false, 0⟩ : Wh) KG)
      replace PB := Lib.hid (PB.out.set (⟨1, h, b, r, false, 0⟩ : Wh))
      clear f0 f1 f2 f3 f4 f5 z0 z1 z2 z3 z4 z5
      refine hK.out _ _ (H.out _ _ PQ.out) (fun hHeld => ?_)
      clear hK K
      try simp only [Act.put, List.setIfInBounds_toArray, List.set_cons_zero, List.set_cons_succ]
      refine wpAnyH_done (by kernel_rfl) ?_ _
      go_wp2_with fail
      go_meet
      exact ⟨_, rfl, KG, Lib.hid ⟨PQ.out, PB.out⟩⟩
  case rest =>
    clear P
    obtain ⟨gb, rfl, kg, Q⟩ := hcut
    obtain ⟨p0, p1, p2, p3, p4⟩ := Q.out.1.2.1.cells
    obtain ⟨f0, f1, f2, f3, f4, f5⟩ := Q.out.1.2.2.free
    obtain ⟨z0, z1, z2, z3, z4, z5⟩ := Q.out.1.2.2.cells
    obtain ⟨c0, c1, c2, c3, c4, c5⟩ := Q.out.2.cells
    have k1 := Q.out.1.2.1.lt
    have k2 := Q.out.1.2.2.lt
    have k3 := Q.out.2.lt
    go_wp2_with fail
    refine (C4.out _).mono ?_
    rintro e w8 ⟨rfl, hb⟩
    replace Q := Lib.hid (And.intro (Q.out.1.after hb) (Q.out.2.after hb))
    clear hb
    clear p0 p1 p2 p3 p4 f0 f1 f2 f3 f4 f5 z0 z1 z2 z3 z4 z5 c0 c1 c2 c3 c4 c5 k1 k2 k3
    obtain ⟨p0, p1, p2, p3, p4⟩ := Q.out.1.2.1.cells
    obtain ⟨f0, f1, f2, f3, f4, f5⟩ := Q.out.1.2.2.free
    obtain ⟨z0, z1, z2, z3, z4, z5⟩ := Q.out.1.2.2.cells
    obtain ⟨c0, c1, c2, c3, c4, c5⟩ := Q.out.2.cells
    have k1 := Q.out.1.2.1.lt
    have k2 := Q.out.1.2.2.lt
    have k3 := Q.out.2.lt
    go_upto_region 5 with fail
    clear p0 p1 p2 p3 p4 f0 f1 f2 f3 f4 f5 z0 z1 z2 z3 z4 z5 c0 c1 c2 c3 c4 c5 k1 k2 k3
    have PQ := Lib.hid (And.intro (Q.out.1.after (Below.drew (Below.refl _ _))) (Q.out.2.after (Below.drew (Below.refl _ _))))
    have H : Hid (∀ v wx, IDuo x v w wx ∧ whB gb (⟨1, h, b, r, false, 0⟩ : Wh) wx → (wx.cell? ⟨w.heap.size, 0, none⟩ = some (.int .u8 x.op) ∧ wx.cell? ⟨w.heap.size, 1, none⟩ = some (.int .u8 x.dst) ∧ wx.cell? ⟨w.heap.size, 2, none⟩ = some (.int .u8 x.src) ∧ wx.cell? ⟨w.heap.size, 3, none⟩ = some (.int .i16 x.off) ∧ wx.cell? ⟨w.heap.size, 4, none⟩ = some (.int .i32 x.imm)) ∧ (wx.cell? ⟨gb, 0, none⟩ = some (.int .u8 (⟨1, h, b, r, false, 0⟩ : Wh).kind) ∧ wx.cell? ⟨gb, 1, none⟩ = some (.int .u8 (⟨1, h, b, r, false, 0⟩ : Wh).op) ∧ wx.cell? ⟨gb, 2, none⟩ = some (.bool (⟨1, h, b, r, false, 0⟩ : Wh).wide) ∧ wx.cell? ⟨gb, 3, none⟩ = some (.bool (⟨1, h, b, r, false, 0⟩ : Wh).reg) ∧ wx.cell? ⟨gb, 4, none⟩ = some (.bool (⟨1, h, b, r, false, 0⟩ : Wh).signed) ∧ wx.cell? ⟨gb, 5, none⟩ = some (.int .i64 (⟨1, h, b, r, false, 0⟩ : Wh).size))) := Lib.hid fun v wx hx => ⟨hx.1.2.1.cells, hx.2.cells⟩
    refine wp_region_held_drew (S := (fun w' => (w'.cell? ⟨w.heap.size, 0, none⟩ = some (.int .u8 x.op) ∧ w'.cell? ⟨w.heap.size, 1, none⟩ = some (.int .u8 x.dst) ∧ w'.cell? ⟨w.heap.size, 2, none⟩ = some (.int .u8 x.src) ∧ w'.cell? ⟨w.heap.size, 3, none⟩ = some (.int .i16 x.off) ∧ w'.cell? ⟨w.heap.size, 4, none⟩ = some (.int .i32 x.imm)) ∧ (w'.cell? ⟨gb, 0, none⟩ = some (.int .u8 (⟨1, h, b, r, false, 0⟩ : Wh).kind) ∧ w'.cell? ⟨gb, 1, none⟩ = some (.int .u8 (⟨1, h, b, r, false, 0⟩ : Wh).op) ∧ w'.cell? ⟨gb, 2, none⟩ = some (.bool (⟨1, h, b, r, false, 0⟩ : Wh).wide) ∧ w'.cell? ⟨gb, 3, none⟩ = some (.bool (⟨1, h, b, r, false, 0⟩ : Wh).reg) ∧ w'.cell? ⟨gb, 4, none⟩ = some (.bool (⟨1, h, b, r, false, 0⟩ : Wh).signed) ∧ w'.cell? ⟨gb, 5, none⟩ = some (.int .i64 (⟨1, h, b, r, false, 0⟩ : Wh).size)))) (by kernel_rfl) (H.out _ _ PQ.out) (fun hHeld => ?_)
    refine wpAnyH_take (i := 0) (v := ?_) rfl (by kernel_rfl) (by kernel_rfl) (by kernel_rfl) (fun _ _ _ h => h) (Or.inl ⟨by rfl, ?_⟩) (by assumption) ?_
    rotate_left 1
    · intro w hSw; (try dsimp only at hSw); go_simp; try (with_reducible rfl)
    try simp only [Act.put, List.setIfInBounds_toArray, List.set_cons_zero, List.set_cons_succ]
    refine wpAnyH_take (i := 1) (v := ?_) rfl (by kernel_rfl) (by kernel_rfl) (by kernel_rfl) (fun _ _ _ h => h) (Or.inl ⟨by rfl, ?_⟩) (by assumption) ?_
    rotate_left 1
    · intro w hSw; (try dsimp only at hSw); go_simp; try (with_reducible rfl)
    try simp only [Act.put, List.setIfInBounds_toArray, List.set_cons_zero, List.set_cons_succ]
    refine wpAnyH_ready (rs := [2]) (by kernel_rfl) (by simp) ?_
    refine AllReadyH.cons rfl (fun K hK => ?_) AllReadyH.nil
    go_simp
    refine (C5.out _).mono ?_; rintro e w9 ⟨rfl, hb⟩
    replace PQ := Lib.hid (And.intro (PQ.out.1.after hb) (PQ.out.2.after hb))
    clear hb
    go_wp2_with fail
    refine hK.out _ _ (H.out _ _ PQ.out) (fun hHeld => ?_)
    clear hK K
    try simp only [Act.put, List.setIfInBounds_toArray, List.set_cons_zero, List.set_cons_succ]
    refine wpAnyH_take (i := 3) (v := ?_) rfl (by kernel_rfl) (by kernel_rfl) (by kernel_rfl) (fun _ _ _ h => h) (Or.inl ⟨by rfl, ?_⟩) (by assumption) ?_
    rotate_left 1
    · intro w hSw; (try dsimp only at hSw); go_simp; try (with_reducible rfl)
    try simp only [Act.put, List.setIfInBounds_toArray, List.set_cons_zero, List.set_cons_succ]
    refine wpAnyH_take (i := 4) (v := ?_) rfl (by kernel_rfl) (by kernel_rfl) (by kernel_rfl) (fun _ _ _ h => h) (Or.inl ⟨by rfl, ?_⟩) (by assumption) ?_
    rotate_left 1
    · intro w hSw; (try dsimp only at hSw); go_simp; try (with_reducible rfl)
    try simp only [Act.put, List.setIfInBounds_toArray, List.set_cons_zero, List.set_cons_succ]
    obtain ⟨f0, f1, f2, f3, f4, f5⟩ := PQ.out.1.2.2.free
    obtain ⟨z0, z1, z2, z3, z4, z5⟩ := PQ.out.1.2.2.cells
    refine wpAnyH_ready (rs := [5]) (by kernel_rfl) (by simp) ?_
    refine AllReadyH.cons rfl (fun K hK => ?_) AllReadyH.nil
    go_simp
    replace PQ := Lib.hid (And.intro (PQ.out.1.set (⟨1, h, b, r, false, 0⟩ : Wh)) (PQ.out.2.whs (k := w.heap.size + 1) (⟨1, h, b, r, false, 0⟩ : Wh) (by omega)))
    clear f0 f1 f2 f3 f4 f5 z0 z1 z2 z3 z4 z5
    refine hK.out _ _ (H.out _ _ PQ.out) (fun hHeld => ?_)
    clear hK K
    try simp only [Act.put, List.setIfInBounds_toArray, List.set_cons_zero, List.set_cons_succ]
    refine wpAnyH_take (i := 6) (v := ?_) rfl (by kernel_rfl) (by kernel_rfl) (by kernel_rfl) (fun _ _ _ h => h) (Or.inl ⟨by rfl, ?_⟩) (by assumption) ?_
    rotate_left 1
    · intro w hSw; (try dsimp only at hSw); go_simp; try (with_reducible rfl)
    try simp only [Act.put, List.setIfInBounds_toArray, List.set_cons_zero, List.set_cons_succ]
    refine wpAnyH_done (by kernel_rfl) ?_ _
    have BB := Lib.hid PQ.out.1.1
    obtain ⟨z0, z1, z2, z3, z4, z5⟩ := PQ.out.1.2.2.cells
    have k2 := PQ.out.1.2.2.lt
    clear H PQ Q
    go_wp2_with fail
    exact bodyPost_ret (v := .tuple #[whV (⟨1, h, b, r, false, 0⟩ : Wh), .int .u8 s2]) (by simp [results, Tryz.results151, go_sem, z0, z1, z2, z3, z4, z5, k2, Wh.zero]) rfl ⟨rfl, BB.out⟩
set_option maxRecDepth 100000 in
set_option maxHeartbeats 1000000 in
theorem c7_arith_c (x : Ins) (h c sc s1 s2 : Int) (b r ok : Bool) (e0 : (c == 7) = b) (q1 : bits .or .u8 1 sc = s1) (q2 : bits .or .u8 s1 8 = s2) (e1 : ok = true) (e2 : (h != 128) = false) (e3 : r = true)
    (C2 : Hid (∀ w, Calls Tryz.prog 144 #[iV x] w (Gives (.int .u8 c) w)))
    (C1 : Hid (∀ w, Calls Tryz.prog 149 #[iV x] w (Gives (.int .u8 h) w)))
    (C3 : Hid (∀ w, Calls Tryz.prog 181 #[iV x] w (Gives (.bool r) w)))
    (C5 : Hid (∀ w, Calls Tryz.prog 183 #[iV x] w (Gives (.int .u8 sc) w)))
    (C4 : Hid (∀ w, Calls Tryz.prog 182 #[whV ⟨1, h, b, r, false, 0⟩, .int .i16 x.off] w (Gives (.bool ok) w))) (w : World) :
    Calls Tryz.prog 151 #[iV x] w (Gives (.tuple #[whV Wh.zero, .int .u8 0]) w) := by
  have P : Hid (IDuo x Wh.zero w ((w.alloc (.cells #[.int .u8 x.op, .int .u8 x.dst, .int .u8 x.src, .int .i16 x.off, .int .i32 x.imm] 63)).alloc (.cells #[.int .u8 0, .int .u8 0, .bool false, .bool false, .bool false, .int .i64 0] 96))) := Lib.hid (IDuo.new x Wh.zero w)
  go_enter Tryz.func151, Tryz.ntmps151
  subst e1
  subst e3
  go_upto_region 1 with fail
  go_cut [4] (fun sl wx => ∃ gb, sl = .pointer (some ⟨gb, 0, none⟩) ∧ w.heap.size + 1 < gb ∧ Hid (IDuo x Wh.zero w wx ∧ whB gb (⟨1, h, b, true, false, 0⟩ : Wh) wx))
  case first =>
    generalize ((w.alloc (.cells #[.int .u8 x.op, .int .u8 x.dst, .int .u8 x.src, .int .i16 x.off, .int .i32 x.imm] 63)).alloc (.cells #[.int .u8 0, .int .u8 0, .bool false, .bool false, .bool false, .int .i64 0] 96)) = wS at *
    have PQ := Lib.hid (P.out.after (Below.drew (Below.refl _ _)))
    have H : Hid (∀ v wx, IDuo x v w wx → wx.cell? ⟨w.heap.size, 0, none⟩ = some (.int .u8 x.op) ∧ wx.cell? ⟨w.heap.size, 1, none⟩ = some (.int .u8 x.dst) ∧ wx.cell? ⟨w.heap.size, 2, none⟩ = some (.int .u8 x.src) ∧ wx.cell? ⟨w.heap.size, 3, none⟩ = some (.int .i16 x.off) ∧ wx.cell? ⟨w.heap.size, 4, none⟩ = some (.int .i32 x.imm)) := Lib.hid fun v wx hx => hx.2.1.cells
    refine wp_region_held_drew (S := (fun w' => w'.cell? ⟨w.heap.size, 0, none⟩ = some (.int .u8 x.op) ∧ w'.cell? ⟨w.heap.size, 1, none⟩ = some (.int .u8 x.dst) ∧ w'.cell? ⟨w.heap.size, 2, none⟩ = some (.int .u8 x.src) ∧ w'.cell? ⟨w.heap.size, 3, none⟩ = some (.int .i16 x.off) ∧ w'.cell? ⟨w.heap.size, 4, none⟩ = some (.int .i32 x.imm))) (by kernel_rfl) (H.out _ _ PQ.out) (fun hHeld => ?_)
    refine wpAnyH_take (i := 0) (v := ?_) rfl (by kernel_rfl) (by kernel_rfl) (by kernel_rfl) (fun _ _ _ h => h) (Or.inl ⟨by rfl, ?_⟩) (by assumption) ?_
    rotate_left 1
    · intro w hSw; (try dsimp only at hSw); go_simp; try (with_reducible rfl)
    try simp only [Act.put, List.setIfInBounds_toArray, List.set_cons_zero, List.set_cons_succ]
    refine wpAnyH_take (i := 2) (v := ?_) rfl (by kernel_rfl) (by kernel_rfl) (by kernel_rfl) (fun _ _ _ h => h) (Or.inl ⟨by rfl, ?_⟩) (by assumption) ?_
    rotate_left 1
    · intro w hSw; (try dsimp only at hSw); go_simp; try (with_reducible rfl)
    try simp only [Act.put, List.setIfInBounds_toArray, List.set_cons_zero, List.set_cons_succ]
    refine wpAnyH_take (i := 5) (v := ?_) rfl (by kernel_rfl) (by kernel_rfl) (by kernel_rfl) (fun _ _ _ h => h) (Or.inl ⟨by rfl, ?_⟩) (by assumption) ?_
    rotate_left 1
    · intro w hSw; (try dsimp only at hSw); go_simp; try (with_reducible rfl)
    try simp only [Act.put, List.setIfInBounds_toArray, List.set_cons_zero, List.set_cons_succ]
    refine wpAnyH_ready (rs := [1, 8]) (by kernel_rfl) (by simp) ?_
    refine AllReadyH.cons rfl (fun K hK => ?_) (AllReadyH.cons rfl (fun K hK => ?_) AllReadyH.nil)
    · skip
      go_simp
      refine (C1.out _).mono ?_; rintro e w5 ⟨rfl, hb⟩
      replace PQ := Lib.hid (PQ.out.after hb)
      clear hb
      go_wp2_with fail
      refine hK.out _ _ (H.out _ _ PQ.out) (fun hHeld => ?_)
      clear hK K
      try simp only [Act.put, List.setIfInBounds_toArray, List.set_cons_zero, List.set_cons_succ]
      refine wpAnyH_ready (rs := [3, 8]) (by kernel_rfl) (by simp) ?_
      refine AllReadyH.cons rfl (fun K hK => ?_) (AllReadyH.cons rfl (fun K hK => ?_) AllReadyH.nil)
      · skip
        go_simp
        refine (C2.out _).mono ?_; rintro e w6 ⟨rfl, hb⟩
        replace PQ := Lib.hid (PQ.out.after hb)
        clear hb
        go_wp2_with fail
        refine hK.out _ _ (H.out _ _ PQ.out) (fun hHeld => ?_)
        clear hK K
        try simp only [Act.put, List.setIfInBounds_toArray, List.set_cons_zero, List.set_cons_succ]
        refine wpAnyH_take (i := 4) (v := ?_) rfl (by kernel_rfl) (by kernel_rfl) (by kernel_rfl) (fun _ _ _ h => h) (Or.inl ⟨by rfl, ?_⟩) (by assumption) ?_
        rotate_left 1
        · intro w hSw; (try dsimp only at hSw); go_simp; try (with_reducible rfl)
        try simp only [Act.put, List.setIfInBounds_toArray, List.set_cons_zero, List.set_cons_succ]
        refine wpAnyH_ready (rs := [6, 8]) (by kernel_rfl) (by simp) ?_
        refine AllReadyH.cons rfl (fun K hK => ?_) (AllReadyH.cons rfl (fun K hK => ?_) AllReadyH.nil)
        · skip
          go_simp
          refine (C3.out _).mono ?_; rintro e w7 ⟨rfl, hb⟩
          replace PQ := Lib.hid (PQ.out.after hb)
          clear hb
          go_wp2_with fail
          refine hK.out _ _ (H.out _ _ PQ.out) (fun hHeld => ?_)
          clear hK K
          try simp only [Act.put, List.setIfInBounds_toArray, List.set_cons_zero, List.set_cons_succ]
          refine wpAnyH_take (i := 7) (v := ?_) rfl (by kernel_rfl) (by kernel_rfl) (by kernel_rfl) (fun _ _ _ h => h) (Or.inl ⟨by rfl, ?_⟩) (by assumption) ?_
          rotate_left 1
          · intro w hSw; (try dsimp only at hSw); go_simp; try (with_reducible rfl)
          try simp only [Act.put, List.setIfInBounds_toArray, List.set_cons_zero, List.set_cons_succ]
          refine wpAnyH_ready (rs := [8]) (by kernel_rfl) (by simp) ?_
          refine AllReadyH.cons rfl (fun K hK => ?_) AllReadyH.nil
          go_simp
          have KG := PQ.out.2.2.lt
          have PR := PQ
          have PB : Hid (whB w7.heap.size Wh.zero _) := Lib.hid (whB.new w7 Wh.zero rfl)
          replace PQ := Lib.hid (PQ.out.after (below_alloc (Below.refl _ _) (.cells #[.int .u8 0, .int .u8 0, .bool false, .bool false, .bool false, .int .i64 0] 96)))
          refine hK.out _ _ (H.out _ _ PQ.out) (fun hHeld => ?_)
          clear hK K
          try simp only [Act.put, List.setIfInBounds_toArray, List.set_cons_zero, List.set_cons_succ]
          refine wpAnyH_ready (rs := [9]) (by kernel_rfl) (by simp) ?_
          refine AllReadyH.cons rfl (fun K hK => ?_) AllReadyH.nil
          go_simp
          replace PB : Hid (whB w7.heap.size (⟨1, h, b, true, false, 0⟩ : Wh) _) := Lib.hid (whB.new w7 (⟨1, h, b, true, false, 0⟩ : Wh) rfl)
          replace PQ := Lib.hid (PR.out.after (below_alloc (Below.refl _ _) (.cells (whCells (⟨1, h, b, true, false, 0⟩ : Wh)) 96)))
          refine hK.out _ _ (H.out _ _ PQ.out) (fun hHeld => ?_)
          clear hK K
          try simp only [Act.put, List.setIfInBounds_toArray, List.set_cons_zero, List.set_cons_succ]
          refine wpAnyH_done (by kernel_rfl) ?_ _
          go_wp2_with fail
          go_meet
          exact ⟨_, rfl, KG, Lib.hid ⟨PQ.out, PB.out⟩⟩
        · skip
          go_simp
          have KG := PQ.out.2.2.lt
          have PR := PQ
          have PB : Hid (whB w6.heap.size Wh.zero _) := Lib.hid (whB.new w6 Wh.zero rfl)
          replace PQ := Lib.hid (PQ.out.after (below_alloc (Below.refl _ _) (.cells #[.int .u8 0, .int .u8 0, .bool false, .bool false, .bool false, .int .i64 0] 96)))
          refine hK.out _ _ (H.out _ _ PQ.out) (fun hHeld => ?_)
          clear hK K
          try simp only [Act.put, List.setIfInBounds_toArray, List.set_cons_zero, List.set_cons_succ]
          refine wpAnyH_ready (rs := [6]) (by kernel_rfl) (by simp) ?_
          refine AllReadyH.cons rfl (fun K hK => ?_) AllReadyH.nil
          go_simp
          refine (C3.out _).mono ?_; rintro e w7 ⟨rfl, hb⟩
          replace PQ := Lib.hid (PQ.out.after hb)
          replace PB := Lib.hid (PB.out.after hb)
          clear hb
          go_wp2_with fail
          refine hK.out _ _ (H.out _ _ PQ.out) (fun hHeld => ?_)
          clear hK K
          try simp only [Act.put, List.setIfInBounds_toArray, List.set_cons_zero, List.set_cons_succ]
          refine wpAnyH_take (i := 7) (v := ?_) rfl (by kernel_rfl) (by kernel_rfl) (by kernel_rfl) (fun _ _ _ h => h) (Or.inl ⟨by rfl, ?_⟩) (by assumption) ?_
          rotate_left 1
          · intro w hSw; (try dsimp only at hSw); go_simp; try (with_reducible rfl)
          try simp only [Act.put, List.setIfInBounds_toArray, List.set_cons_zero, List.set_cons_succ]
          refine wpAnyH_ready (rs := [9]) (by kernel_rfl) (by simp) ?_
          refine AllReadyH.cons rfl (fun K hK => ?_) AllReadyH.nil
          obtain ⟨f0, f1, f2, f3, f4, f5⟩ := PB.out.free
          obtain ⟨z0, z1, z2, z3, z4, z5⟩ := PB.out.cells
          go_simp
          replace PQ := Lib.hid (iduo_whs' PQ.out (⟨1, h, b, true, false, 0⟩ : Wh) KG)
          replace PB := Lib.hid (PB.out.set (⟨1, h, b, true, false, 0⟩ : Wh))
          clear f0 f1 f2 f3 f4 f5 z0 z1 z2 z3 z4 z5
          refine hK.out _ _ (H.out _ _ PQ.out) (fun hHeld => ?_)
          clear hK K
          try simp only [Act.put, List.setIfInBounds_toArray, List.set_cons_zero, List.set_cons_succ]
          refine wpAnyH_done (by kernel_rfl) ?_ _
          go_wp2_with fail
          go_meet
          exact ⟨_, rfl, KG, Lib.hid ⟨PQ.out, PB.out⟩⟩
      · skip
        go_simp
        have KG := PQ.out.2.2.lt
        have PR := PQ
        have PB : Hid (whB w5.heap.size Wh.zero _) := Lib.hid (whB.new w5 Wh.zero rfl)
        replace PQ := Lib.hid (PQ.out.after (below_alloc (Below.refl _ _) (.cells #[.int .u8 0, .int .u8 0, .bool false, .bool false, .bool false, .int .i64 0] 96)))
        refine hK.out _ _ (H.out _ _ PQ.out) (fun hHeld => ?_)
        clear hK K
        try simp only [Act.put, List.setIfInBounds_toArray, List.set_cons_zero, List.set_cons_succ]
        refine wpAnyH_ready (rs := [3]) (by kernel_rfl) (by simp) ?_
        refine AllReadyH.cons rfl (fun K hK => ?_) AllReadyH.nil
        go_simp
        refine (C2.out _).mono ?_; rintro e w6 ⟨rfl, hb⟩
        replace PQ := Lib.hid (PQ.out.after hb)
        replace PB := Lib.hid (PB.out.after hb)
        clear hb
        go_wp2_with fail
        refine hK.out _ _ (H.out _ _ PQ.out) (fun hHeld => ?_)
        clear hK K
        try simp only [Act.put, List.setIfInBounds_toArray, List.set_cons_zero, List.set_cons_succ]
        refine wpAnyH_take (i := 4) (v := ?_) rfl (by kernel_rfl) (by kernel_rfl) (by kernel_rfl) (fun _ _ _ h => h) (Or.inl ⟨by rfl, ?_⟩) (by assumption) ?_
        rotate_left 1
        · intro w hSw; (try dsimp only at hSw); go_simp; try (with_reducible rfl)
        try simp only [Act.put, List.setIfInBounds_toArray, List.set_cons_zero, List.set_cons_succ]
        refine wpAnyH_ready (rs := [6]) (by kernel_rfl) (by simp) ?_
        refine AllReadyH.cons rfl (fun K hK => ?_) AllReadyH.nil
        go_simp
        refine (C3.out _).mono ?_; rintro e w7 ⟨rfl, hb⟩
        replace PQ := Lib.hid (PQ.out.after hb)
        replace PB := Lib.hid (PB.out.after hb)
        clear hb
        go_wp2_with fail
        refine hK.out _ _ (H.out _ _ PQ.out) (fun hHeld => ?_)
        clear hK K
        try simp only [Act.put, List.setIfInBounds_toArray, List.set_cons_zero, List.set_cons_succ]
        refine wpAnyH_take (i := 7) (v := ?_) rfl (by kernel_rfl) (by kernel_rfl) (by kernel_rfl) (fun _ _ _ h => h) (Or.inl ⟨by rfl, ?_⟩) (by assumption) ?_
        rotate_left 1
        · intro w hSw; (try dsimp only at hSw); go_simp; try (with_reducible rfl)
        try simp only [Act.put, List.setIfInBounds_toArray, List.set_cons_zero, List.set_cons_succ]
        refine wpAnyH_ready (rs := [9]) (by kernel_rfl) (by simp) ?_
        refine AllReadyH.cons rfl (fun K hK => ?_) AllReadyH.nil
        obtain ⟨f0, f1, f2, f3, f4, f5⟩ := PB.out.free
        obtain ⟨z0, z1, z2, z3, z4, z5⟩ := PB.out.cells
        go_simp
        replace PQ := Lib.hid (iduo_whs' PQ.out (⟨1, h, b, true, false, 0⟩ : Wh) KG)
        replace PB := Lib.hid (PB.out.set (⟨1, h, b, true, false, 0⟩ : Wh))
        clear f0 f1 f2 f3 f4 f5 z0 z1 z2 z3 z4 z5
        refine hK.out _ _ (H.out _ _ PQ.out) (fun hHeld => ?_)
        clear hK K
        try simp only [Act.put, List.setIfInBounds_toArray, List.set_cons_zero, List.set_cons_succ]
        refine wpAnyH_done (by kernel_rfl) ?_ _
        go_wp2_with fail
        go_meet
        exact ⟨_, rfl, KG, Lib.hid ⟨PQ.out, PB.out⟩⟩
    · skip
      go_simp
      have KG := PQ.out.2.2.lt
      have PR := PQ
      have PB : Hid (whB wS.heap.size Wh.zero _) := Lib.hid (whB.new wS.drew Wh.zero rfl)
      replace PQ := Lib.hid (PQ.out.after (below_alloc (Below.refl _ _) (.cells #[.int .u8 0, .int .u8 0, .bool false, .bool false, .bool false, .int .i64 0] 96)))
      refine hK.out _ _ (H.out _ _ PQ.out) (fun hHeld => ?_)
      clear hK K
      try simp only [Act.put, List.setIfInBounds_toArray, List.set_cons_zero, List.set_cons_succ]
      refine wpAnyH_ready (rs := [1]) (by kernel_rfl) (by simp) ?_
      refine AllReadyH.cons rfl (fun K hK => ?_) AllReadyH.nil
      go_simp
      refine (C1.out _).mono ?_; rintro e w5 ⟨rfl, hb⟩
      replace PQ := Lib.hid (PQ.out.after hb)
      replace PB := Lib.hid (PB.out.after hb)
      clear hb
      go_wp2_with fail
      refine hK.out _ _ (H.out _ _ PQ.out) (fun hHeld => ?_)
      clear hK K
      try simp only [Act.put, List.setIfInBounds_toArray, List.set_cons_zero, List.set_cons_succ]
      refine wpAnyH_ready (rs := [3]) (by kernel_rfl) (by simp) ?_
      refine AllReadyH.cons rfl (fun K hK => ?_) AllReadyH.nil
      go_simp
      refine (C2.out _).mono ?_; rintro e w6 ⟨rfl, hb⟩
      replace PQ := Lib.hid (PQ.out.after hb)
      replace PB := Lib.hid (PB.out.after hb)
      clear hb
      go_wp2_with fail
      refine hK.out _ _ (H.out _ _ PQ.out) (fun hHeld => ?_)
      clear hK K
      try simp only [Act.put, List.setIfInBounds_toArray, List.set_cons_zero, List.set_cons_succ]
      refine wpAnyH_take (i := 4) (v := ?_) rfl (by kernel_rfl) (by kernel_rfl) (by kernel_rfl) (fun _ _ _ h => h) (Or.inl ⟨by rfl, ?_⟩) (by assumption) ?_
      rotate_left 1
      · intro w hSw; (try dsimp only at hSw); go_simp; try (with_reducible rfl)
      try simp only [Act.put, List.setIfInBounds_toArray, List.set_cons_zero, List.set_cons_succ]
      refine wpAnyH_ready (rs := [6]) (by kernel_rfl) (by simp) ?_
      refine AllReadyH.cons rfl (fun K hK => ?_) AllReadyH.nil
      go_simp
      refine (C3.out _).mono ?_; rintro e w7 ⟨rfl, hb⟩
      replace PQ := Lib.hid (PQ.out.after hb)
      replace PB := Lib.hid (PB.out.after hb)
      clear hb
      go_wp2_with fail
      refine hK.out _ _ (H.out _ _ PQ.out) (fun hHeld => ?_)
      clear hK K
      try simp only [Act.put, List.setIfInBounds_toArray, List.set_cons_zero, List.set_cons_succ]
      refine wpAnyH_take (i := 7) (v := ?_) rfl (by kernel_rfl) (by kernel_rfl) (by kernel_rfl) (fun _ _ _ h => h) (Or.inl ⟨by rfl, ?_⟩) (by assumption) ?_
      rotate_left 1
      · intro w hSw; (try dsimp only at hSw); go_simp; try (with_reducible rfl)
      try simp only [Act.put, List.setIfInBounds_toArray, List.set_cons_zero, List.set_cons_succ]
      refine wpAnyH_ready (rs := [9]) (by kernel_rfl) (by simp) ?_
      refine AllReadyH.cons rfl (fun K hK => ?_) AllReadyH.nil
      obtain ⟨f0, f1, f2, f3, f4, f5⟩ := PB.out.free
      obtain ⟨z0, z1, z2, z3, z4, z5⟩ := PB.out.cells
      go_simp
      replace PQ := Lib.hid (iduo_whs' PQ.out (⟨1, h, b, true, false, 0⟩ : Wh) KG)
      replace PB := Lib.hid (PB.out.set (⟨1, h, b, true, false, 0⟩ : Wh))
      clear f0 f1 f2 f3 f4 f5 z0 z1 z2 z3 z4 z5
      refine hK.out _ _ (H.out _ _ PQ.out) (fun hHeld => ?_)
      clear hK K
      try simp only [Act.put, List.setIfInBounds_toArray, List.set_cons_zero, List.set_cons_succ]
      refine wpAnyH_done (by kernel_rfl) ?_ _
      go_wp2_with fail
      go_meet
      exact ⟨_, rfl, KG, Lib.hid ⟨PQ.out, PB.out⟩⟩
  case rest =>
    clear P
    obtain ⟨gb, rfl, kg, Q⟩ := hcut
    obtain ⟨p0, p1, p2, p3, p4⟩ := Q.out.1.2.1.cells
    obtain ⟨f0, f1, f2, f3, f4, f5⟩ := Q.out.1.2.2.free
    obtain ⟨z0, z1, z2, z3, z4, z5⟩ := Q.out.1.2.2.cells
    obtain ⟨c0, c1, c2, c3, c4, c5⟩ := Q.out.2.cells
    have k1 := Q.out.1.2.1.lt
    have k2 := Q.out.1.2.2.lt
    have k3 := Q.out.2.lt
    go_wp2_with fail
    refine (C4.out _).mono ?_
    rintro e w8 ⟨rfl, hb⟩
    replace Q := Lib.hid (And.intro (Q.out.1.after hb) (Q.out.2.after hb))
    clear hb
    clear p0 p1 p2 p3 p4 f0 f1 f2 f3 f4 f5 z0 z1 z2 z3 z4 z5 c0 c1 c2 c3 c4 c5 k1 k2 k3
    obtain ⟨p0, p1, p2, p3, p4⟩ := Q.out.1.2.1.cells
    obtain ⟨f0, f1, f2, f3, f4, f5⟩ := Q.out.1.2.2.free
    obtain ⟨z0, z1, z2, z3, z4, z5⟩ := Q.out.1.2.2.cells
    obtain ⟨c0, c1, c2, c3, c4, c5⟩ := Q.out.2.cells
    have k1 := Q.out.1.2.1.lt
    have k2 := Q.out.1.2.2.lt
    have k3 := Q.out.2.lt
    have BB := Lib.hid (Q.out.1.set Wh.zero).1
    go_wp2_with fail
    exact bodyPost_ret (v := .tuple #[whV Wh.zero, .int .u8 0]) (by simp [results, Tryz.results151, go_sem, z0, z1, z2, z3, z4, z5, k2, Wh.zero]) rfl ⟨rfl, BB.out⟩
set_option maxRecDepth 100000 in
set_option maxHeartbeats 1000000 in
theorem c7_arith_d (x : Ins) (h c sc s1 s2 : Int) (b r ok : Bool) (e0 : (c == 7) = b) (q1 : bits .or .u8 1 sc = s1) (q2 : bits .or .u8 s1 8 = s2) (e1 : ok = true) (e2 : (h != 128) = false) (e3 : r = false)
    (C2 : Hid (∀ w, Calls Tryz.prog 144 #[iV x] w (Gives (.int .u8 c) w)))
    (C1 : Hid (∀ w, Calls Tryz.prog 149 #[iV x] w (Gives (.int .u8 h) w)))
    (C3 : Hid (∀ w, Calls Tryz.prog 181 #[iV x] w (Gives (.bool r) w)))
    (C5 : Hid (∀ w, Calls Tryz.prog 183 #[iV x] w (Gives (.int .u8 sc) w)))
    (C4 : Hid (∀ w, Calls Tryz.prog 182 #[whV ⟨1, h, b, r, false, 0⟩, .int .i16 x.off] w (Gives (.bool ok) w))) (w : World) :
    Calls Tryz.prog 151 #[iV x] w (Gives (.tuple #[whV (⟨1, h, b, r, false, 0⟩ : Wh), .int .u8 1]) w) := by
  have P : Hid (IDuo x Wh.zero w ((w.alloc (.cells #[.int .u8 x.op, .int .u8 x.dst, .int .u8 x.src, .int .i16 x.off, .int .i32 x.imm] 63)).alloc (.cells #[.int .u8 0, .int .u8 0, .bool false, .bool false, .bool false, .int .i64 0] 96))) := Lib.hid (IDuo.new x Wh.zero w)
  go_enter Tryz.func151, Tryz.ntmps151
  subst e1
  subst e3
  go_upto_region 1 with fail
  go_cut [4] (fun sl wx => ∃ gb, sl = .pointer (some ⟨gb, 0, none⟩) ∧ w.heap.size + 1 < gb ∧ Hid (IDuo x Wh.zero w wx ∧ whB gb (⟨1, h, b, false, false, 0⟩ : Wh) wx))
  case first =>
    generalize ((w.alloc (.cells #[.int .u8 x.op, .int .u8 x.dst, .int .u8 x.src, .int .i16 x.off, .int .i32 x.imm] 63)).alloc (.cells #[.int .u8 0, .int .u8 0, .bool false, .bool false, .bool false, .int .i64 0] 96)) = wS at *
    have PQ := Lib.hid (P.out.after (Below.drew (Below.refl _ _)))
    have H : Hid (∀ v wx, IDuo x v w wx → wx.cell? ⟨w.heap.size, 0, none⟩ = some (.int .u8 x.op) ∧ wx.cell? ⟨w.heap.size, 1, none⟩ = some (.int .u8 x.dst) ∧ wx.cell? ⟨w.heap.size, 2, none⟩ = some (.int .u8 x.src) ∧ wx.cell? ⟨w.heap.size, 3, none⟩ = some (.int .i16 x.off) ∧ wx.cell? ⟨w.heap.size, 4, none⟩ = some (.int .i32 x.imm)) := Lib.hid fun v wx hx => hx.2.1.cells
    refine wp_region_held_drew (S := (fun w' => w'.cell? ⟨w.heap.size, 0, none⟩ = some (.int .u8 x.op) ∧ w'.cell? ⟨w.heap.size, 1, none⟩ = some (.int .u8 x.dst) ∧ w'.cell? ⟨w.heap.size, 2, none⟩ = some (.int .u8 x.src) ∧ w'.cell? ⟨w.heap.size, 3, none⟩ = some (.int .i16 x.off) ∧ w'.cell? ⟨w.heap.size, 4, none⟩ = some (.int .i32 x.imm))) (by kernel_rfl) (H.out _ _ PQ.out) (fun hHeld => ?_)
    refine wpAnyH_take (i := 0) (v := ?_) rfl (by kernel_rfl) (by kernel_rfl) (by kernel_rfl) (fun _ _ _ h => h) (Or.inl ⟨by rfl, ?_⟩) (by assumption) ?_
    rotate_left 1
    · intro w hSw; (try dsimp only at hSw); go_simp; try (with_reducible rfl)
    try simp only [Act.put, List.setIfInBounds_toArray, List.set_cons_zero, List.set_cons_succ]
    refine wpAnyH_take (i := 2) (v := ?_) rfl (by kernel_rfl) (by kernel_rfl) (by kernel_rfl) (fun _ _ _ h => h) (Or.inl ⟨by rfl, ?_⟩) (by assumption) ?_
    rotate_left 1
    · intro w hSw; (try dsimp only at hSw); go_simp; try (with_reducible rfl)
    try simp only [Act.put, List.setIfInBounds_toArray, List.set_cons_zero, List.set_cons_succ]
    refine wpAnyH_take (i := 5) (v := ?_) rfl (by kernel_rfl) (by kernel_rfl) (by kernel_rfl) (fun _ _ _ h => h) (Or.inl ⟨by rfl, ?_⟩) (by assumption) ?_
    rotate_left 1
    · intro w hSw; (try dsimp only at hSw); go_simp; try (with_reducible rfl)
    try simp only [Act.put, List.setIfInBounds_toArray, List.set_cons_zero, List.set_cons_succ]
    refine wpAnyH_ready (rs := [1, 8]) (by kernel_rfl) (by simp) ?_
    refine AllReadyH.cons rfl (fun K hK => ?_) (AllReadyH.cons rfl (fun K hK => ?_) AllReadyH.nil)
    · skip
      go_simp
      refine (C1.out _).mono ?_; rintro e w5 ⟨rfl, hb⟩
      replace PQ := Lib.hid (PQ.out.after hb)
      clear hb
      go_wp2_with fail
      refine hK.out _ _ (H.out _ _ PQ.out) (fun hHeld => ?_)
      clear hK K
      try simp only [Act.put, List.setIfInBounds_toArray, List.set_cons_zero, List.set_cons_succ]
      refine wpAnyH_ready (rs := [3, 8]) (by kernel_rfl) (by simp) ?_
      refine AllReadyH.cons rfl (fun K hK => ?_) (AllReadyH.cons rfl (fun K hK => ?_) AllReadyH.nil)
      · skip
        go_simp
        refine (C2.out _).mono ?_; rintro e w6 ⟨rfl, hb⟩
        replace PQ := Lib.hid (PQ.out.after hb)
        clear hb
        go_wp2_with fail
        refine hK.out _ _ (H.out _ _ PQ.out) (fun hHeld => ?_)
        clear hK K
        try simp only [Act.put, List.setIfInBounds_toArray, List.set_cons_zero, List.set_cons_succ]
        refine wpAnyH_take (i := 4) (v := ?_) rfl (by kernel_rfl) (by kernel_rfl) (by kernel_rfl) (fun _ _ _ h => h) (Or.inl ⟨by rfl, ?_⟩) (by assumption) ?_
        rotate_left 1
        · intro w hSw; (try dsimp only at hSw); go_simp; try (with_reducible rfl)
        try simp only [Act.put, List.setIfInBounds_toArray, List.set_cons_zero, List.set_cons_succ]
        refine wpAnyH_ready (rs := [6, 8]) (by kernel_rfl) (by simp) ?_
        refine AllReadyH.cons rfl (fun K hK => ?_) (AllReadyH.cons rfl (fun K hK => ?_) AllReadyH.nil)
        · skip
          go_simp
          refine (C3.out _).mono ?_; rintro e w7 ⟨rfl, hb⟩
          replace PQ := Lib.hid (PQ.out.after hb)
          clear hb
          go_wp2_with fail
          refine hK.out _ _ (H.out _ _ PQ.out) (fun hHeld => ?_)
          clear hK K
          try simp only [Act.put, List.setIfInBounds_toArray, List.set_cons_zero, List.set_cons_succ]
          refine wpAnyH_take (i := 7) (v := ?_) rfl (by kernel_rfl) (by kernel_rfl) (by kernel_rfl) (fun _ _ _ h => h) (Or.inl ⟨by rfl, ?_⟩) (by assumption) ?_
          rotate_left 1
          · intro w hSw; (try dsimp only at hSw); go_simp; try (with_reducible rfl)
          try simp only [Act.put, List.setIfInBounds_toArray, List.set_cons_zero, List.set_cons_succ]
          refine wpAnyH_ready (rs := [8]) (by kernel_rfl) (by simp) ?_
          refine AllReadyH.cons rfl (fun K hK => ?_) AllReadyH.nil
          go_simp
          have KG := PQ.out.2.2.lt
          have PR := PQ
          have PB : Hid (whB w7.heap.size Wh.zero _) := Lib.hid (whB.new w7 Wh.zero rfl)
          replace PQ := Lib.hid (PQ.out.after (below_alloc (Below.refl _ _) (.cells #[.int .u8 0, .int .u8 0, .bool false, .bool false, .bool false, .int .i64 0] 96)))
          refine hK.out _ _ (H.out _ _ PQ.out) (fun hHeld => ?_)
          clear hK K
          try simp only [Act.put, List.setIfInBounds_toArray, List.set_cons_zero, List.set_cons_succ]
          refine wpAnyH_ready (rs := [9]) (by kernel_rfl) (by simp) ?_
          refine AllReadyH.cons rfl (fun K hK => ?_) AllReadyH.nil
          go_simp
          replace PB : Hid (whB w7.heap.size (⟨1, h, b, false, false, 0⟩ : Wh) _) := Lib.hid (whB.new w7 (⟨1, h, b, false, false, 0⟩ : Wh) rfl)
          replace PQ := Lib.hid (PR.out.after (below_alloc (Below.refl _ _) (.cells (whCells (⟨1, h, b, false, false, 0⟩ : Wh)) 96)))
          refine hK.out _ _ (H.out _ _ PQ.out) (fun hHeld => ?_)
          clear hK K
          try simp only [Act.put, List.setIfInBounds_toArray, List.set_cons_zero, List.set_cons_succ]
          refine wpAnyH_done (by kernel_rfl) ?_ _
          go_wp2_with fail
          go_meet
          exact ⟨_, rfl, KG, Lib.hid ⟨PQ.out, PB.out⟩⟩
        · skip
          go_simp
          have KG := PQ.out.2.2.lt
          have PR := PQ
          have PB : Hid (whB w6.heap.size Wh.zero _) := Lib.hid (whB.new w6 Wh.zero rfl)
          replace PQ := Lib.hid (PQ.out.after (below_alloc (Below.refl _ _) (.cells #[.int .u8 0, .int .u8 0, .bool false, .bool false, .bool false, .int .i64 0] 96)))
          refine hK.out _ _ (H.out _ _ PQ.out) (fun hHeld => ?_)
          clear hK K
          try simp only [Act.put, List.setIfInBounds_toArray, List.set_cons_zero, List.set_cons_succ]
          refine wpAnyH_ready (rs := [6]) (by kernel_rfl) (by simp) ?_
          refine AllReadyH.cons rfl (fun K hK => ?_) AllReadyH.nil
          go_simp
          refine (C3.out _).mono ?_; rintro e w7 ⟨rfl, hb⟩
          replace PQ := Lib.hid (PQ.out.after hb)
          replace PB := Lib.hid (PB.out.after hb)
          clear hb
          go_wp2_with fail
          refine hK.out _ _ (H.out _ _ PQ.out) (fun hHeld => ?_)
          clear hK K
          try simp only [Act.put, List.setIfInBounds_toArray, List.set_cons_zero, List.set_cons_succ]
          refine wpAnyH_take (i := 7) (v := ?_) rfl (by kernel_rfl) (by kernel_rfl) (by kernel_rfl) (fun _ _ _ h => h) (Or.inl ⟨by rfl, ?_⟩) (by assumption) ?_
          rotate_left 1
          · intro w hSw; (try dsimp only at hSw); go_simp; try (with_reducible rfl)
          try simp only [Act.put, List.setIfInBounds_toArray, List.set_cons_zero, List.set_cons_succ]
          refine wpAnyH_ready (rs := [9]) (by kernel_rfl) (by simp) ?_
          refine AllReadyH.cons rfl (fun K hK => ?_) AllReadyH.nil
          obtain ⟨f0, f1, f2, f3, f4, f5⟩ := PB.out.free
          obtain ⟨z0, z1, z2, z3, z4, z5⟩ := PB.out.cells
          go_simp
          replace PQ := Lib.hid (iduo_whs' PQ.out (⟨1, h, b, false, false, 0⟩ : Wh) KG)
          replace PB := Lib.hid (PB.out.set (⟨1, h, b, false, false, 0⟩ : Wh))
          clear f0 f1 f2 f3 f4 f5 z0 z1 z2 z3 z4 z5
          refine hK.out _ _ (H.out _ _ PQ.out) (fun hHeld => ?_)
          clear hK K
          try simp only [Act.put, List.setIfInBounds_toArray, List.set_cons_zero, List.set_cons_succ]
          refine wpAnyH_done (by kernel_rfl) ?_ _
          go_wp2_with fail
          go_meet
          exact ⟨_, rfl, KG, Lib.hid ⟨PQ.out, PB.out⟩⟩
      · skip
        go_simp
        have KG := PQ.out.2.2.lt
        have PR := PQ
        have PB : Hid (whB w5.heap.size Wh.zero _) := Lib.hid (whB.new w5 Wh.zero rfl)
        replace PQ := Lib.hid (PQ.out.after (below_alloc (Below.refl _ _) (.cells #[.int .u8 0, .int .u8 0, .bool false, .bool false, .bool false, .int .i64 0] 96)))
        refine hK.out _ _ (H.out _ _ PQ.out) (fun hHeld => ?_)
        clear hK K
        try simp only [Act.put, List.setIfInBounds_toArray, List.set_cons_zero, List.set_cons_succ]
        refine wpAnyH_ready (rs := [3]) (by kernel_rfl) (by simp) ?_
        refine AllReadyH.cons rfl (fun K hK => ?_) AllReadyH.nil
        go_simp
        refine (C2.out _).mono ?_; rintro e w6 ⟨rfl, hb⟩
        replace PQ := Lib.hid (PQ.out.after hb)
        replace PB := Lib.hid (PB.out.after hb)
        clear hb
        go_wp2_with fail
        refine hK.out _ _ (H.out _ _ PQ.out) (fun hHeld => ?_)
        clear hK K
        try simp only [Act.put, List.setIfInBounds_toArray, List.set_cons_zero, List.set_cons_succ]
        refine wpAnyH_take (i := 4) (v := ?_) rfl (by kernel_rfl) (by kernel_rfl) (by kernel_rfl) (fun _ _ _ h => h) (Or.inl ⟨by rfl, ?_⟩) (by assumption) ?_
        rotate_left 1
        · intro w hSw; (try dsimp only at hSw); go_simp; try (with_reducible rfl)
        try simp only [Act.put, List.setIfInBounds_toArray, List.set_cons_zero, List.set_cons_succ]
        refine wpAnyH_ready (rs := [6]) (by kernel_rfl) (by simp) ?_
        refine AllReadyH.cons rfl (fun K hK => ?_) AllReadyH.nil
        go_simp
        refine (C3.out _).mono ?_; rintro e w7 ⟨rfl, hb⟩
        replace PQ := Lib.hid (PQ.out.after hb)
        replace PB := Lib.hid (PB.out.after hb)
        clear hb
        go_wp2_with fail
        refine hK.out _ _ (H.out _ _ PQ.out) (fun hHeld => ?_)
        clear hK K
        try simp only [Act.put, List.setIfInBounds_toArray, List.set_cons_zero, List.set_cons_succ]
        refine wpAnyH_take (i := 7) (v := ?_) rfl (by kernel_rfl) (by kernel_rfl) (by kernel_rfl) (fun _ _ _ h => h) (Or.inl ⟨by rfl, ?_⟩) (by assumption) ?_
        rotate_left 1
        · intro w hSw; (try dsimp only at hSw); go_simp; try (with_reducible rfl)
        try simp only [Act.put, List.setIfInBounds_toArray, List.set_cons_zero, List.set_cons_succ]
        refine wpAnyH_ready (rs := [9]) (by kernel_rfl) (by simp) ?_
        refine AllReadyH.cons rfl (fun K hK => ?_) AllReadyH.nil
        obtain ⟨f0, f1, f2, f3, f4, f5⟩ := PB.out.free
        obtain ⟨z0, z1, z2, z3, z4, z5⟩ := PB.out.cells
        go_simp
        replace PQ := Lib.hid (iduo_whs' PQ.out (⟨1, h, b, false, false, 0⟩ : Wh) KG)
        replace PB := Lib.hid (PB.out.set (⟨1, h, b, false, false, 0⟩ : Wh))
        clear f0 f1 f2 f3 f4 f5 z0 z1 z2 z3 z4 z5
        refine hK.out _ _ (H.out _ _ PQ.out) (fun hHeld => ?_)
        clear hK K
        try simp only [Act.put, List.setIfInBounds_toArray, List.set_cons_zero, List.set_cons_succ]
        refine wpAnyH_done (by kernel_rfl) ?_ _
        go_wp2_with fail
        go_meet
        exact ⟨_, rfl, KG, Lib.hid ⟨PQ.out, PB.out⟩⟩
    · skip
      go_simp
      have KG := PQ.out.2.2.lt
      have PR := PQ
      have PB : Hid (whB wS.heap.size Wh.zero _) := Lib.hid (whB.new wS.drew Wh.zero rfl)
      replace PQ := Lib.hid (PQ.out.after (below_alloc (Below.refl _ _) (.cells #[.int .u8 0, .int .u8 0, .bool false, .bool false, .bool false, .int .i64 0] 96)))
      refine hK.out _ _ (H.out _ _ PQ.out) (fun hHeld => ?_)
      clear hK K
      try simp only [Act.put, List.setIfInBounds_toArray, List.set_cons_zero, List.set_cons_succ]
      refine wpAnyH_ready (rs := [1]) (by kernel_rfl) (by simp) ?_
      refine AllReadyH.cons rfl (fun K hK => ?_) AllReadyH.nil
      go_simp
      refine (C1.out _).mono ?_; rintro e w5 ⟨rfl, hb⟩
      replace PQ := Lib.hid (PQ.out.after hb)
      replace PB := Lib.hid (PB.out.after hb)
      clear hb
      go_wp2_with fail
      refine hK.out _ _ (H.out _ _ PQ.out) (fun hHeld => ?_)
      clear hK K
      try simp only [Act.put, List.setIfInBounds_toArray, List.set_cons_zero, List.set_cons_succ]
      refine wpAnyH_ready (rs := [3]) (by kernel_rfl) (by simp) ?_
      refine AllReadyH.cons rfl (fun K hK => ?_) AllReadyH.nil
      go_simp
      refine (C2.out _).mono ?_; rintro e w6 ⟨rfl, hb⟩
      replace PQ := Lib.hid (PQ.out.after hb)
      replace PB := Lib.hid (PB.out.after hb)
      clear hb
      go_wp2_with fail
      refine hK.out _ _ (H.out _ _ PQ.out) (fun hHeld => ?_)
      clear hK K
      try simp only [Act.put, List.setIfInBounds_toArray, List.set_cons_zero, List.set_cons_succ]
      refine wpAnyH_take (i := 4) (v := ?_) rfl (by kernel_rfl) (by kernel_rfl) (by kernel_rfl) (fun _ _ _ h => h) (Or.inl ⟨by rfl, ?_⟩) (by assumption) ?_
      rotate_left 1
      · intro w hSw; (try dsimp only at hSw); go_simp; try (with_reducible rfl)
      try simp only [Act.put, List.setIfInBounds_toArray, List.set_cons_zero, List.set_cons_succ]
      refine wpAnyH_ready (rs := [6]) (by kernel_rfl) (by simp) ?_
      refine AllReadyH.cons rfl (fun K hK => ?_) AllReadyH.nil
      go_simp
      refine (C3.out _).mono ?_; rintro e w7 ⟨rfl, hb⟩
      replace PQ := Lib.hid (PQ.out.after hb)
      replace PB := Lib.hid (PB.out.after hb)
      clear hb
      go_wp2_with fail
      refine hK.out _ _ (H.out _ _ PQ.out) (fun hHeld => ?_)
      clear hK K
      try simp only [Act.put, List.setIfInBounds_toArray, List.set_cons_zero, List.set_cons_succ]
      refine wpAnyH_take (i := 7) (v := ?_) rfl (by kernel_rfl) (by kernel_rfl) (by kernel_rfl) (fun _ _ _ h => h) (Or.inl ⟨by rfl, ?_⟩) (by assumption) ?_
      rotate_left 1
      · intro w hSw; (try dsimp only at hSw); go_simp; try (with_reducible rfl)
      try simp only [Act.put, List.setIfInBounds_toArray, List.set_cons_zero, List.set_cons_succ]
      refine wpAnyH_ready (rs := [9]) (by kernel_rfl) (by simp) ?_
      refine AllReadyH.cons rfl (fun K hK => ?_) AllReadyH.nil
      obtain ⟨f0, f1, f2, f3, f4, f5⟩ := PB.out.free
      obtain ⟨z0, z1, z2, z3, z4, z5⟩ := PB.out.cells
      go_simp
      replace PQ := Lib.hid (iduo_whs' PQ.out (⟨1, h, b, false, false, 0⟩ : Wh) KG)
      replace PB := Lib.hid (PB.out.set (⟨1, h, b, false, false, 0⟩ : Wh))
      clear f0 f1 f2 f3 f4 f5 z0 z1 z2 z3 z4 z5
      refine hK.out _ _ (H.out _ _ PQ.out) (fun hHeld => ?_)
      clear hK K
      try simp only [Act.put, List.setIfInBounds_toArray, List.set_cons_zero, List.set_cons_succ]
      refine wpAnyH_done (by kernel_rfl) ?_ _
      go_wp2_with fail
      go_meet
      exact ⟨_, rfl, KG, Lib.hid ⟨PQ.out, PB.out⟩⟩
  case rest =>
    clear P
    obtain ⟨gb, rfl, kg, Q⟩ := hcut
    obtain ⟨p0, p1, p2, p3, p4⟩ := Q.out.1.2.1.cells
    obtain ⟨f0, f1, f2, f3, f4, f5⟩ := Q.out.1.2.2.free
    obtain ⟨z0, z1, z2, z3, z4, z5⟩ := Q.out.1.2.2.cells
    obtain ⟨c0, c1, c2, c3, c4, c5⟩ := Q.out.2.cells
    have k1 := Q.out.1.2.1.lt
    have k2 := Q.out.1.2.2.lt
    have k3 := Q.out.2.lt
    go_wp2_with fail
    refine (C4.out _).mono ?_
    rintro e w8 ⟨rfl, hb⟩
    replace Q := Lib.hid (And.intro (Q.out.1.after hb) (Q.out.2.after hb))
    clear hb
    clear p0 p1 p2 p3 p4 f0 f1 f2 f3 f4 f5 z0 z1 z2 z3 z4 z5 c0 c1 c2 c3 c4 c5 k1 k2 k3
    obtain ⟨p0, p1, p2, p3, p4⟩ := Q.out.1.2.1.cells
    obtain ⟨f0, f1, f2, f3, f4, f5⟩ := Q.out.1.2.2.free
    obtain ⟨z0, z1, z2, z3, z4, z5⟩ := Q.out.1.2.2.cells
    obtain ⟨c0, c1, c2, c3, c4, c5⟩ := Q.out.2.cells
    have k1 := Q.out.1.2.1.lt
    have k2 := Q.out.1.2.2.lt
    have k3 := Q.out.2.lt
    have BB := Lib.hid (Q.out.1.set (⟨1, h, b, false, false, 0⟩ : Wh)).1
    go_wp2_with fail
    exact bodyPost_ret (v := .tuple #[whV (⟨1, h, b, false, false, 0⟩ : Wh), .int .u8 1]) (by simp [results, Tryz.results151, go_sem, z0, z1, z2, z3, z4, z5, k2, Wh.zero]) rfl ⟨rfl, BB.out⟩
theorem c7_arith (x : Ins) (hx : x.ok) (w : World) : Calls Tryz.prog 151 #[iV x] w (Gives (.tuple #[whV (tArith x).1, .int .u8 (tArith x).2]) w) := by
  have C1 := Lib.hid (c7_high x hx)
  have C2 := Lib.hid (c7_class x hx)
  have C3 := Lib.hid (c7_reg x hx)
  have C5 := Lib.hid (c7_second x hx)
  have C4 := Lib.hid (c7_offFits (arW x) x.off)
  have q : ∃ s1 s2, bits .or .u8 1 (secF x) = s1 ∧ bits .or .u8 s1 8 = s2 ∧ 9 + secF x = s2 := by
    unfold secF
    split
    · exact ⟨_, _, rfl, rfl, by decide +kernel⟩
    · exact ⟨_, _, rfl, rfl, by decide +kernel⟩
  obtain ⟨s1, s2, q1, q2, q3⟩ := q
  unfold tArith
  rw [q3]
  clear q3
  unfold arW at *
  simp only at *
  generalize secF x = sc at *
  generalize x.op / 16 * 16 = h at *
  generalize (x.op / 8 % 2 == 1) = r at *
  cases h7 : (x.op % 8 == 7)
  all_goals
    rw [h7] at C4
    generalize x.op % 8 = c at *
    cases ho : offB h _ r x.off
    · rw [ho] at C4
      exact c7_arith_a x h c sc s1 s2 _ r _ h7 q1 q2 rfl C2 C1 C3 C5 C4 w
    rw [ho] at C4
    cases hn : (h != 128)
    · cases r
      · exact c7_arith_d x h c sc s1 s2 _ _ _ h7 q1 q2 rfl hn rfl C2 C1 C3 C5 C4 w
      · exact c7_arith_c x h c sc s1 s2 _ _ _ h7 q1 q2 rfl hn rfl C2 C1 C3 C5 C4 w
    · exact c7_arith_b x h c sc s1 s2 _ r _ h7 q1 q2 rfl hn C2 C1 C3 C5 C4 w
end Go.Proofs.YtlbhffdpklbhfaaGreat
