/-
  Texts, one behind the other: Mem8.
  Conditions: those that each theorem states.
-/
import Derived.Carry
import Derived.Test.YtlbhffdpklbhfaaGreatPz11
namespace Go.Proofs.YtlbhffdpklbhfaaGreat
open Go.RowKit
set_option linter.unusedVariables false
set_option linter.unusedSimpArgs false
theorem mk_done {w x y z : World} {g bm gb gk n nn : Nat} {mv : Value} {L : List AR} {F : Nat → Prop} {i : Int} {b : List Int} {bl fx : Bool} (h : RepQ w g mv L F) (HX : Turn F w x) (hb : Blk g #[.map (some bm)] 156 x) (hbm : bm < x.heap.size) (hn : n ≤ L.length)
    (hnew : (mvO mv).ownBlock = some bm ∨ w.heap.size ≤ bm) (hold : ∀ k, F k → k ≠ g → x.heap[k]? = w.heap[k]?) (b1 : Below x.heap.size x y)
    (ob : y.ownsRow x.heap.size 5 1 (.slice (some ⟨gb, 0, none⟩) nn nn) nn (byC b)) (ok : y.ownsRow x.heap.size 4 1 (.slice (some ⟨gk, 0, none⟩) nn nn) nn (boC (List.replicate nn bl))) (gne : gb ≠ gk)
    (hput : MapIs Tryz.prog 3 z bm (n + 1) (putM (intM (rgF L)) (.int .i64 i) (some (.agg #[.slice (some ⟨gb, 0, none⟩) nn nn, .slice (some ⟨gk, 0, none⟩) nn nn, .bool fx])))) (hg : y.grownBy z (some bm)) (hx : pIx (arM L) i = none) (hi : 1 ≤ i ∧ i < 2147483648) (hob : OkB b) (hlen : b.length = nn) (hnn : nn ≤ 1024) :
    ∃ F', RepP z g (arM L ++ [⟨i, b, List.replicate b.length bl, fx⟩]) F' ∧ Turn F w z ∧ ∀ k, F' k → F k ∨ w.heap.size ≤ k := by
  subst hlen
  have gg : g < w.heap.size := h.lt h.foot0
  have wx := HX.size
  have xy := b1.size
  have hgm : g ≠ bm := fun e => by
    rcases hnew with c | c
    · have := h.apart 0 1 g rfl (by rw [e]; exact c)
      omega
    · omega
  have hFm : F bm ∨ w.heap.size ≤ bm := hnew.imp (fun c => h.foot1 c) id
  have e1 : x.heap.size ≤ gb ∧ gb < y.heap.size := ob.lt gb rfl
  have e2 : x.heap.size ≤ gk ∧ gk < y.heap.size := ok.lt gk rfl
  have zy : ∀ k, k < y.heap.size → k ≠ bm → z.heap[k]? = y.heap[k]? := fun k hk hne => hg.block k hk (fun e => hne (Option.some.inj e))
  obtain ⟨F', q1, q2⟩ := h.add (u := z) (vl' := .map (some bm)) (r := ⟨⟨i, b, List.replicate b.length bl, fx⟩, .slice (some ⟨gb, 0, none⟩) b.length b.length, .slice (some ⟨gk, 0, none⟩) b.length b.length⟩)
    (fun k hk h1 h2 => by
      have kl := h.lt hk
      have kb : k ≠ bm := fun e => by
        rcases hnew with c | c
        · exact h2 (by rw [e]; exact c)
        · omega
      exact (zy k (by omega) kb).trans ((b1.block k (by omega)).trans (hold k hk h1)))
    ((zy g (by omega) hgm).trans ((b1.block g (by omega)).trans hb))
    (mapR_add (r := ⟨⟨i, b, List.replicate b.length bl, fx⟩, .slice (some ⟨gb, 0, none⟩) b.length b.length, .slice (some ⟨gk, 0, none⟩) b.length b.length⟩) hput (by omega) hx)
    ⟨own_base (own_same ob (fun k hk => by cases hk; exact zy _ e1.2 (by show gb ≠ bm; omega))) (fun k _ => Nat.zero_le _), by
      have := own_base (base' := 0) (own_same ok (w' := z) (fun k hk => by cases hk; exact zy _ e2.2 (by show gk ≠ bm; omega))) (fun k _ => Nat.zero_le _)
      simpa using this⟩
    (fun k hk => by have e : gb = k := by { cases hk; rfl }
                    omega)
    (fun k hk => by have e : gk = k := by { cases hk; rfl }
                    omega)
    (fun k hk hk2 => by
      have e : gb = k := by { cases hk; rfl }
      have e' : gk = k := by { cases hk2; rfl }
      omega)
    (by
      rcases hnew with c | c
      · exact .inl c.symm
      · exact .inr ⟨bm, rfl, c, fun e => by have : gb = bm := by { cases e; rfl }
                                            omega, fun e => by have : gk = bm := by { cases e; rfl }
                                                               omega⟩)
    ⟨hob, by simp, hnn, hi.1, hi.2⟩
  refine ⟨F', ⟨_, _, by rw [arM_app], q1⟩, (HX.next b1).grown hg (fun k hk => by cases hk; exact hFm), q2⟩
set_option maxRecDepth 100000 in
set_option maxHeartbeats 2000000 in
theorem c8_Make_arg (w : World) (g : Nat) (M : PM) (F : Nat → Prop) (i : Int) (B : Option Addr) (n d : Nat) (bl fx : Bool) (h : RepP w g M F) (hi64 : -9223372036854775808 ≤ i ∧ i ≤ 9223372036854775807) (hi : i < 1 ∨ 2147483648 ≤ i ∨ (pIx M i).isSome = true) :
    Calls Tryz.prog 48 #[.pointer (some ⟨g, 0, none⟩), .int .i64 i, .slice B n d, .bool bl, .bool fx] w (MemW RepP g F M (.int .i64 1) w) := by
  have H := Lib.hid h
  obtain ⟨mv, L, rfl, h⟩ := h
  have c0 := h.cell
  have HLK := h.look w (Below.refl _ _) i hi64
  have SAME : Hid (∀ u, Below w.heap.size w u → MemW RepP g F (arM L) (.int .i64 1) w (.returned (.int .i64 1)) u) := Lib.hid fun u b => memW_sameP H.out b
  clear H
  cases hx : pIx (arM L) i with
  | none =>
    rw [rgF_none hx] at HLK
    dsimp only [Option.getD_none, Option.isSome_none] at HLK
    rw [show rgZ = .agg #[.slice none 0 0, .slice none 0 0, .bool false] from rfl] at HLK
    rw [hx] at hi
    have hi2 : i < 1 ∨ 2147483648 ≤ i := by
      rcases hi with hi | hi | hi
      · exact .inl hi
      · exact .inr hi
      · cases hi
    clear hx h hi
    rcases hi2 with h1 | h1
    · go_enter Tryz.func48, Tryz.ntmps48
      go_wp2_with fail
      go_ret
      exact SAME.out _ (below_alloc (Below.refl _ _) _)
    · have h2 : 1 ≤ i := by omega
      have h3 : 2147483647 < i := by omega
      go_enter Tryz.func48, Tryz.ntmps48
      go_wp2_with fail
      go_ret
      exact SAME.out _ (below_alloc (Below.refl _ _) _)
  | some k =>
    have hk := (pIx_some hx).1
    rw [arM_len] at hk
    rw [rgF_some hx] at HLK
    dsimp only [Option.getD_some, Option.isSome_some] at HLK
    obtain ⟨Ab, cb, hvb, -, -⟩ := own_slice (h.own k hk).1
    obtain ⟨Ak, ck, hvk, -, -⟩ := own_slice (h.own k hk).2
    unfold rgV at HLK
    rw [hvb, hvk] at HLK
    clear hx h hi hvb hvk
    generalize (arAt L k).a.fx = f2 at *
    generalize (arAt L k).a.bl.length = lk at *
    generalize (arAt L k).a.b.length = lb at *
    go_enter Tryz.func48, Tryz.ntmps48
    go_wp2_with fail
    go_ret
    exact SAME.out _ (below_alloc (Below.refl _ _) _)
set_option maxRecDepth 100000 in
set_option maxHeartbeats 2000000 in
theorem c8_Make_long (w : World) (g : Nat) (M : PM) (F : Nat → Prop) (i : Int) (B : Option Addr) (n d : Nat) (bl fx : Bool) (h : RepP w g M F) (hi : 1 ≤ i ∧ i < 2147483648) (hx : pIx M i = none) (hn : 1024 < n) :
    Calls Tryz.prog 48 #[.pointer (some ⟨g, 0, none⟩), .int .i64 i, .slice B n d, .bool bl, .bool fx] w (MemW RepP g F M (.int .i64 3) w) := by
  have H := Lib.hid h
  obtain ⟨mv, L, rfl, h⟩ := h
  have c0 := h.cell
  have HLK := h.look w (Below.refl _ _) i (by omega)
  rw [rgF_none hx] at HLK
  dsimp only [Option.getD_none, Option.isSome_none] at HLK
  rw [show rgZ = .agg #[.slice none 0 0, .slice none 0 0, .bool false] from rfl] at HLK
  have hn' : (1024 : Int) < n := by omega
  have hi2 : i ≤ 2147483647 := by omega
  clear h hx
  go_enter Tryz.func48, Tryz.ntmps48
  go_wp2_with fail
  go_ret
  exact memW_sameP H.out (below_alloc (Below.refl _ _) _)
set_option maxRecDepth 100000 in
set_option maxHeartbeats 4000000 in
theorem c8_Make_more (w : World) (g bm : Nat) (L : List AR) (F : Nat → Prop) (i : Int) (b : List Int) (B : Option Addr) (n d : Nat) (bl fx : Bool) (h : RepQ w g (.map (some bm)) L F) (hi : 1 ≤ i ∧ i < 2147483648) (hx : pIx (arM L) i = none) (hb : BytS w B b) (hob : OkB b) (hlen : b.length = n) (hn : n ≤ 1024) (hL : L.length ≤ 100000) :
    Calls Tryz.prog 48 #[.pointer (some ⟨g, 0, none⟩), .int .i64 i, .slice B n d, .bool bl, .bool fx] w (MemW RepP g F (arM L ++ [⟨i, b, List.replicate b.length bl, fx⟩]) (.int .i64 0) w) := by
  have c0 := h.cell
  have d0 := cell_alloc c0 (.cells #[.slice none 0 0, .slice none 0 0, .bool false] 158)
  have HLK := h.look w (Below.refl _ _) i (by omega)
  rw [rgF_none hx] at HLK
  dsimp only [Option.getD_none, Option.isSome_none] at HLK
  rw [show rgZ = .agg #[.slice none 0 0, .slice none 0 0, .bool false] from rfl] at HLK
  have V0 : Hid (Below w.heap.size w (w.alloc (.cells #[.slice none 0 0, .slice none 0 0, .bool false] 158))) := Lib.hid (below_alloc (Below.refl _ _) _)
  have hgg : g < w.heap.size := h.lt h.foot0
  have hbm : bm < w.heap.size := h.lt (h.foot1 rfl)
  have HGM : Hid (g ≠ bm) := Lib.hid fun e => by
    have := h.apart 0 1 g rfl (by rw [e]; rfl)
    omega
  have HI : Hid (-9223372036854775808 ≤ i ∧ i ≤ 9223372036854775807) := Lib.hid (by omega)
  have HN : Hid (L.length < maxLen) := Lib.hid (by unfold maxLen; omega)
  have hi2 : i ≤ 2147483647 := by omega
  have hn' : (n : Int) ≤ 1024 := by omega
  obtain ⟨w1, hw1⟩ : ∃ w1, w1 = w.alloc (.cells #[.slice none 0 0, .slice none 0 0, .bool false] 158) := ⟨_, rfl⟩
  rw [← hw1] at V0
  have hs1 := V0.out.size
  have HG : Hid (g < w1.drew.heap.size) := Lib.hid (Nat.lt_of_lt_of_le hgg hs1)
  have LAID : Hid (∀ u, Below w.heap.size w u → Calls Tryz.prog 92 #[.slice B n d, .bool bl, .bool fx] u _) := Lib.hid fun u hu => c8_laid u B b n d bl fx (hb.after hu) hlen hn
  have BX : Hid (Below w.heap.size w w1.drew) := Lib.hid V0.out.drew
  have HM : Hid (∀ u, Below w1.drew.heap.size w1.drew u → MapIs Tryz.prog 3 u bm L.length (intM (rgF L))) := Lib.hid fun u hu => h.map.is.same ((hu.block bm (Nat.lt_of_lt_of_le hbm hs1)).trans (BX.out.block bm hbm))
  have DONE : Hid (∀ y z gb gk, y.ownsRow w1.drew.heap.size 5 1 (.slice (some ⟨gb, 0, none⟩) n n) n (byC b) → y.ownsRow w1.drew.heap.size 4 1 (.slice (some ⟨gk, 0, none⟩) n n) n (boC (List.replicate n bl)) → gb ≠ gk → Below w1.drew.heap.size w1.drew y →
      MapIs Tryz.prog 3 z bm (L.length + 1) (putM (intM (rgF L)) (.int .i64 i) (some (.agg #[.slice (some ⟨gb, 0, none⟩) n n, .slice (some ⟨gk, 0, none⟩) n n, .bool fx]))) → y.grownBy z (some bm) → MemW RepP g F (arM L ++ [⟨i, b, List.replicate b.length bl, fx⟩]) (.int .i64 0) w (.returned (.int .i64 0)) z) := Lib.hid fun y z gb gk q1 q2 q3 q4 q5 q6 => ⟨rfl,
    mk_done h (Turn.of_below BX.out) (h.blk.after BX.out) (Nat.lt_of_lt_of_le hbm hs1) (Nat.le_refl _) (.inl rfl) (fun k hk _ => BX.out.block k (h.lt hk)) q4 q1 q2 q3 q5 q6 hx hi hob hlen hn⟩
  have KX : Hid (w1.drew.cell? ⟨g, 0, none⟩ = some (.map (some bm))) := Lib.hid (by rw [hw1]; exact d0)
  have HW := Lib.hid hw1
  clear hw1
  clear h hx hb hob hlen hL hgg hbm hs1
  have hnil : ∀ u, (binOp BinOp.eql 154 (.map (some bm)) (.map none)).run Tryz.prog u = .ok (.bool false) u := fun _ => rfl
  go_enter Tryz.func48, Tryz.ntmps48
  go_upto_region 10 with fail
  rw [← HW.out]
  clear HW c0 d0 HLK hnil
  refine wp_region_held_drew (S := fun w' => w'.cell? ⟨g, 0, none⟩ = some (.map (some bm))) (by kernel_rfl) KX.out (fun hHeld => ?_)
  refine wpAnyH_take (i := 0) (v := ?_) rfl (by kernel_rfl) (by kernel_rfl) (by kernel_rfl) (fun _ _ _ h => h) (Or.inl ⟨by rfl, ?_⟩) (by assumption) ?_
  rotate_left 1
  · intro w hSw; (try dsimp only at hSw); go_simp; try (with_reducible rfl)
  try simp only [Act.put, List.setIfInBounds_toArray, List.set_cons_zero, List.set_cons_succ]
  refine wpAnyH_take (i := 1) (v := ?_) rfl (by kernel_rfl) (by kernel_rfl) (by kernel_rfl) (fun _ _ _ h => h) (Or.inl ⟨by rfl, ?_⟩) (by assumption) ?_
  rotate_left 1
  · intro w hSw; (try dsimp only at hSw); go_simp; try (with_reducible rfl)
  try simp only [Act.put, List.setIfInBounds_toArray, List.set_cons_zero, List.set_cons_succ]
  refine wpAnyH_take (i := 2) (v := ?_) rfl (by kernel_rfl) (by kernel_rfl) (by kernel_rfl) (fun _ _ _ h => h) (Or.inl ⟨by rfl, ?_⟩) (by assumption) ?_
  rotate_left 1
  · intro w hSw; (try dsimp only at hSw); go_simp; try (with_reducible rfl)
  try simp only [Act.put, List.setIfInBounds_toArray, List.set_cons_zero, List.set_cons_succ]
  refine wpAnyH_take (i := 3) (v := ?_) rfl (by kernel_rfl) (by kernel_rfl) (by kernel_rfl) (fun _ _ _ h => h) (Or.inl ⟨by rfl, ?_⟩) (by assumption) ?_
  rotate_left 1
  · intro w hSw; (try dsimp only at hSw); go_simp; try (with_reducible rfl)
  try simp only [Act.put, List.setIfInBounds_toArray, List.set_cons_zero, List.set_cons_succ]
  refine wpAnyH_take (i := 4) (v := ?_) rfl (by kernel_rfl) (by kernel_rfl) (by kernel_rfl) (fun _ _ _ h => h) (Or.inl ⟨by rfl, ?_⟩) (by assumption) ?_
  rotate_left 1
  · intro w hSw; (try dsimp only at hSw); go_simp; try (with_reducible rfl)
  try simp only [Act.put, List.setIfInBounds_toArray, List.set_cons_zero, List.set_cons_succ]
  refine wpAnyH_take (i := 5) (v := ?_) rfl (by kernel_rfl) (by kernel_rfl) (by kernel_rfl) (fun _ _ _ h => h) (Or.inl ⟨by rfl, ?_⟩) (by assumption) ?_
  rotate_left 1
  · intro w hSw; (try dsimp only at hSw); go_simp; try (with_reducible rfl)
  try simp only [Act.put, List.setIfInBounds_toArray, List.set_cons_zero, List.set_cons_succ]
  refine wpAnyH_take (i := 6) (v := ?_) rfl (by kernel_rfl) (by kernel_rfl) (by kernel_rfl) (fun _ _ _ h => h) (Or.inl ⟨by rfl, ?_⟩) (by assumption) ?_
  rotate_left 1
  · intro w hSw; (try dsimp only at hSw); go_simp; try (with_reducible rfl)
  try simp only [Act.put, List.setIfInBounds_toArray, List.set_cons_zero, List.set_cons_succ]
  refine wpAnyH_take (i := 7) (v := ?_) rfl (by kernel_rfl) (by kernel_rfl) (by kernel_rfl) (fun _ _ _ h => h) (Or.inl ⟨by rfl, ?_⟩) (by assumption) ?_
  rotate_left 1
  · intro w hSw; (try dsimp only at hSw); go_simp; try (with_reducible rfl)
  try simp only [Act.put, List.setIfInBounds_toArray, List.set_cons_zero, List.set_cons_succ]
  refine wpAnyH_ready (rs := [8]) (by kernel_rfl) (by simp) ?_
  refine AllReadyH.cons rfl (fun K hK => ?_) AllReadyH.nil
  · skip
    go_simp
    refine (LAID.out _ BX.out).mono ?_; rintro e w5 ⟨gb, gk, rfl, ob, ok, gne, b5⟩
    have B5 := Lib.hid (And.intro ob (And.intro ok (And.intro gne b5)))
    have kg : w5.cell? ⟨g, 0, none⟩ = some (.map (some bm)) := (b5.cell (p := ⟨g, 0, none⟩) HG.out).trans hHeld
    clear ob ok gne b5 LAID BX
    go_wp2_with fail
    refine hK.out _ _ kg (fun hHeld => ?_)
    clear hK K
    try simp only [Act.put, List.setIfInBounds_toArray, List.set_cons_zero, List.set_cons_succ]
    refine wpAnyH_ready (rs := [9]) (by kernel_rfl) (by simp) ?_
    refine AllReadyH.cons rfl (fun K hK => ?_) AllReadyH.nil
    · skip
      obtain ⟨w6, hrun, hmap, hgr⟩ := (HM.out w5 B5.out.2.2.2).put intK Tryz.underlying154 HN.out (keyI Tryz.underlying3 i HI.out) (.agg #[.slice (some ⟨gb, 0, none⟩) n n, .slice (some ⟨gk, 0, none⟩) n n, .bool fx])
      have HQ := Lib.hid (DONE.out w5 w6 gb gk B5.out.1 B5.out.2.1 B5.out.2.2.1 B5.out.2.2.2 hmap hgr)
      have k6 : w6.cell? ⟨g, 0, none⟩ = some (.map (some bm)) := (hgr.cell kg (fun e => HGM.out (Option.some.inj e)))
      clear hmap hgr
      go_simp
      refine hK.out _ _ k6 (fun hHeld => ?_)
      clear hK K
      try simp only [Act.put, List.setIfInBounds_toArray, List.set_cons_zero, List.set_cons_succ]
      refine wpAnyH_done (by kernel_rfl) ?_ _
      clear hrun kg k6 HM DONE
      go_wp2_with fail
      go_ret
      exact HQ.out
set_option maxRecDepth 100000 in
set_option maxHeartbeats 4000000 in
theorem c8_Make_first (w : World) (g : Nat) (F : Nat → Prop) (i : Int) (b : List Int) (B : Option Addr) (n d : Nat) (bl fx : Bool) (h : RepQ w g (.map none) [] F) (hi : 1 ≤ i ∧ i < 2147483648) (hb : BytS w B b) (hob : OkB b) (hlen : b.length = n) (hn : n ≤ 1024) :
    Calls Tryz.prog 48 #[.pointer (some ⟨g, 0, none⟩), .int .i64 i, .slice B n d, .bool bl, .bool fx] w (MemW RepP g F (arM [] ++ [⟨i, b, List.replicate b.length bl, fx⟩]) (.int .i64 0) w) := by
  have c0 := h.cell
  have d0 := cell_alloc c0 (.cells #[.slice none 0 0, .slice none 0 0, .bool false] 158)
  have d1 := cell_alloc d0 (.map #[] 0)
  have BA : Hid (Below w.heap.size w ((w.alloc (.cells #[.slice none 0 0, .slice none 0 0, .bool false] 158)).alloc (.map #[] 0))) := Lib.hid (below_alloc (below_alloc (Below.refl _ _) _) _)
  have f1 := (h.blk.after BA.out).free 0
  have hmk := fun u => run_makeMap (P := Tryz.prog) 154 u
  have HLK := h.look w (Below.refl _ _) i (by omega)
  rw [rgF_none (L := []) rfl] at HLK
  dsimp only [Option.getD_none, Option.isSome_none] at HLK
  rw [show rgZ = .agg #[.slice none 0 0, .slice none 0 0, .bool false] from rfl] at HLK
  have hi2 : i ≤ 2147483647 := by omega
  have hn' : (n : Int) ≤ 1024 := by omega
  have hgg : g < w.heap.size := h.lt h.foot0
  obtain ⟨bm, hbm⟩ : ∃ bm, bm = w.heap.size + 1 := ⟨_, rfl⟩
  obtain ⟨w1, hw1⟩ : ∃ w1, w1 = ((w.alloc (.cells #[.slice none 0 0, .slice none 0 0, .bool false] 158)).alloc (.map #[] 0)).setCell ⟨g, 0, none⟩ (.map (some (w.heap.size + 1))) := ⟨_, rfl⟩
  have HGM : Hid (g ≠ bm) := Lib.hid (by omega)
  have HI : Hid (-9223372036854775808 ≤ i ∧ i ≤ 9223372036854775807) := Lib.hid (by omega)
  have HN : Hid ((0 : Nat) < maxLen) := Lib.hid (by unfold maxLen; omega)
  have TX : Hid (Turn F w w1) := Lib.hid (by rw [hw1]; exact (Turn.of_below BA.out).setCell (p := ⟨g, 0, none⟩) (.inl h.foot0) _)
  have hs1 : w.heap.size + 2 ≤ w1.heap.size := by rw [hw1]; simp [World.setCell]
  have HG : Hid (g < w1.drew.heap.size) := Lib.hid (by show g < w1.heap.size; omega)
  have MB : Hid (Blk g #[.map (some bm)] 156 w1) := Lib.hid (by rw [hw1, hbm]; exact (h.blk.after BA.out).set 0 _)
  have MM : Hid (MapIs Tryz.prog 3 w1 bm 0 (intM (rgF []))) := Lib.hid (by
    have q := mapIs_made (w.alloc (.cells #[.slice none 0 0, .slice none 0 0, .bool false] 158)) Tryz.prog 3
    rw [show (w.alloc (.cells #[.slice none 0 0, .slice none 0 0, .bool false] 158)).heap.size = bm by rw [hbm]; simp] at q
    refine (q.same (w' := w1) ?_).eq (fun kl _ => by unfold intM; split <;> rfl)
    rw [hw1]
    exact Below.heap_setCell _ _ _ _ (by show bm ≠ g; omega))
  have HOLD : Hid (∀ k, F k → k ≠ g → w1.heap[k]? = w.heap[k]?) := Lib.hid fun k hk hne => by
    rw [hw1]
    exact (Below.heap_setCell _ _ _ _ hne).trans (BA.out.block k (h.lt hk))
  have LAID : Hid (∀ u, BytS u B b → Calls Tryz.prog 92 #[.slice B n d, .bool bl, .bool fx] u _) := Lib.hid fun u hu => c8_laid u B b n d bl fx hu hlen hn
  have BX : Hid (BytS w1.drew B b) := Lib.hid fun hp => by
    obtain ⟨gx, ox, e, hx, hc⟩ := hb hp
    refine ⟨gx, ox, e, by show gx < w1.heap.size; omega, fun k hk => ?_⟩
    by_cases hgx : gx = g
    · subst hgx
      have := hc k hk
      have q := h.cell
      have e0 : (ox + k) = 0 ∨ ox + k ≠ 0 := by omega
      rcases e0 with e0 | e0
      · rw [e0, q] at this; cases this
      · rw [Blk.cell h.blk (ox + k), Array.getElem?_eq_none (by simp; omega)] at this; cases this
    · rw [← hc k hk]
      refine World.cell?_of_block (a := ⟨gx, ox + k, none⟩) ?_
      show w1.heap[gx]? = w.heap[gx]?
      rw [hw1]
      exact (Below.heap_setCell _ _ _ _ hgx).trans (BA.out.block gx hx)
  have HM : Hid (∀ u, Below w1.drew.heap.size w1.drew u → MapIs Tryz.prog 3 u bm 0 (intM (rgF []))) := Lib.hid fun u hu => MM.out.same (hu.block bm MM.out.lt)
  have DONE : Hid (∀ y z gb gk, y.ownsRow w1.drew.heap.size 5 1 (.slice (some ⟨gb, 0, none⟩) n n) n (byC b) → y.ownsRow w1.drew.heap.size 4 1 (.slice (some ⟨gk, 0, none⟩) n n) n (boC (List.replicate n bl)) → gb ≠ gk → Below w1.drew.heap.size w1.drew y →
      MapIs Tryz.prog 3 z bm (0 + 1) (putM (intM (rgF [])) (.int .i64 i) (some (.agg #[.slice (some ⟨gb, 0, none⟩) n n, .slice (some ⟨gk, 0, none⟩) n n, .bool fx]))) → y.grownBy z (some bm) → MemW RepP g F (arM [] ++ [⟨i, b, List.replicate b.length bl, fx⟩]) (.int .i64 0) w (.returned (.int .i64 0)) z) := Lib.hid fun y z gb gk q1 q2 q3 q4 q5 q6 => ⟨rfl,
    mk_done (x := w1.drew) h TX.out.drew MB.out MM.out.lt (Nat.le_refl _) (.inr (by omega)) HOLD.out q4 q1 q2 q3 q5 q6 rfl hi hob hlen hn⟩
  have KX : Hid (w1.drew.cell? ⟨g, 0, none⟩ = some (.map (some bm))) := Lib.hid (MB.out.cell 0)
  have HW := Lib.hid hw1
  have HBM := Lib.hid hbm
  clear hw1 hbm
  clear h hb hob hlen hgg hs1 MM MB HOLD TX BA
  have hnil : ∀ u, (binOp BinOp.eql 154 (.map none) (.map none)).run Tryz.prog u = .ok (.bool true) u := fun _ => rfl
  go_enter Tryz.func48, Tryz.ntmps48
  go_upto_region 10 with fail
  rw [← HW.out, ← HBM.out]
  clear HW HBM c0 d0 d1 f1 HLK hnil hmk
  refine wp_region_held_drew (S := fun w' => w'.cell? ⟨g, 0, none⟩ = some (.map (some bm))) (by kernel_rfl) KX.out (fun hHeld => ?_)
  refine wpAnyH_take (i := 0) (v := ?_) rfl (by kernel_rfl) (by kernel_rfl) (by kernel_rfl) (fun _ _ _ h => h) (Or.inl ⟨by rfl, ?_⟩) (by assumption) ?_
  rotate_left 1
  · intro w hSw; (try dsimp only at hSw); go_simp; try (with_reducible rfl)
  try simp only [Act.put, List.setIfInBounds_toArray, List.set_cons_zero, List.set_cons_succ]
  refine wpAnyH_take (i := 1) (v := ?_) rfl (by kernel_rfl) (by kernel_rfl) (by kernel_rfl) (fun _ _ _ h => h) (Or.inl ⟨by rfl, ?_⟩) (by assumption) ?_
  rotate_left 1
  · intro w hSw; (try dsimp only at hSw); go_simp; try (with_reducible rfl)
  try simp only [Act.put, List.setIfInBounds_toArray, List.set_cons_zero, List.set_cons_succ]
  refine wpAnyH_take (i := 2) (v := ?_) rfl (by kernel_rfl) (by kernel_rfl) (by kernel_rfl) (fun _ _ _ h => h) (Or.inl ⟨by rfl, ?_⟩) (by assumption) ?_
  rotate_left 1
  · intro w hSw; (try dsimp only at hSw); go_simp; try (with_reducible rfl)
  try simp only [Act.put, List.setIfInBounds_toArray, List.set_cons_zero, List.set_cons_succ]
  refine wpAnyH_take (i := 3) (v := ?_) rfl (by kernel_rfl) (by kernel_rfl) (by kernel_rfl) (fun _ _ _ h => h) (Or.inl ⟨by rfl, ?_⟩) (by assumption) ?_
  rotate_left 1
  · intro w hSw; (try dsimp only at hSw); go_simp; try (with_reducible rfl)
  try simp only [Act.put, List.setIfInBounds_toArray, List.set_cons_zero, List.set_cons_succ]
  refine wpAnyH_take (i := 4) (v := ?_) rfl (by kernel_rfl) (by kernel_rfl) (by kernel_rfl) (fun _ _ _ h => h) (Or.inl ⟨by rfl, ?_⟩) (by assumption) ?_
  rotate_left 1
  · intro w hSw; (try dsimp only at hSw); go_simp; try (with_reducible rfl)
  try simp only [Act.put, List.setIfInBounds_toArray, List.set_cons_zero, List.set_cons_succ]
  refine wpAnyH_take (i := 5) (v := ?_) rfl (by kernel_rfl) (by kernel_rfl) (by kernel_rfl) (fun _ _ _ h => h) (Or.inl ⟨by rfl, ?_⟩) (by assumption) ?_
  rotate_left 1
  · intro w hSw; (try dsimp only at hSw); go_simp; try (with_reducible rfl)
  try simp only [Act.put, List.setIfInBounds_toArray, List.set_cons_zero, List.set_cons_succ]
  refine wpAnyH_take (i := 6) (v := ?_) rfl (by kernel_rfl) (by kernel_rfl) (by kernel_rfl) (fun _ _ _ h => h) (Or.inl ⟨by rfl, ?_⟩) (by assumption) ?_
  rotate_left 1
  · intro w hSw; (try dsimp only at hSw); go_simp; try (with_reducible rfl)
  try simp only [Act.put, List.setIfInBounds_toArray, List.set_cons_zero, List.set_cons_succ]
  refine wpAnyH_take (i := 7) (v := ?_) rfl (by kernel_rfl) (by kernel_rfl) (by kernel_rfl) (fun _ _ _ h => h) (Or.inl ⟨by rfl, ?_⟩) (by assumption) ?_
  rotate_left 1
  · intro w hSw; (try dsimp only at hSw); go_simp; try (with_reducible rfl)
  try simp only [Act.put, List.setIfInBounds_toArray, List.set_cons_zero, List.set_cons_succ]
  refine wpAnyH_ready (rs := [8]) (by kernel_rfl) (by simp) ?_
  refine AllReadyH.cons rfl (fun K hK => ?_) AllReadyH.nil
  · skip
    go_simp
    refine (LAID.out _ BX.out).mono ?_; rintro e w5 ⟨gb, gk, rfl, ob, ok, gne, b5⟩
    have B5 := Lib.hid (And.intro ob (And.intro ok (And.intro gne b5)))
    have kg : w5.cell? ⟨g, 0, none⟩ = some (.map (some bm)) := (b5.cell (p := ⟨g, 0, none⟩) HG.out).trans hHeld
    clear ob ok gne b5 LAID BX
    go_wp2_with fail
    refine hK.out _ _ kg (fun hHeld => ?_)
    clear hK K
    try simp only [Act.put, List.setIfInBounds_toArray, List.set_cons_zero, List.set_cons_succ]
    refine wpAnyH_ready (rs := [9]) (by kernel_rfl) (by simp) ?_
    refine AllReadyH.cons rfl (fun K hK => ?_) AllReadyH.nil
    · skip
      obtain ⟨w6, hrun, hmap, hgr⟩ := (HM.out w5 B5.out.2.2.2).put intK Tryz.underlying154 HN.out (keyI Tryz.underlying3 i HI.out) (.agg #[.slice (some ⟨gb, 0, none⟩) n n, .slice (some ⟨gk, 0, none⟩) n n, .bool fx])
      have HQ := Lib.hid (DONE.out w5 w6 gb gk B5.out.1 B5.out.2.1 B5.out.2.2.1 B5.out.2.2.2 hmap hgr)
      have k6 : w6.cell? ⟨g, 0, none⟩ = some (.map (some bm)) := (hgr.cell kg (fun e => HGM.out (Option.some.inj e)))
      clear hmap hgr
      go_simp
      refine hK.out _ _ k6 (fun hHeld => ?_)
      clear hK K
      try simp only [Act.put, List.setIfInBounds_toArray, List.set_cons_zero, List.set_cons_succ]
      refine wpAnyH_done (by kernel_rfl) ?_ _
      clear hrun kg k6 HM DONE
      go_wp2_with fail
      go_ret
      exact HQ.out
theorem c8_Make (w : World) (g : Nat) (M : PM) (F : Nat → Prop) (i : Int) (b : List Int) (B : Option Addr) (d : Nat) (bl fx : Bool) (h : RepP w g M F) (hi64 : -9223372036854775808 ≤ i ∧ i ≤ 9223372036854775807) (hb : BytS w B b) (hob : OkB b) (hd : b.length ≤ d) (hmd : d ≤ maxLen) (hM : M.length ≤ 100000) :
    Calls Tryz.prog 48 #[.pointer (some ⟨g, 0, none⟩), .int .i64 i, .slice B b.length d, .bool bl, .bool fx] w (MemW RepP g F (pMake M i b bl fx).1 (.int .i64 (pMake M i b bl fx).2) w) := by
  unfold pMake
  by_cases h1 : i < 1 ∨ 2147483648 ≤ i ∨ (pIx M i).isSome = true
  · rw [if_pos h1]
    exact c8_Make_arg w g M F i B b.length d bl fx h hi64 h1
  · rw [if_neg h1]
    have hx : pIx M i = none := by
      cases hx : pIx M i with
      | none => rfl
      | some k => exact absurd (.inr (.inr (by rw [hx]; rfl))) h1
    by_cases h2 : 1024 < b.length
    · rw [if_pos h2]
      exact c8_Make_long w g M F i B b.length d bl fx h (by omega) hx h2
    · rw [if_neg h2]
      obtain ⟨mv, L, rfl, h⟩ := h
      rcases h.map with ⟨rfl, rfl⟩ | ⟨bm, rfl, _⟩
      · exact c8_Make_first w g F i b B b.length d bl fx h (by omega) hb hob rfl (by omega)
      · exact c8_Make_more w g bm L F i b B b.length d bl fx h (by omega) hx hb hob rfl (by omega) (by rw [arM_len] at hM; exact hM)
theorem c8_New (w : World) : Calls Tryz.prog 47 #[] w (fun e w' => ∃ g F, e = .returned (.pointer (some ⟨g, 0, none⟩)) ∧ RepP w' g [] F ∧ Below w.heap.size w w' ∧ ∀ x, F x → w.heap.size ≤ x) := by
  have HQ : Hid (RepP (w.alloc (.cells #[.map none] 156)) w.heap.size [] (fun x => x = w.heap.size)) := Lib.hid (by
    refine ⟨.map none, [], rfl, Blk.new w _ _ rfl, .inl ⟨rfl, rfl⟩, fun k hk => absurd hk (by simp), ?_, ?_, fun k hk => absurd hk (by simp [arM])⟩
    · intro p q x hp hq
      rcases arBlk_cases hp with ⟨h1, _⟩ | ⟨_, h2⟩ | ⟨k, hk, _⟩
      · rcases arBlk_cases hq with ⟨h3, _⟩ | ⟨_, h4⟩ | ⟨k, hk, _⟩
        · omega
        · cases h4
        · simp at hk
      · cases h2
      · simp at hk
    · intro x
      constructor
      · rintro rfl; exact ⟨0, rfl⟩
      · rintro ⟨p, hp⟩
        rcases arBlk_cases hp with ⟨_, h2⟩ | ⟨_, h2⟩ | ⟨k, hk, _⟩
        · exact h2
        · cases h2
        · simp at hk)
  go_enter Tryz.func47, Tryz.ntmps47
  go_wp2_with fail
  go_ret
  exact ⟨_, _, rfl, HQ.out, below_alloc (Below.refl _ _) _, fun x hx => by rw [hx]; exact Nat.le_refl _⟩
end Go.Proofs.YtlbhffdpklbhfaaGreat
