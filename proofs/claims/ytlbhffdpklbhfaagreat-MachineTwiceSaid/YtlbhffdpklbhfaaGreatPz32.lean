/-
  Texts, one behind the other: Help3.
  Conditions: those that each theorem states.
-/
import Derived.Deep.RegionHeld
import Derived.Deep.RegionHeld3
import Derived.Test.YtlbhffdpklbhfaaGreatPz5
namespace Go.Proofs.YtlbhffdpklbhfaaGreat
open Go.RowKit
set_option maxRecDepth 100000
set_option linter.unusedVariables false
set_option linter.unusedSimpArgs false
theorem app_nums {w : World} {base : Nat} {v : Value} (hv : w.ownsRow base 42 1 v 0 []) (hb : base ≤ w.heap.size) (g o c m : Nat) (r : List Int) (hm : r.length = m) (hr : ∀ k, k < r.length → w.cell? ⟨g, o + k, none⟩ = some (.int .u64 (bAt r k))) (hs : r.length ≤ 100000) :
    ∃ v2 u2, (Builtin.append_ #[26, 26] 26 #[v, .slice (some ⟨g, o, none⟩) m c]).run Tryz.prog w = .ok v2 u2 ∧ u2.ownsRow base 42 1 v2 r.length (nuC r) ∧ w.grownBy u2 v.ownBlock := by
  subst hm
  obtain ⟨i0, hi, hz, h1, h2⟩ := info_parts (show (Tryz.prog.info? 42).map (fun i => (i.zero, i.size, i.bytes)) = some (some (.int .u64 0), 1, 8) by kernel_rfl)
  obtain ⟨v2, u2, e1, e2, e3, -⟩ := run_append_own (P := Tryz.prog) w base 26 26 42 i0 (.int .u64 0) 1 8 Tryz.underlying26 hi hz h1 h2 rfl (by omega) v 0 [] hv ⟨g, o, none⟩ r.length c (nuC r) (by rw [nuC_len]; omega) (num_news hr) (nuC_one r) (by unfold maxLen; omega) (by omega) hb
  rw [Nat.zero_add, List.nil_append] at e2
  exact ⟨v2, u2, e1, e2, e3⟩
structure DrQ (w : World) (g o : Nat) (l : List Int) (gs : Nat) (cs : Array Value) (u : World) : Prop where
  low : Below w.heap.size w u
  lt : g < u.heap.size
  row : ∀ k, k < l.length → u.cell? ⟨g, o + k, none⟩ = some (.int .u64 (bAt l k))
  sig : Blk gs cs 175 u
theorem DrQ.after {w u u' : World} {g o gs : Nat} {l : List Int} {cs : Array Value} (h : DrQ w g o l gs cs u) (b : Below u.heap.size u u') : DrQ w g o l gs cs u' :=
  ⟨below_next' h.low b, Nat.lt_of_lt_of_le h.lt b.size, fun k hk => (b.cell (p := ⟨g, o + k, none⟩) h.lt).trans (h.row k hk), h.sig.after b⟩
set_option maxHeartbeats 400000 in
theorem h10_Draw (i : Int) (l : List Int) (A : Option Addr) (c : Nat) (w : World) (hl : l.length ≤ 1000) (hlc : l.length ≤ c) (hc : c ≤ maxLen) (h : NumS w A l) (hok : OkN l) :
    Calls Tryz.prog 185 #[.int .i64 i, .slice A l.length c] w (DrawW (hDr i l) w) := by
  have C := Lib.hid (h10_Sig i w)
  have HM := hS_most i
  unfold hDr
  unfold maxLen at hc
  generalize hS i = S at *
  generalize hOk i = ok at *
  obtain ⟨told, tells, draws, most⟩ := S
  dsimp only at *
  cases ok
  · rw [Bool.false_and, if_neg Bool.false_ne_true]
    go_enter Tryz.func185, Tryz.ntmps185
    go_wp2_with fail
    refine (C.out).mono ?_
    rintro e w1 ⟨A1, c1, he, b1, hrow⟩
    unfold sgV at he
    subst he
    have V := Lib.hid (below_alloc b1 (.cells #[.slice A1 told.length c1, .int .u8 tells, .bool draws, .int .u64 most] 175))
    clear b1 hrow
    generalize told.length = tl at *
    go_wp2_with fail
    go_ret3
    exact drawW_none 0 1 V.out
  cases draws
  · rw [Bool.and_false, if_neg Bool.false_ne_true]
    go_enter Tryz.func185, Tryz.ntmps185
    go_wp2_with fail
    refine (C.out).mono ?_
    rintro e w1 ⟨A1, c1, he, b1, hrow⟩
    unfold sgV at he
    subst he
    have V := Lib.hid (below_alloc b1 (.cells #[.slice A1 told.length c1, .int .u8 tells, .bool false, .int .u64 most] 175))
    clear b1 hrow
    generalize told.length = tl at *
    go_wp2_with fail
    go_ret3
    exact drawW_none 0 1 V.out
  rw [Bool.and_self, if_pos rfl]
  cases l with
  | nil =>
    have hz : ([] : List Int).length = 0 := rfl
    rw [hz] at *
    go_enter Tryz.func185, Tryz.ntmps185
    go_wp2_with fail
    refine (C.out).mono ?_
    rintro e w1 ⟨A1, c1, he, b1, hrow⟩
    unfold sgV at he
    subst he
    have V := Lib.hid (below_alloc b1 (.cells #[.slice A1 told.length c1, .int .u8 tells, .bool true, .int .u64 most] 175))
    clear b1 hrow
    generalize told.length = tl at *
    go_wp2_with fail
    go_ret3
    exact drawW_none 0 100 V.out
  | cons x r =>
    obtain ⟨g, o, rfl, hg, hcell⟩ := h (by simp)
    have hx := hok 0 (by simp)
    have hlen : (x :: r).length = r.length + 1 := rfl
    have CT : Hid (∀ u, Calls Tryz.prog 198 #[.int .u64 x, .int .u64 most] u (Gives (.int .u64 (hCut x most)) u)) := Lib.hid fun u => h10_cut x most u hx HM
    have HROW := Lib.hid hcell
    have HG := Lib.hid hg
    by_cases hc1 : c = 1
    · skip
      have hr0 : r.length = 0 := by rw [hlen] at hlc; omega
      have AP : Hid (∀ gs cs u, DrQ w g o (x :: r) gs cs u → ∃ v2 u2, (Builtin.append_ #[26, 26] 26 #[.slice none 0 0, .slice (some ⟨g, o, none⟩) r.length (c - 1)]).run Tryz.prog u = .ok v2 u2 ∧ u2.ownsRow w.heap.size 42 1 v2 r.length (nuC r) ∧ Below u.heap.size u u2) := Lib.hid fun gs cs u q => by
        obtain ⟨v2, u2, e1, e2, e3⟩ := app_nums (own_none_ u w.heap.size _) q.low.size g o (c - 1) r.length r rfl (fun k hk => by omega) (by omega)
        exact ⟨v2, u2, e1, e2, below_own (Below.refl _ _) (own_none_ u u.heap.size 42) (Nat.le_refl _) e3⟩
      clear hok h hcell hg
      rw [hlen] at hl hlc ⊢
      clear hlen
      have HRL := Lib.hid hr0
      rw [hr0] at AP hl hlc ⊢
      rw [hc1] at AP hlc ⊢
      clear hr0 hc hc1
      simp only [Nat.zero_add, Nat.sub_self] at *
      go_enter Tryz.func185, Tryz.ntmps185
      go_wp2_with fail
      refine (C.out).mono ?_
      rintro e w1 ⟨A1, c1, he, b1, hrow⟩
      unfold sgV at he
      subst he
      have Q : Hid (DrQ w g o (x :: r) w1.heap.size #[.slice A1 told.length c1, .int .u8 tells, .bool true, .int .u64 most] ((w1.alloc (.cells #[.slice A1 told.length c1, .int .u8 tells, .bool true, .int .u64 most] 175)).drew)) := Lib.hid (by
        have b2 := below_alloc b1 (.cells #[.slice A1 told.length c1, .int .u8 tells, .bool true, .int .u64 most] 175)
        have q : DrQ w g o (x :: r) w1.heap.size #[.slice A1 told.length c1, .int .u8 tells, .bool true, .int .u64 most] (w1.alloc (.cells #[.slice A1 told.length c1, .int .u8 tells, .bool true, .int .u64 most] 175)) :=
          ⟨b2, Nat.lt_of_lt_of_le HG.out b2.size, fun k hk => (b2.cell (p := ⟨g, o + k, none⟩) HG.out).trans (HROW.out k hk), Blk.new w1 _ _ rfl⟩
        exact q.after (Below.drew (Below.refl _ _)))
      have SD : Hid (∀ u, DrQ w g o (x :: r) w1.heap.size #[.slice A1 told.length c1, .int .u8 tells, .bool true, .int .u64 most] u → u.cell? ⟨g, o, none⟩ = some (.int .u64 x) ∧ u.cell? ⟨w1.heap.size, 3, none⟩ = some (.int .u64 most)) := Lib.hid fun u q => ⟨q.row 0 (by simp), Blk.cell q.sig 3⟩
      have AP2 := Lib.hid (fun u q => AP.out w1.heap.size #[.slice A1 told.length c1, .int .u8 tells, .bool true, .int .u64 most] u q)
      clear b1 hrow AP HROW HG
      generalize told.length = tl at *
      go_wp2_with fail
      refine wp_region_held_drew (S := fun w' => w'.cell? ⟨g, o, none⟩ = some (.int .u64 x) ∧ w'.cell? ⟨w1.heap.size, 3, none⟩ = some (.int .u64 most)) (by kernel_rfl) (SD.out _ Q.out) (fun hHeld => ?_)
      generalize (w1.alloc (.cells #[.slice A1 tl c1, .int .u8 tells, .bool true, .int .u64 most] 175)).drew = wd at *
      refine wpAnyH_take (i := 0) (oi := { dst := some 24, op := Op.move (Operand.tmp 1), type := _, pos := _, after := _, guard := none }) (v := ?_) rfl (by kernel_rfl) (by kernel_rfl) (by kernel_rfl) (fun _ _ _ h => h) (Or.inl ⟨by rfl, ?_⟩) (by first | exact hHeld | assumption) ?_
      rotate_left 1
      · intro w hSw; (try dsimp only at hSw); go_simp; try (with_reducible rfl)
      try simp only [Act.put, List.setIfInBounds_toArray, List.set_cons_zero, List.set_cons_succ]
      refine wpAnyH_take (i := 1) (oi := { dst := some 25, op := Op.indexAddr 26 (Operand.tmp 24) (Operand.const (Value.int IntKind.i64 0)), type := _, pos := _, after := _, guard := none }) (v := ?_) rfl (by kernel_rfl) (by kernel_rfl) (by kernel_rfl) (fun _ _ _ h => h) (Or.inl ⟨by rfl, ?_⟩) (by first | exact hHeld | assumption) ?_
      rotate_left 1
      · intro w hSw; (try dsimp only at hSw); go_simp; try (with_reducible rfl)
      try simp only [Act.put, List.setIfInBounds_toArray, List.set_cons_zero, List.set_cons_succ]
      refine wpAnyH_take (i := 2) (oi := { dst := some 26, op := Op.load 42 (Operand.tmp 25), type := _, pos := _, after := _, guard := none }) (v := ?_) rfl (by kernel_rfl) (by kernel_rfl) (by kernel_rfl) (fun _ _ _ h => h) (Or.inl ⟨by rfl, ?_⟩) (by first | exact hHeld | assumption) ?_
      rotate_left 1
      · intro w hSw; (try dsimp only at hSw); go_simp; try (with_reducible rfl)
      try simp only [Act.put, List.setIfInBounds_toArray, List.set_cons_zero, List.set_cons_succ]
      refine wpAnyH_take (i := 3) (oi := { dst := some 27, op := Op.fieldAddr 175 (Operand.tmp 7) 3, type := _, pos := _, after := _, guard := none }) (v := ?_) rfl (by kernel_rfl) (by kernel_rfl) (by kernel_rfl) (fun _ _ _ h => h) (Or.inl ⟨by rfl, ?_⟩) (by first | exact hHeld | assumption) ?_
      rotate_left 1
      · intro w hSw; (try dsimp only at hSw); go_simp; try (with_reducible rfl)
      try simp only [Act.put, List.setIfInBounds_toArray, List.set_cons_zero, List.set_cons_succ]
      refine wpAnyH_take (i := 4) (oi := { dst := some 28, op := Op.load 42 (Operand.tmp 27), type := _, pos := _, after := _, guard := none }) (v := ?_) rfl (by kernel_rfl) (by kernel_rfl) (by kernel_rfl) (fun _ _ _ h => h) (Or.inl ⟨by rfl, ?_⟩) (by first | exact hHeld | assumption) ?_
      rotate_left 1
      · intro w hSw; (try dsimp only at hSw); go_simp; try (with_reducible rfl)
      try simp only [Act.put, List.setIfInBounds_toArray, List.set_cons_zero, List.set_cons_succ]
      refine wpAnyH_take (i := 6) (oi := { dst := some 30, op := Op.move (Operand.tmp 1), type := _, pos := _, after := _, guard := none }) (v := ?_) rfl (by kernel_rfl) (by kernel_rfl) (by kernel_rfl) (fun _ _ _ h => h) (Or.inl ⟨by rfl, ?_⟩) (by first | exact hHeld | assumption) ?_
      rotate_left 1
      · intro w hSw; (try dsimp only at hSw); go_simp; try (with_reducible rfl)
      try simp only [Act.put, List.setIfInBounds_toArray, List.set_cons_zero, List.set_cons_succ]
      refine wpAnyH_take (i := 7) (oi := { dst := some 31, op := Op.slice 26 (Operand.tmp 30) (some (Operand.const (Value.int IntKind.i64 1))) none none, type := _, pos := _, after := _, guard := none }) (v := ?_) rfl (by kernel_rfl) (by kernel_rfl) (by kernel_rfl) (fun _ _ _ h => h) (Or.inl ⟨by rfl, ?_⟩) (by first | exact hHeld | assumption) ?_
      rotate_left 1
      · intro w hSw; (try dsimp only at hSw); go_simp; try (with_reducible rfl)
      try simp only [Act.put, List.setIfInBounds_toArray, List.set_cons_zero, List.set_cons_succ]
      refine wpAnyH_ready (rs := [5]) (by kernel_rfl) (by simp) ?_
      refine AllReadyH.cons (o := { dst := some 29, op := Op.call { callee := Callee.value (Operand.func 198), args := #[Operand.tmp 26, Operand.tmp 28], argTypes := #[42, 42] }, type := _, pos := _, after := _, guard := none }) rfl (fun K hK => ?_) AllReadyH.nil
      · skip
        go_simp
        refine (CT.out _).mono ?_; rintro e u1 ⟨rfl, b⟩
        replace Q := Lib.hid (Q.out.after b)
        clear b hHeld
        have hHeld := SD.out _ Q.out
        go_wp2_with fail
        refine hK.out _ _ hHeld (fun hHeld => ?_)
        clear hK K
        try simp only [Act.put, List.setIfInBounds_toArray, List.set_cons_zero, List.set_cons_succ]
        refine wpAnyH_ready (rs := [8]) (by kernel_rfl) (by simp) ?_
        refine AllReadyH.cons (o := { dst := some 32, op := Op.call { callee := Callee.builtin Builtin.append, args := #[Operand.const (Value.slice none 0 0), Operand.tmp 31], argTypes := #[26, 26] }, type := _, pos := _, after := _, guard := none }) rfl (fun K hK => ?_) AllReadyH.nil
        · skip
          obtain ⟨v2, u2, hr2, hown, hgr⟩ := AP2.out _ Q.out
          have Q2 := Lib.hid (Q.out.after hgr)
          have OW := Lib.hid hown
          refine step_append_run rfl (.const (.slice none 0 0)) (.tmp 31) _ _ rfl _ _ rfl rfl _ _ hr2 ?_
          replace Q := Lib.hid Q2.out
          clear hr2 hown hgr hHeld
          have hHeld := SD.out _ Q.out
          refine hK.out _ _ hHeld (fun hHeld => ?_)
          clear hK K
          try simp only [Act.put, List.setIfInBounds_toArray, List.set_cons_zero, List.set_cons_succ]
          refine wpAnyH_take (i := 9) (oi := { dst := some 4, op := Op.assign (Operand.tmp 29), type := _, pos := _, after := _, guard := none }) (v := ?_) rfl (by kernel_rfl) (by kernel_rfl) (by kernel_rfl) (fun _ _ _ h => h) (Or.inl ⟨by rfl, ?_⟩) (by first | exact hHeld | assumption) ?_
          rotate_left 1
          · intro w hSw; (try dsimp only at hSw); go_simp; try (with_reducible rfl)
          try simp only [Act.put, List.setIfInBounds_toArray, List.set_cons_zero, List.set_cons_succ]
          refine wpAnyH_take (i := 10) (oi := { dst := some 5, op := Op.assign (Operand.tmp 32), type := _, pos := _, after := _, guard := none }) (v := ?_) rfl (by kernel_rfl) (by kernel_rfl) (by kernel_rfl) (fun _ _ _ h => h) (Or.inl ⟨by rfl, ?_⟩) (by first | exact hHeld | assumption) ?_
          rotate_left 1
          · intro w hSw; (try dsimp only at hSw); go_simp; try (with_reducible rfl)
          try simp only [Act.put, List.setIfInBounds_toArray, List.set_cons_zero, List.set_cons_succ]
          refine wpAnyH_take (i := 11) (oi := { dst := some 6, op := Op.assign (Operand.const (Value.int IntKind.i64 0)), type := _, pos := _, after := _, guard := none }) (v := ?_) rfl (by kernel_rfl) (by kernel_rfl) (by kernel_rfl) (fun _ _ _ h => h) (Or.inl ⟨by rfl, ?_⟩) (by first | exact hHeld | assumption) ?_
          rotate_left 1
          · intro w hSw; (try dsimp only at hSw); go_simp; try (with_reducible rfl)
          try simp only [Act.put, List.setIfInBounds_toArray, List.set_cons_zero, List.set_cons_succ]
          refine wpAnyH_done (by kernel_rfl) ?_ _
          obtain ⟨A2, c2, rfl, -, -⟩ := own_slice OW.out
          clear hHeld SD AP2 CT
          go_wp2_with fail
          go_ret3
          refine ⟨A2, c2, ?_, Q.out.low, by dsimp only; rw [HRL.out]; exact OW.out⟩
          dsimp only; rw [HRL.out]; rfl
    · skip
      have AP : Hid (∀ gs cs u, DrQ w g o (x :: r) gs cs u → ∃ v2 u2, (Builtin.append_ #[26, 26] 26 #[.slice none 0 0, .slice (some ⟨g, o + 1, none⟩) r.length (c - 1)]).run Tryz.prog u = .ok v2 u2 ∧ u2.ownsRow w.heap.size 42 1 v2 r.length (nuC r) ∧ Below u.heap.size u u2) := Lib.hid fun gs cs u q => by
        obtain ⟨v2, u2, e1, e2, e3⟩ := app_nums (own_none_ u w.heap.size _) q.low.size g (o + 1) (c - 1) r.length r rfl (fun k hk => NumS.tail q.lt q.row 1 k hk) (by omega)
        exact ⟨v2, u2, e1, e2, below_own (Below.refl _ _) (own_none_ u u.heap.size 42) (Nat.le_refl _) e3⟩
      clear hok h hcell hg
      rw [hlen] at hl hlc ⊢
      clear hlen
      generalize hrl : r.length = rl at *
      have HRL := Lib.hid hrl
      clear hrl
      have hp1 : (1 : Int) ≤ rl + 1 := by omega
      go_enter Tryz.func185, Tryz.ntmps185
      go_wp2_with fail
      refine (C.out).mono ?_
      rintro e w1 ⟨A1, c1, he, b1, hrow⟩
      unfold sgV at he
      subst he
      have Q : Hid (DrQ w g o (x :: r) w1.heap.size #[.slice A1 told.length c1, .int .u8 tells, .bool true, .int .u64 most] ((w1.alloc (.cells #[.slice A1 told.length c1, .int .u8 tells, .bool true, .int .u64 most] 175)).drew)) := Lib.hid (by
        have b2 := below_alloc b1 (.cells #[.slice A1 told.length c1, .int .u8 tells, .bool true, .int .u64 most] 175)
        have q : DrQ w g o (x :: r) w1.heap.size #[.slice A1 told.length c1, .int .u8 tells, .bool true, .int .u64 most] (w1.alloc (.cells #[.slice A1 told.length c1, .int .u8 tells, .bool true, .int .u64 most] 175)) :=
          ⟨b2, Nat.lt_of_lt_of_le HG.out b2.size, fun k hk => (b2.cell (p := ⟨g, o + k, none⟩) HG.out).trans (HROW.out k hk), Blk.new w1 _ _ rfl⟩
        exact q.after (Below.drew (Below.refl _ _)))
      have SD : Hid (∀ u, DrQ w g o (x :: r) w1.heap.size #[.slice A1 told.length c1, .int .u8 tells, .bool true, .int .u64 most] u → u.cell? ⟨g, o, none⟩ = some (.int .u64 x) ∧ u.cell? ⟨w1.heap.size, 3, none⟩ = some (.int .u64 most)) := Lib.hid fun u q => ⟨q.row 0 (by simp), Blk.cell q.sig 3⟩
      have AP2 := Lib.hid (fun u q => AP.out w1.heap.size #[.slice A1 told.length c1, .int .u8 tells, .bool true, .int .u64 most] u q)
      clear b1 hrow AP HROW HG
      generalize told.length = tl at *
      go_wp2_with fail
      refine wp_region_held_drew (S := fun w' => w'.cell? ⟨g, o, none⟩ = some (.int .u64 x) ∧ w'.cell? ⟨w1.heap.size, 3, none⟩ = some (.int .u64 most)) (by kernel_rfl) (SD.out _ Q.out) (fun hHeld => ?_)
      generalize (w1.alloc (.cells #[.slice A1 tl c1, .int .u8 tells, .bool true, .int .u64 most] 175)).drew = wd at *
      refine wpAnyH_take (i := 0) (oi := { dst := some 24, op := Op.move (Operand.tmp 1), type := _, pos := _, after := _, guard := none }) (v := ?_) rfl (by kernel_rfl) (by kernel_rfl) (by kernel_rfl) (fun _ _ _ h => h) (Or.inl ⟨by rfl, ?_⟩) (by first | exact hHeld | assumption) ?_
      rotate_left 1
      · intro w hSw; (try dsimp only at hSw); go_simp; try (with_reducible rfl)
      try simp only [Act.put, List.setIfInBounds_toArray, List.set_cons_zero, List.set_cons_succ]
      refine wpAnyH_take (i := 1) (oi := { dst := some 25, op := Op.indexAddr 26 (Operand.tmp 24) (Operand.const (Value.int IntKind.i64 0)), type := _, pos := _, after := _, guard := none }) (v := ?_) rfl (by kernel_rfl) (by kernel_rfl) (by kernel_rfl) (fun _ _ _ h => h) (Or.inl ⟨by rfl, ?_⟩) (by first | exact hHeld | assumption) ?_
      rotate_left 1
      · intro w hSw; (try dsimp only at hSw); go_simp; try (with_reducible rfl)
      try simp only [Act.put, List.setIfInBounds_toArray, List.set_cons_zero, List.set_cons_succ]
      refine wpAnyH_take (i := 2) (oi := { dst := some 26, op := Op.load 42 (Operand.tmp 25), type := _, pos := _, after := _, guard := none }) (v := ?_) rfl (by kernel_rfl) (by kernel_rfl) (by kernel_rfl) (fun _ _ _ h => h) (Or.inl ⟨by rfl, ?_⟩) (by first | exact hHeld | assumption) ?_
      rotate_left 1
      · intro w hSw; (try dsimp only at hSw); go_simp; try (with_reducible rfl)
      try simp only [Act.put, List.setIfInBounds_toArray, List.set_cons_zero, List.set_cons_succ]
      refine wpAnyH_take (i := 3) (oi := { dst := some 27, op := Op.fieldAddr 175 (Operand.tmp 7) 3, type := _, pos := _, after := _, guard := none }) (v := ?_) rfl (by kernel_rfl) (by kernel_rfl) (by kernel_rfl) (fun _ _ _ h => h) (Or.inl ⟨by rfl, ?_⟩) (by first | exact hHeld | assumption) ?_
      rotate_left 1
      · intro w hSw; (try dsimp only at hSw); go_simp; try (with_reducible rfl)
      try simp only [Act.put, List.setIfInBounds_toArray, List.set_cons_zero, List.set_cons_succ]
      refine wpAnyH_take (i := 4) (oi := { dst := some 28, op := Op.load 42 (Operand.tmp 27), type := _, pos := _, after := _, guard := none }) (v := ?_) rfl (by kernel_rfl) (by kernel_rfl) (by kernel_rfl) (fun _ _ _ h => h) (Or.inl ⟨by rfl, ?_⟩) (by first | exact hHeld | assumption) ?_
      rotate_left 1
      · intro w hSw; (try dsimp only at hSw); go_simp; try (with_reducible rfl)
      try simp only [Act.put, List.setIfInBounds_toArray, List.set_cons_zero, List.set_cons_succ]
      refine wpAnyH_take (i := 6) (oi := { dst := some 30, op := Op.move (Operand.tmp 1), type := _, pos := _, after := _, guard := none }) (v := ?_) rfl (by kernel_rfl) (by kernel_rfl) (by kernel_rfl) (fun _ _ _ h => h) (Or.inl ⟨by rfl, ?_⟩) (by first | exact hHeld | assumption) ?_
      rotate_left 1
      · intro w hSw; (try dsimp only at hSw); go_simp; try (with_reducible rfl)
      try simp only [Act.put, List.setIfInBounds_toArray, List.set_cons_zero, List.set_cons_succ]
      refine wpAnyH_take (i := 7) (oi := { dst := some 31, op := Op.slice 26 (Operand.tmp 30) (some (Operand.const (Value.int IntKind.i64 1))) none none, type := _, pos := _, after := _, guard := none }) (v := ?_) rfl (by kernel_rfl) (by kernel_rfl) (by kernel_rfl) (fun _ _ _ h => h) (Or.inl ⟨by rfl, ?_⟩) (by first | exact hHeld | assumption) ?_
      rotate_left 1
      · intro w hSw; (try dsimp only at hSw); go_simp; try (with_reducible rfl)
      try simp only [Act.put, List.setIfInBounds_toArray, List.set_cons_zero, List.set_cons_succ]
      refine wpAnyH_ready (rs := [5]) (by kernel_rfl) (by simp) ?_
      refine AllReadyH.cons (o := { dst := some 29, op := Op.call { callee := Callee.value (Operand.func 198), args := #[Operand.tmp 26, Operand.tmp 28], argTypes := #[42, 42] }, type := _, pos := _, after := _, guard := none }) rfl (fun K hK => ?_) AllReadyH.nil
      · skip
        go_simp
        refine (CT.out _).mono ?_; rintro e u1 ⟨rfl, b⟩
        replace Q := Lib.hid (Q.out.after b)
        clear b hHeld
        have hHeld := SD.out _ Q.out
        go_wp2_with fail
        refine hK.out _ _ hHeld (fun hHeld => ?_)
        clear hK K
        try simp only [Act.put, List.setIfInBounds_toArray, List.set_cons_zero, List.set_cons_succ]
        refine wpAnyH_ready (rs := [8]) (by kernel_rfl) (by simp) ?_
        refine AllReadyH.cons (o := { dst := some 32, op := Op.call { callee := Callee.builtin Builtin.append, args := #[Operand.const (Value.slice none 0 0), Operand.tmp 31], argTypes := #[26, 26] }, type := _, pos := _, after := _, guard := none }) rfl (fun K hK => ?_) AllReadyH.nil
        · skip
          obtain ⟨v2, u2, hr2, hown, hgr⟩ := AP2.out _ Q.out
          have Q2 := Lib.hid (Q.out.after hgr)
          have OW := Lib.hid hown
          refine step_append_run rfl (.const (.slice none 0 0)) (.tmp 31) _ _ rfl _ _ rfl rfl _ _ hr2 ?_
          replace Q := Lib.hid Q2.out
          clear hr2 hown hgr hHeld
          have hHeld := SD.out _ Q.out
          refine hK.out _ _ hHeld (fun hHeld => ?_)
          clear hK K
          try simp only [Act.put, List.setIfInBounds_toArray, List.set_cons_zero, List.set_cons_succ]
          refine wpAnyH_take (i := 9) (oi := { dst := some 4, op := Op.assign (Operand.tmp 29), type := _, pos := _, after := _, guard := none }) (v := ?_) rfl (by kernel_rfl) (by kernel_rfl) (by kernel_rfl) (fun _ _ _ h => h) (Or.inl ⟨by rfl, ?_⟩) (by first | exact hHeld | assumption) ?_
          rotate_left 1
          · intro w hSw; (try dsimp only at hSw); go_simp; try (with_reducible rfl)
          try simp only [Act.put, List.setIfInBounds_toArray, List.set_cons_zero, List.set_cons_succ]
          refine wpAnyH_take (i := 10) (oi := { dst := some 5, op := Op.assign (Operand.tmp 32), type := _, pos := _, after := _, guard := none }) (v := ?_) rfl (by kernel_rfl) (by kernel_rfl) (by kernel_rfl) (fun _ _ _ h => h) (Or.inl ⟨by rfl, ?_⟩) (by first | exact hHeld | assumption) ?_
          rotate_left 1
          · intro w hSw; (try dsimp only at hSw); go_simp; try (with_reducible rfl)
          try simp only [Act.put, List.setIfInBounds_toArray, List.set_cons_zero, List.set_cons_succ]
          refine wpAnyH_take (i := 11) (oi := { dst := some 6, op := Op.assign (Operand.const (Value.int IntKind.i64 0)), type := _, pos := _, after := _, guard := none }) (v := ?_) rfl (by kernel_rfl) (by kernel_rfl) (by kernel_rfl) (fun _ _ _ h => h) (Or.inl ⟨by rfl, ?_⟩) (by first | exact hHeld | assumption) ?_
          rotate_left 1
          · intro w hSw; (try dsimp only at hSw); go_simp; try (with_reducible rfl)
          try simp only [Act.put, List.setIfInBounds_toArray, List.set_cons_zero, List.set_cons_succ]
          refine wpAnyH_done (by kernel_rfl) ?_ _
          obtain ⟨A2, c2, rfl, -, -⟩ := own_slice OW.out
          clear hHeld SD AP2 CT
          go_wp2_with fail
          go_ret3
          refine ⟨A2, c2, ?_, Q.out.low, by dsimp only; rw [HRL.out]; exact OW.out⟩
          dsimp only; rw [HRL.out]; rfl
end Go.Proofs.YtlbhffdpklbhfaaGreat
