/-
  Layer 9, the program's change: a value is put in its place.
  Conditions: the numbers fit their kinds; the bytes are not of memory.
-/
import Derived.Test.YtempkpfcjonaaaaTab6
import Derived.Test.YtempkpfcjonaaaaMem6
import Derived.LoopTactic
import Derived.Deep.RegionHeld
import Derived.Deep.RegionHeld3
namespace Go.Proofs.Ytempkpfcjonaaaa
open Go.RowKit
set_option maxRecDepth 100000
set_option linter.unusedVariables false
set_option linter.unusedSimpArgs false

set_option maxHeartbeats 4000000 in
theorem q9_change (w : World) (gt gm : Nat) (vl : Value) (L : List TR) (M : PM) (F G : Nat → Prop) (i s : Nat) (val : List Int) (C : Option Addr) (m c : Nat) (fl : Int) (h : RawD w gt gm vl L M F G) (hi : i ≤ 1000) (hs : s ≤ 1024) (hv : Keep (fun x => F x ∨ G x) w C val) (hov : OkB val) (hvn : val.length = m) (hmc : m ≤ c) (hm1 : m ≤ 1000) (hfl : 0 ≤ fl ∧ fl ≤ 18446744073709551615) :
    Calls Try.prog 45 #[.pointer (some ⟨gt, 0, none⟩), .int .i64 (tArea i s), .slice C m c, .int .u64 fl] w
      (fun e w' => e = .returned (.int .u64 (if fl = 1 then minusI 17 else 0)) ∧ ∃ F' G', RawN w gt gm vl L (if fl = 1 then M else tFill M i s 0 val) F G w' F' G') := by
  have Q0 : Hid (RawN w gt gm vl L M F G w F G) := Lib.hid ⟨h, Turn.refl _ _, fun x hx => .inl hx, fun x hx => .inl hx⟩
  by_cases h1 : fl = 1
  · subst h1
    rw [if_pos rfl, show minusI 17 = 18446744073709551599 from rfl, if_pos rfl]
    clear h hv hov hvn
    generalize tArea i s = ar at *
    go_enter Try.func45, Try.ntmps45
    go_wp2_with fail
    go_ret
    exact ⟨rfl, F, G, Q0.out⟩
  · rw [if_neg h1, if_neg h1]
    have hne : (fl == 1) = false := by simpa using h1
    have HB := Lib.hid hv
    have HO := Lib.hid hov
    have HN := Lib.hid hvn
    clear h hv hov hvn h1
    have i0 : (0 : Int) ≤ i := by omega
    have s0 : (0 : Int) ≤ s := by omega
    generalize hAr : tArea i s = ar
    have HAr := Lib.hid hAr
    clear hAr
    go_enter Try.func45, Try.ntmps45
    go_wp2_with fail
    go_loopw [15] (fun iv wr => ∃ (j : Nat) (M' : PM) (F' G' : Nat → Prop), iv = .int .i64 j ∧ j ≤ m ∧ Hid (tFill M' i s j (val.drop j) = tFill M i s 0 val) ∧ Hid (RawN w gt gm vl L M' F G wr F' G')) (fun iv wr => m - (intOf iv).toNat)
    case atStart => exact ⟨0, M, F, G, rfl, by omega, Lib.hid rfl, Q0⟩
    case round =>
      clear Q0
      obtain ⟨j, M', F', G', rfl, hj, HE, Q⟩ := hrel
      have j0 : (0 : Int) ≤ j := by omega
      by_cases hlt : (j : Int) < m
      · have hjn : j < m := by omega
        have HN2 : Hid (tFill (pStore M' (atI (tArea i s) j) 1 (bAt val j)).1 i s (j + 1) (val.drop (j + 1)) = tFill M i s 0 val) := Lib.hid (by rw [← tFill_drop M' i s val j j (by rw [HN.out]; exact hjn)]; exact HE.out)
        obtain ⟨x1, x2⟩ := HO.out j (by rw [HN.out]; exact hjn)
        have hbs := HB.out wr Q.out.turn
        obtain ⟨gb, ob, rfl, hgb, hcb⟩ := hbs (by rw [HN.out]; omega)
        have hcell := hcb j (by rw [HN.out]; exact hjn)
        clear hcb
        have HS : Hid (∀ M' u F' G', RawN w gt gm vl L M' F G u F' G' → u.cell? ⟨gt, 0, none⟩ = some (.pointer (some ⟨gm, 0, none⟩))) := Lib.hid fun M' u F' G' q => q.rep.maps.cells.1
        have AT : Hid (∀ u, Calls Try.prog 26 #[.int .i64 ar, .int .i64 (j : Int)] u (Gives (.int .u64 (atI (tArea i s) j)) u)) := Lib.hid fun u => by rw [HAr.out]; exact c8_At ar j u
        have ST : Hid (∀ u F' G', RawN w gt gm vl L M' F G u F' G' → Calls Try.prog 29 #[.pointer (some ⟨gm, 0, none⟩), .int .u64 (atI (tArea i s) j), .int .i64 1, .int .u64 (bAt val j)] u (fun e u' => e = .returned (.int .i64 (pStore M' (atI (tArea i s) j) 1 (bAt val j)).2) ∧ ∃ G2, RawN w gt gm vl L (pStore M' (atI (tArea i s) j) 1 (bAt val j)).1 F G u' F' G2)) := Lib.hid fun u F' G' q =>
          (c8_Store u gm M' G' (atI (tArea i s) j) 1 (bAt val j) q.rep.mem (by unfold atI; omega) (by omega)).mono fun e u' hw => q.mem hw
        clear hbs HE
        generalize (pStore M' (atI (tArea i s) j) 1 (bAt val j)).1 = M2 at *
        generalize (pStore M' (atI (tArea i s) j) 1 (bAt val j)).2 = e2 at *
        generalize atI (tArea i s) j = at_ at *
        generalize bAt val j = x at *
        have hwx : IntKind.u64.wrap x = x := by rw [IntKind.wrap_u64]; omega
        go_wp2_with fail
        replace Q := Lib.hid (Q.out.after (Below.drew (Below.refl _ _)))
        clear hcell
        refine wp_region_held_drew (S := fun w' => w'.cell? ⟨gt, 0, none⟩ = some (.pointer (some ⟨gm, 0, none⟩))) (by kernel_rfl) (HS.out _ _ _ _ Q.out) (fun hHeld => ?_)
        refine wpAnyH_take (i := 0) (oi := { dst := some 20, op := Op.move (Operand.tmp 0), type := 31, pos := "table.go:170", after := #[], guard := none }) (v := ?_) rfl (by kernel_rfl) (by kernel_rfl) (by kernel_rfl) (fun _ _ _ h => h) (Or.inl ⟨by rfl, ?_⟩) (by assumption) ?_
        rotate_left 1
        · intro w hSw; (try dsimp only at hSw); go_simp; try (with_reducible rfl)
        try simp only [Act.put, List.setIfInBounds_toArray, List.set_cons_zero, List.set_cons_succ]
        refine wpAnyH_take (i := 1) (oi := { dst := some 21, op := Op.nilCheck (Operand.tmp 20), type := 0, pos := "table.go:170", after := #[{ on := 0, ground := Ground.data }], guard := none }) (v := ?_) rfl (by kernel_rfl) (by kernel_rfl) (by kernel_rfl) (fun _ _ _ h => h) (Or.inl ⟨by rfl, ?_⟩) (by assumption) ?_
        rotate_left 1
        · intro w hSw; (try dsimp only at hSw); go_simp; try (with_reducible rfl)
        try simp only [Act.put, List.setIfInBounds_toArray, List.set_cons_zero, List.set_cons_succ]
        refine wpAnyH_take (i := 2) (oi := { dst := some 22, op := Op.fieldAddr 75 (Operand.tmp 21) 0, type := 0, pos := "table.go:170", after := #[{ on := 1, ground := Ground.data }], guard := none }) (v := ?_) rfl (by kernel_rfl) (by kernel_rfl) (by kernel_rfl) (fun _ _ _ h => h) (Or.inl ⟨by rfl, ?_⟩) (by assumption) ?_
        rotate_left 1
        · intro w hSw; (try dsimp only at hSw); go_simp; try (with_reducible rfl)
        try simp only [Act.put, List.setIfInBounds_toArray, List.set_cons_zero, List.set_cons_succ]
        refine wpAnyH_take (i := 3) (oi := { dst := some 23, op := Op.load 25 (Operand.tmp 22), type := 25, pos := "table.go:170", after := #[{ on := 2, ground := Ground.data }], guard := none }) (v := ?_) rfl (by kernel_rfl) (by kernel_rfl) (by kernel_rfl) (fun _ _ _ h => h) (Or.inl ⟨by rfl, ?_⟩) (by assumption) ?_
        rotate_left 1
        · intro w hSw; (try dsimp only at hSw); go_simp; try (with_reducible rfl)
        try simp only [Act.put, List.setIfInBounds_toArray, List.set_cons_zero, List.set_cons_succ]
        refine wpAnyH_take (i := 4) (oi := { dst := some 24, op := Op.move (Operand.tmp 1), type := 3, pos := "table.go:170", after := #[], guard := none }) (v := ?_) rfl (by kernel_rfl) (by kernel_rfl) (by kernel_rfl) (fun _ _ _ h => h) (Or.inl ⟨by rfl, ?_⟩) (by assumption) ?_
        rotate_left 1
        · intro w hSw; (try dsimp only at hSw); go_simp; try (with_reducible rfl)
        try simp only [Act.put, List.setIfInBounds_toArray, List.set_cons_zero, List.set_cons_succ]
        refine wpAnyH_take (i := 5) (oi := { dst := some 25, op := Op.move (Operand.tmp 9), type := 3, pos := "table.go:170", after := #[], guard := none }) (v := ?_) rfl (by kernel_rfl) (by kernel_rfl) (by kernel_rfl) (fun _ _ _ h => h) (Or.inl ⟨by rfl, ?_⟩) (by assumption) ?_
        rotate_left 1
        · intro w hSw; (try dsimp only at hSw); go_simp; try (with_reducible rfl)
        try simp only [Act.put, List.setIfInBounds_toArray, List.set_cons_zero, List.set_cons_succ]
        refine wpAnyH_take (i := 7) (oi := { dst := some 27, op := Op.move (Operand.tmp 10), type := 5, pos := "table.go:170", after := #[], guard := none }) (v := ?_) rfl (by kernel_rfl) (by kernel_rfl) (by kernel_rfl) (fun _ _ _ h => h) (Or.inl ⟨by rfl, ?_⟩) (by assumption) ?_
        rotate_left 1
        · intro w hSw; (try dsimp only at hSw); go_simp; try (with_reducible rfl)
        try simp only [Act.put, List.setIfInBounds_toArray, List.set_cons_zero, List.set_cons_succ]
        refine wpAnyH_take (i := 8) (oi := { dst := some 28, op := Op.convert 5 41 (Operand.tmp 27), type := 41, pos := "table.go:170", after := #[{ on := 7, ground := Ground.data }], guard := none }) (v := ?_) rfl (by kernel_rfl) (by kernel_rfl) (by kernel_rfl) (fun _ _ _ h => h) (Or.inl ⟨by rfl, ?_⟩) (by assumption) ?_
        rotate_left 1
        · intro w hSw; (try dsimp only at hSw); go_simp; try (with_reducible rfl)
        try simp only [Act.put, List.setIfInBounds_toArray, List.set_cons_zero, List.set_cons_succ]
        refine wpAnyH_ready (rs := [6]) (by kernel_rfl) (by simp) ?_
        refine AllReadyH.cons (o := { dst := some 26, op := Op.call { callee := Callee.value (Operand.func 26), args := #[Operand.tmp 24, Operand.tmp 25], argTypes := #[3, 3] }, type := 41, pos := "table.go:170", after := #[{ on := 4, ground := Ground.data }, { on := 5, ground := Ground.data }], guard := none }) rfl (fun K hK => ?_) AllReadyH.nil
        · skip
          go_simp
          refine (AT.out _).mono ?_; rintro e u1 ⟨rfl, b1⟩
          replace Q := Lib.hid (Q.out.after b1)
          clear b1
          go_wp2_with fail
          refine hK.out _ _ (HS.out _ _ _ _ Q.out) (fun hHeld => ?_)
          clear hK K
          try simp only [Act.put, List.setIfInBounds_toArray, List.set_cons_zero, List.set_cons_succ]
          refine wpAnyH_ready (rs := [9]) (by kernel_rfl) (by simp) ?_
          refine AllReadyH.cons (o := { dst := some 29, op := Op.call { callee := Callee.value (Operand.func 29), args := #[Operand.tmp 23, Operand.tmp 26, Operand.const (Value.int IntKind.i64 1), Operand.tmp 28], argTypes := #[25, 41, 3, 41] }, type := 32, pos := "table.go:170", after := #[{ on := 3, ground := Ground.data }, { on := 6, ground := Ground.data }, { on := 8, ground := Ground.data }, { on := 6, ground := Ground.chain }], guard := none }) rfl (fun K hK => ?_) AllReadyH.nil
          · skip
            go_simp
            refine (ST.out _ _ _ Q.out).mono ?_; rintro e u3 ⟨rfl, G2, q3⟩
            have Q3 := Lib.hid q3
            clear q3 hHeld
            have hHeld := HS.out _ _ _ _ Q3.out
            go_wp2_with fail
            refine hK.out _ _ (HS.out _ _ _ _ Q3.out) (fun hHeld => ?_)
            clear hK K
            try simp only [Act.put, List.setIfInBounds_toArray, List.set_cons_zero, List.set_cons_succ]
            refine wpAnyH_done (by kernel_rfl) ?_ _
            clear hHeld HS AT ST
            go_wp2_with fail
            go_round
            case rel => exact ⟨j + 1, _, _, _, by go_num, by omega, HN2, Q3⟩
            case measure => simp [intOf]; omega
      · have hjn : j = m := by omega
        subst hjn
        have HE2 : Hid (M' = tFill M i s 0 val) := Lib.hid (by
          have := HE.out
          rw [List.drop_eq_nil_of_le (by rw [HN.out]; omega)] at this
          exact this)
        go_wp2_with fail
        go_ret
        refine ⟨rfl, F', G', ?_⟩
        rw [← HE2.out]
        exact Q.out

end Go.Proofs.Ytempkpfcjonaaaa
