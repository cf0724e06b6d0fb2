/-
  The statement HelpTold, walked: who is told a key, or a value, is told its map ahead; no helper is told more than five things; who draws is told nothing, and tells a number.
  Conditions: none.
-/
import Derived.Test.YtlgpollefkkbdaaHelp8
namespace Go.Proofs.Ytlgpollefkkbdaa
open Go.RowKit
set_option maxRecDepth 100000
set_option linter.unusedVariables false
set_option linter.unusedSimpArgs false

set_option maxHeartbeats 4000000 in
theorem l10_HelpTold (i : Int) (w : World) : Calls Try.prog 6 #[.int .i64 i] w (Fine w) := by
  have SH := Lib.hid l10_shown
  have S1 := Lib.hid fun u => h10_Sig i u
  rcases hS_ways i with rfl | rfl | rfl | rfl | rfl | rfl | rfl | h
  · replace S1 : Hid (∀ u, Calls Try.prog 8 #[.int .i64 1] u (SigW ⟨[1, 2], 2, false, 0⟩ true u)) := S1
    go_enter Try.func6, Try.ntmps6
    go_wp2_with fail
    refine (SH.out _).mono ?_
    rintro e w1 ⟨rfl, b1⟩
    have V := Lib.hid b1
    clear b1
    go_wp2_with fail
    refine (S1.out _).mono ?_
    rintro e w2 ⟨A1, c1, he, b2, o2⟩
    replace he : e = .returned (.tuple #[.agg #[.slice A1 2 c1, .int .u8 2, .bool false, .int .u64 0], .bool true]) := he
    subst he
    replace V := Lib.hid (below_next' V.out b2)
    clear b2
    have O2 := Lib.hid (own_after o2 (below_alloc (Below.refl _ _) (.cells #[.slice A1 2 c1, .int .u8 2, .bool false, .int .u64 0] 26)))
    have Z1 := Lib.hid (Blk.new w2 #[.slice A1 2 c1, .int .u8 2, .bool false, .int .u64 0] 26 rfl)
    replace V := Lib.hid (below_alloc V.out (.cells #[.slice A1 2 c1, .int .u8 2, .bool false, .int .u64 0] 26))
    have hn : 2 ≤ c1 := by
      obtain ⟨A', c', e, h1, h2⟩ := own_slice o2
      have h1' : 2 ≤ c' := h1
      injection e with _ _ e2
      omega
    clear o2
    obtain ⟨g, rfl, -, -⟩ := own_addr O2.out (by decide)
    have c0' := Lib.hid (show (w2.alloc (.cells #[.slice (some ⟨g, 0, none⟩) 2 c1, .int .u8 2, .bool false, .int .u64 0] 26)).cell? ⟨g, 0, none⟩ = some (.int .u8 1) from O2.out.cellAt 0 (by decide))
    have c1' := Lib.hid (show (w2.alloc (.cells #[.slice (some ⟨g, 0, none⟩) 2 c1, .int .u8 2, .bool false, .int .u64 0] 26)).cell? ⟨g, 1, none⟩ = some (.int .u8 2) from O2.out.cellAt 1 (by decide))
    clear O2
    go_wp2_with fail
    generalize hg1 : w2.heap.size = gs at *
    clear hg1
    generalize w2.alloc (.cells #[.slice (some ⟨g, 0, none⟩) 2 c1, .int .u8 2, .bool false, .int .u64 0] 26) = w3 at *
    go_loopw [6, 42] (fun tv iv wr => ((tv = .bool false ∧ iv = .int .i64 0) ∨ (tv = .bool true ∧ iv = .int .i64 1) ∨ (tv = .bool true ∧ iv = .int .i64 2)) ∧ Hid (Below w3.heap.size w3 wr)) (fun tv iv wr => 2 - (intOf iv).toNat)
    case atStart => exact ⟨Or.inl ⟨rfl, rfl⟩, Lib.hid (Below.refl _ _)⟩
    case round =>
      obtain ⟨hrel, Q⟩ := hrel
      obtain ⟨⟨z0, z1, z2, z3⟩, -⟩ := Blk.four (Z1.out.after Q.out)
      have FW := Lib.hid (below_next' V.out Q.out)
      have d0 := cell_then c0'.out Q.out
      have d1 := cell_then c1'.out Q.out
      rcases hrel with ⟨rfl, rfl⟩ | ⟨rfl, rfl⟩ | ⟨rfl, rfl⟩
      · go_wp2_with fail
        go_round
        case rel => exact ⟨Or.inr (Or.inl ⟨rfl, rfl⟩), Q⟩
        case measure => simp [intOf]
      · go_wp2_with fail
        go_round
        case rel => exact ⟨Or.inr (Or.inr (⟨rfl, rfl⟩)), Q⟩
        case measure => simp [intOf]
      · go_wp2_with fail
        go_ret
        exact ⟨rfl, FW.out⟩
  · replace S1 : Hid (∀ u, Calls Try.prog 8 #[.int .i64 2] u (SigW ⟨[1, 2, 3, 4], 1, false, 18446744073709551615⟩ true u)) := S1
    go_enter Try.func6, Try.ntmps6
    go_wp2_with fail
    refine (SH.out _).mono ?_
    rintro e w1 ⟨rfl, b1⟩
    have V := Lib.hid b1
    clear b1
    go_wp2_with fail
    refine (S1.out _).mono ?_
    rintro e w2 ⟨A1, c1, he, b2, o2⟩
    replace he : e = .returned (.tuple #[.agg #[.slice A1 4 c1, .int .u8 1, .bool false, .int .u64 18446744073709551615], .bool true]) := he
    subst he
    replace V := Lib.hid (below_next' V.out b2)
    clear b2
    have O2 := Lib.hid (own_after o2 (below_alloc (Below.refl _ _) (.cells #[.slice A1 4 c1, .int .u8 1, .bool false, .int .u64 18446744073709551615] 26)))
    have Z1 := Lib.hid (Blk.new w2 #[.slice A1 4 c1, .int .u8 1, .bool false, .int .u64 18446744073709551615] 26 rfl)
    replace V := Lib.hid (below_alloc V.out (.cells #[.slice A1 4 c1, .int .u8 1, .bool false, .int .u64 18446744073709551615] 26))
    have hn : 4 ≤ c1 := by
      obtain ⟨A', c', e, h1, h2⟩ := own_slice o2
      have h1' : 4 ≤ c' := h1
      injection e with _ _ e2
      omega
    clear o2
    obtain ⟨g, rfl, -, -⟩ := own_addr O2.out (by decide)
    have c0' := Lib.hid (show (w2.alloc (.cells #[.slice (some ⟨g, 0, none⟩) 4 c1, .int .u8 1, .bool false, .int .u64 18446744073709551615] 26)).cell? ⟨g, 0, none⟩ = some (.int .u8 1) from O2.out.cellAt 0 (by decide))
    have c1' := Lib.hid (show (w2.alloc (.cells #[.slice (some ⟨g, 0, none⟩) 4 c1, .int .u8 1, .bool false, .int .u64 18446744073709551615] 26)).cell? ⟨g, 1, none⟩ = some (.int .u8 2) from O2.out.cellAt 1 (by decide))
    have c2' := Lib.hid (show (w2.alloc (.cells #[.slice (some ⟨g, 0, none⟩) 4 c1, .int .u8 1, .bool false, .int .u64 18446744073709551615] 26)).cell? ⟨g, 2, none⟩ = some (.int .u8 3) from O2.out.cellAt 2 (by decide))
    have c3' := Lib.hid (show (w2.alloc (.cells #[.slice (some ⟨g, 0, none⟩) 4 c1, .int .u8 1, .bool false, .int .u64 18446744073709551615] 26)).cell? ⟨g, 3, none⟩ = some (.int .u8 4) from O2.out.cellAt 3 (by decide))
    clear O2
    go_wp2_with fail
    generalize hg1 : w2.heap.size = gs at *
    clear hg1
    generalize w2.alloc (.cells #[.slice (some ⟨g, 0, none⟩) 4 c1, .int .u8 1, .bool false, .int .u64 18446744073709551615] 26) = w3 at *
    go_loopw [6, 42] (fun tv iv wr => ((tv = .bool false ∧ iv = .int .i64 0) ∨ (tv = .bool true ∧ iv = .int .i64 1) ∨ (tv = .bool true ∧ iv = .int .i64 2) ∨ (tv = .bool true ∧ iv = .int .i64 3) ∨ (tv = .bool true ∧ iv = .int .i64 4)) ∧ Hid (Below w3.heap.size w3 wr)) (fun tv iv wr => 4 - (intOf iv).toNat)
    case atStart => exact ⟨Or.inl ⟨rfl, rfl⟩, Lib.hid (Below.refl _ _)⟩
    case round =>
      obtain ⟨hrel, Q⟩ := hrel
      obtain ⟨⟨z0, z1, z2, z3⟩, -⟩ := Blk.four (Z1.out.after Q.out)
      have FW := Lib.hid (below_next' V.out Q.out)
      have d0 := cell_then c0'.out Q.out
      have d1 := cell_then c1'.out Q.out
      have d2 := cell_then c2'.out Q.out
      have d3 := cell_then c3'.out Q.out
      rcases hrel with ⟨rfl, rfl⟩ | ⟨rfl, rfl⟩ | ⟨rfl, rfl⟩ | ⟨rfl, rfl⟩ | ⟨rfl, rfl⟩
      · go_wp2_with fail
        go_round
        case rel => exact ⟨Or.inr (Or.inl ⟨rfl, rfl⟩), Q⟩
        case measure => simp [intOf]
      · go_wp2_with fail
        go_round
        case rel => exact ⟨Or.inr (Or.inr (Or.inl ⟨rfl, rfl⟩)), Q⟩
        case measure => simp [intOf]
      · go_wp2_with fail
        go_round
        case rel => exact ⟨Or.inr (Or.inr (Or.inr (Or.inl ⟨rfl, rfl⟩))), Q⟩
        case measure => simp [intOf]
      · go_wp2_with fail
        go_round
        case rel => exact ⟨Or.inr (Or.inr (Or.inr (Or.inr (⟨rfl, rfl⟩)))), Q⟩
        case measure => simp [intOf]
      · go_wp2_with fail
        go_ret
        exact ⟨rfl, FW.out⟩
  · replace S1 : Hid (∀ u, Calls Try.prog 8 #[.int .i64 3] u (SigW ⟨[1, 2], 1, false, 18446744073709551615⟩ true u)) := S1
    go_enter Try.func6, Try.ntmps6
    go_wp2_with fail
    refine (SH.out _).mono ?_
    rintro e w1 ⟨rfl, b1⟩
    have V := Lib.hid b1
    clear b1
    go_wp2_with fail
    refine (S1.out _).mono ?_
    rintro e w2 ⟨A1, c1, he, b2, o2⟩
    replace he : e = .returned (.tuple #[.agg #[.slice A1 2 c1, .int .u8 1, .bool false, .int .u64 18446744073709551615], .bool true]) := he
    subst he
    replace V := Lib.hid (below_next' V.out b2)
    clear b2
    have O2 := Lib.hid (own_after o2 (below_alloc (Below.refl _ _) (.cells #[.slice A1 2 c1, .int .u8 1, .bool false, .int .u64 18446744073709551615] 26)))
    have Z1 := Lib.hid (Blk.new w2 #[.slice A1 2 c1, .int .u8 1, .bool false, .int .u64 18446744073709551615] 26 rfl)
    replace V := Lib.hid (below_alloc V.out (.cells #[.slice A1 2 c1, .int .u8 1, .bool false, .int .u64 18446744073709551615] 26))
    have hn : 2 ≤ c1 := by
      obtain ⟨A', c', e, h1, h2⟩ := own_slice o2
      have h1' : 2 ≤ c' := h1
      injection e with _ _ e2
      omega
    clear o2
    obtain ⟨g, rfl, -, -⟩ := own_addr O2.out (by decide)
    have c0' := Lib.hid (show (w2.alloc (.cells #[.slice (some ⟨g, 0, none⟩) 2 c1, .int .u8 1, .bool false, .int .u64 18446744073709551615] 26)).cell? ⟨g, 0, none⟩ = some (.int .u8 1) from O2.out.cellAt 0 (by decide))
    have c1' := Lib.hid (show (w2.alloc (.cells #[.slice (some ⟨g, 0, none⟩) 2 c1, .int .u8 1, .bool false, .int .u64 18446744073709551615] 26)).cell? ⟨g, 1, none⟩ = some (.int .u8 2) from O2.out.cellAt 1 (by decide))
    clear O2
    go_wp2_with fail
    generalize hg1 : w2.heap.size = gs at *
    clear hg1
    generalize w2.alloc (.cells #[.slice (some ⟨g, 0, none⟩) 2 c1, .int .u8 1, .bool false, .int .u64 18446744073709551615] 26) = w3 at *
    go_loopw [6, 42] (fun tv iv wr => ((tv = .bool false ∧ iv = .int .i64 0) ∨ (tv = .bool true ∧ iv = .int .i64 1) ∨ (tv = .bool true ∧ iv = .int .i64 2)) ∧ Hid (Below w3.heap.size w3 wr)) (fun tv iv wr => 2 - (intOf iv).toNat)
    case atStart => exact ⟨Or.inl ⟨rfl, rfl⟩, Lib.hid (Below.refl _ _)⟩
    case round =>
      obtain ⟨hrel, Q⟩ := hrel
      obtain ⟨⟨z0, z1, z2, z3⟩, -⟩ := Blk.four (Z1.out.after Q.out)
      have FW := Lib.hid (below_next' V.out Q.out)
      have d0 := cell_then c0'.out Q.out
      have d1 := cell_then c1'.out Q.out
      rcases hrel with ⟨rfl, rfl⟩ | ⟨rfl, rfl⟩ | ⟨rfl, rfl⟩
      · go_wp2_with fail
        go_round
        case rel => exact ⟨Or.inr (Or.inl ⟨rfl, rfl⟩), Q⟩
        case measure => simp [intOf]
      · go_wp2_with fail
        go_round
        case rel => exact ⟨Or.inr (Or.inr (⟨rfl, rfl⟩)), Q⟩
        case measure => simp [intOf]
      · go_wp2_with fail
        go_ret
        exact ⟨rfl, FW.out⟩
  · replace S1 : Hid (∀ u, Calls Try.prog 8 #[.int .i64 5] u (SigW ⟨[], 1, true, 18446744073709551615⟩ true u)) := S1
    go_enter Try.func6, Try.ntmps6
    go_wp2_with fail
    refine (SH.out _).mono ?_
    rintro e w1 ⟨rfl, b1⟩
    have V := Lib.hid b1
    clear b1
    go_wp2_with fail
    refine (S1.out _).mono ?_
    rintro e w2 ⟨A1, c1, he, b2, o2⟩
    replace he : e = .returned (.tuple #[.agg #[.slice A1 0 c1, .int .u8 1, .bool true, .int .u64 18446744073709551615], .bool true]) := he
    subst he
    replace V := Lib.hid (below_next' V.out b2)
    clear b2
    have O2 := Lib.hid (own_after o2 (below_alloc (Below.refl _ _) (.cells #[.slice A1 0 c1, .int .u8 1, .bool true, .int .u64 18446744073709551615] 26)))
    have Z1 := Lib.hid (Blk.new w2 #[.slice A1 0 c1, .int .u8 1, .bool true, .int .u64 18446744073709551615] 26 rfl)
    replace V := Lib.hid (below_alloc V.out (.cells #[.slice A1 0 c1, .int .u8 1, .bool true, .int .u64 18446744073709551615] 26))
    have hn : 0 ≤ c1 := by
      obtain ⟨A', c', e, h1, h2⟩ := own_slice o2
      have h1' : 0 ≤ c' := h1
      injection e with _ _ e2
      omega
    clear o2
    clear O2
    go_wp2_with fail
    generalize hg1 : w2.heap.size = gs at *
    clear hg1
    generalize w2.alloc (.cells #[.slice A1 0 c1, .int .u8 1, .bool true, .int .u64 18446744073709551615] 26) = w3 at *
    go_loopw [6, 42] (fun tv iv wr => ((tv = .bool false ∧ iv = .int .i64 0)) ∧ Hid (Below w3.heap.size w3 wr)) (fun tv iv wr => 0 - (intOf iv).toNat)
    case atStart => exact ⟨⟨rfl, rfl⟩, Lib.hid (Below.refl _ _)⟩
    case round =>
      obtain ⟨hrel, Q⟩ := hrel
      obtain ⟨⟨z0, z1, z2, z3⟩, -⟩ := Blk.four (Z1.out.after Q.out)
      have FW := Lib.hid (below_next' V.out Q.out)
      obtain ⟨rfl, rfl⟩ := hrel
      · go_wp2_with fail
        go_ret
        exact ⟨rfl, FW.out⟩
  · replace S1 : Hid (∀ u, Calls Try.prog 8 #[.int .i64 6] u (SigW ⟨[4, 4], 1, false, 0⟩ true u)) := S1
    go_enter Try.func6, Try.ntmps6
    go_wp2_with fail
    refine (SH.out _).mono ?_
    rintro e w1 ⟨rfl, b1⟩
    have V := Lib.hid b1
    clear b1
    go_wp2_with fail
    refine (S1.out _).mono ?_
    rintro e w2 ⟨A1, c1, he, b2, o2⟩
    replace he : e = .returned (.tuple #[.agg #[.slice A1 2 c1, .int .u8 1, .bool false, .int .u64 0], .bool true]) := he
    subst he
    replace V := Lib.hid (below_next' V.out b2)
    clear b2
    have O2 := Lib.hid (own_after o2 (below_alloc (Below.refl _ _) (.cells #[.slice A1 2 c1, .int .u8 1, .bool false, .int .u64 0] 26)))
    have Z1 := Lib.hid (Blk.new w2 #[.slice A1 2 c1, .int .u8 1, .bool false, .int .u64 0] 26 rfl)
    replace V := Lib.hid (below_alloc V.out (.cells #[.slice A1 2 c1, .int .u8 1, .bool false, .int .u64 0] 26))
    have hn : 2 ≤ c1 := by
      obtain ⟨A', c', e, h1, h2⟩ := own_slice o2
      have h1' : 2 ≤ c' := h1
      injection e with _ _ e2
      omega
    clear o2
    obtain ⟨g, rfl, -, -⟩ := own_addr O2.out (by decide)
    have c0' := Lib.hid (show (w2.alloc (.cells #[.slice (some ⟨g, 0, none⟩) 2 c1, .int .u8 1, .bool false, .int .u64 0] 26)).cell? ⟨g, 0, none⟩ = some (.int .u8 4) from O2.out.cellAt 0 (by decide))
    have c1' := Lib.hid (show (w2.alloc (.cells #[.slice (some ⟨g, 0, none⟩) 2 c1, .int .u8 1, .bool false, .int .u64 0] 26)).cell? ⟨g, 1, none⟩ = some (.int .u8 4) from O2.out.cellAt 1 (by decide))
    clear O2
    go_wp2_with fail
    generalize hg1 : w2.heap.size = gs at *
    clear hg1
    generalize w2.alloc (.cells #[.slice (some ⟨g, 0, none⟩) 2 c1, .int .u8 1, .bool false, .int .u64 0] 26) = w3 at *
    go_loopw [6, 42] (fun tv iv wr => ((tv = .bool false ∧ iv = .int .i64 0) ∨ (tv = .bool false ∧ iv = .int .i64 1) ∨ (tv = .bool false ∧ iv = .int .i64 2)) ∧ Hid (Below w3.heap.size w3 wr)) (fun tv iv wr => 2 - (intOf iv).toNat)
    case atStart => exact ⟨Or.inl ⟨rfl, rfl⟩, Lib.hid (Below.refl _ _)⟩
    case round =>
      obtain ⟨hrel, Q⟩ := hrel
      obtain ⟨⟨z0, z1, z2, z3⟩, -⟩ := Blk.four (Z1.out.after Q.out)
      have FW := Lib.hid (below_next' V.out Q.out)
      have d0 := cell_then c0'.out Q.out
      have d1 := cell_then c1'.out Q.out
      rcases hrel with ⟨rfl, rfl⟩ | ⟨rfl, rfl⟩ | ⟨rfl, rfl⟩
      · go_wp2_with fail
        go_round
        case rel => exact ⟨Or.inr (Or.inl ⟨rfl, rfl⟩), Q⟩
        case measure => simp [intOf]
      · go_wp2_with fail
        go_round
        case rel => exact ⟨Or.inr (Or.inr (⟨rfl, rfl⟩)), Q⟩
        case measure => simp [intOf]
      · go_wp2_with fail
        go_ret
        exact ⟨rfl, FW.out⟩
  · replace S1 : Hid (∀ u, Calls Try.prog 8 #[.int .i64 7] u (SigW ⟨[], 1, true, 4294967295⟩ true u)) := S1
    go_enter Try.func6, Try.ntmps6
    go_wp2_with fail
    refine (SH.out _).mono ?_
    rintro e w1 ⟨rfl, b1⟩
    have V := Lib.hid b1
    clear b1
    go_wp2_with fail
    refine (S1.out _).mono ?_
    rintro e w2 ⟨A1, c1, he, b2, o2⟩
    replace he : e = .returned (.tuple #[.agg #[.slice A1 0 c1, .int .u8 1, .bool true, .int .u64 4294967295], .bool true]) := he
    subst he
    replace V := Lib.hid (below_next' V.out b2)
    clear b2
    have O2 := Lib.hid (own_after o2 (below_alloc (Below.refl _ _) (.cells #[.slice A1 0 c1, .int .u8 1, .bool true, .int .u64 4294967295] 26)))
    have Z1 := Lib.hid (Blk.new w2 #[.slice A1 0 c1, .int .u8 1, .bool true, .int .u64 4294967295] 26 rfl)
    replace V := Lib.hid (below_alloc V.out (.cells #[.slice A1 0 c1, .int .u8 1, .bool true, .int .u64 4294967295] 26))
    have hn : 0 ≤ c1 := by
      obtain ⟨A', c', e, h1, h2⟩ := own_slice o2
      have h1' : 0 ≤ c' := h1
      injection e with _ _ e2
      omega
    clear o2
    clear O2
    go_wp2_with fail
    generalize hg1 : w2.heap.size = gs at *
    clear hg1
    generalize w2.alloc (.cells #[.slice A1 0 c1, .int .u8 1, .bool true, .int .u64 4294967295] 26) = w3 at *
    go_loopw [6, 42] (fun tv iv wr => ((tv = .bool false ∧ iv = .int .i64 0)) ∧ Hid (Below w3.heap.size w3 wr)) (fun tv iv wr => 0 - (intOf iv).toNat)
    case atStart => exact ⟨⟨rfl, rfl⟩, Lib.hid (Below.refl _ _)⟩
    case round =>
      obtain ⟨hrel, Q⟩ := hrel
      obtain ⟨⟨z0, z1, z2, z3⟩, -⟩ := Blk.four (Z1.out.after Q.out)
      have FW := Lib.hid (below_next' V.out Q.out)
      obtain ⟨rfl, rfl⟩ := hrel
      · go_wp2_with fail
        go_ret
        exact ⟨rfl, FW.out⟩
  · replace S1 : Hid (∀ u, Calls Try.prog 8 #[.int .i64 8] u (SigW ⟨[], 1, true, 63⟩ true u)) := S1
    go_enter Try.func6, Try.ntmps6
    go_wp2_with fail
    refine (SH.out _).mono ?_
    rintro e w1 ⟨rfl, b1⟩
    have V := Lib.hid b1
    clear b1
    go_wp2_with fail
    refine (S1.out _).mono ?_
    rintro e w2 ⟨A1, c1, he, b2, o2⟩
    replace he : e = .returned (.tuple #[.agg #[.slice A1 0 c1, .int .u8 1, .bool true, .int .u64 63], .bool true]) := he
    subst he
    replace V := Lib.hid (below_next' V.out b2)
    clear b2
    have O2 := Lib.hid (own_after o2 (below_alloc (Below.refl _ _) (.cells #[.slice A1 0 c1, .int .u8 1, .bool true, .int .u64 63] 26)))
    have Z1 := Lib.hid (Blk.new w2 #[.slice A1 0 c1, .int .u8 1, .bool true, .int .u64 63] 26 rfl)
    replace V := Lib.hid (below_alloc V.out (.cells #[.slice A1 0 c1, .int .u8 1, .bool true, .int .u64 63] 26))
    have hn : 0 ≤ c1 := by
      obtain ⟨A', c', e, h1, h2⟩ := own_slice o2
      have h1' : 0 ≤ c' := h1
      injection e with _ _ e2
      omega
    clear o2
    clear O2
    go_wp2_with fail
    generalize hg1 : w2.heap.size = gs at *
    clear hg1
    generalize w2.alloc (.cells #[.slice A1 0 c1, .int .u8 1, .bool true, .int .u64 63] 26) = w3 at *
    go_loopw [6, 42] (fun tv iv wr => ((tv = .bool false ∧ iv = .int .i64 0)) ∧ Hid (Below w3.heap.size w3 wr)) (fun tv iv wr => 0 - (intOf iv).toNat)
    case atStart => exact ⟨⟨rfl, rfl⟩, Lib.hid (Below.refl _ _)⟩
    case round =>
      obtain ⟨hrel, Q⟩ := hrel
      obtain ⟨⟨z0, z1, z2, z3⟩, -⟩ := Blk.four (Z1.out.after Q.out)
      have FW := Lib.hid (below_next' V.out Q.out)
      obtain ⟨rfl, rfl⟩ := hrel
      · go_wp2_with fail
        go_ret
        exact ⟨rfl, FW.out⟩
  · obtain ⟨e1, e2⟩ := hS_none h
    rw [e1, e2] at S1
    clear e1 e2 h
    go_enter Try.func6, Try.ntmps6
    go_wp2_with fail
    refine (SH.out _).mono ?_
    rintro e w1 ⟨rfl, b1⟩
    have V := Lib.hid b1
    clear b1
    go_wp2_with fail
    refine (S1.out _).mono ?_
    rintro e w2 ⟨A1, c1, he, b2, o2⟩
    replace he : e = .returned (.tuple #[.agg #[.slice A1 0 c1, .int .u8 0, .bool false, .int .u64 0], .bool false]) := he
    subst he
    replace V := Lib.hid (below_next' V.out b2)
    clear b2
    go_wp2_with fail
    go_ret
    exact ⟨rfl, below_alloc V.out _⟩

end Go.Proofs.Ytlgpollefkkbdaa
