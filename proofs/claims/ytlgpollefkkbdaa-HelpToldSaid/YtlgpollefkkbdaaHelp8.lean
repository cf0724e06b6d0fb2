/-
  Layer 10: the document's examples.
  Conditions: none.
-/
import Derived.Test.YtlgpollefkkbdaaHelp7
namespace Go.Proofs.Ytlgpollefkkbdaa
open Go.RowKit
set_option maxRecDepth 100000
set_option linter.unusedVariables false
set_option linter.unusedSimpArgs false

theorem cell_then {w u : World} {p : Addr} {v : Value} (h : w.cell? p = some v) (b : Below w.heap.size w u) : u.cell? p = some v := (Below.cell b (World.block_lt_of_cell? w p h)).trans h
theorem numS_two {g : Nat} {w : World} {a b : Int} (h : Blk g #[.int .u64 a, .int .u64 b] 24 w) : NumS w (some ⟨g, 0, none⟩) [a, b] := fun _ => ⟨g, 0, rfl, h.lt, fun k hk => by
  have : k = 0 ∨ k = 1 := by simp at hk; omega
  rcases this with rfl | rfl
  · exact h.cell 0
  · exact h.cell 1⟩
theorem okN_two {a b : Int} (ha : 0 ≤ a ∧ a ≤ 18446744073709551615) (hb : 0 ≤ b ∧ b ≤ 18446744073709551615) : OkN [a, b] := fun k hk => by
  have : k = 0 ∨ k = 1 := by simp at hk; omega
  rcases this with rfl | rfl
  · exact ha
  · exact hb

set_option maxHeartbeats 1000000 in
theorem l10_shown (w : World) : Calls Try.prog 12 #[] w (Fine w) := by
  have D : Hid (∀ (i : Int) (u : World), Calls Try.prog 10 #[.int .i64 i, .slice (some ⟨u.heap.size, 0, none⟩) 2 2] (u.alloc (.cells #[.int .u64 130, .int .u64 5] 24)) (DrawW (hDr i [130, 5]) (u.alloc (.cells #[.int .u64 130, .int .u64 5] 24)))) := Lib.hid fun i u => h10_Draw i [130, 5] _ 2 _ (by simp) (by simp) (by decide) (numS_two (Blk.new u _ _ rfl)) (okN_two (by omega) (by omega))
  have D1 := Lib.hid (fun u => D.out 8 u)
  have D2 := Lib.hid (fun u => D.out 1 u)
  rw [show hDr 8 [130, 5] = (2, [5], 0) by decide +kernel] at D1
  rw [show hDr 1 [130, 5] = (0, [], 1) by decide +kernel] at D2
  clear D
  go_enter Try.func12, Try.ntmps12
  go_wp2_with fail
  refine (D1.out w).mono ?_
  rintro e w1 ⟨A1, c1, rfl, b1, o1⟩
  have V1 := Lib.hid (below_next' (below_alloc (Below.refl w.heap.size w) _) b1)
  have O1 := Lib.hid o1
  clear b1 o1
  dsimp only
  go_wp2_with fail
  refine (D2.out w1).mono ?_
  rintro e w2 ⟨A2, c2, rfl, b2, o2⟩
  have V2 := Lib.hid (below_next' (below_alloc V1.out _) b2)
  obtain ⟨g, rfl, hg, hlt⟩ := own_addr O1.out (by decide)
  have c0 : w1.cell? ⟨g, 0, none⟩ = some (.int .u64 5) := O1.out.cellAt 0 (by decide)
  have c1 := cell_then c0 (below_next' (below_alloc (Below.refl w1.heap.size w1) (.cells #[.int .u64 130, .int .u64 5] 24)) b2)
  clear b2 o2 c0 hg hlt
  dsimp only
  go_wp2_with fail
  go_ret
  exact ⟨rfl, V2.out⟩

end Go.Proofs.Ytlgpollefkkbdaa
