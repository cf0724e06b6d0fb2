/-
  P1.1: the instruction that bytes are: the walk of the statement InsnTakes.
  Conditions: none beyond the row's own.
-/
import Derived.Test.YtkggikcgaalgiaaRef01
import Derived.Test.YtkggikcgaalgiaaShown
namespace Go.Proofs.Ytkggikcgaalgiaa
open Go.RowKit
set_option linter.unusedVariables false

theorem lt_of_heap {w : World} {g : Nat} {o : Obj} (h : w.heap[g]? = some o) : g < w.heap.size := by
  rcases Nat.lt_or_ge g w.heap.size with h' | h'
  · exact h'
  · rw [Array.getElem?_eq_none h'] at h; cases h

theorem insn_cells {w : World} {g : Nat} {t : TypeId} {op dst src off imm : Int} (h : w.heap[g]? = some (.cells #[.int .u8 op, .int .u8 dst, .int .u8 src, .int .i16 off, .int .i32 imm] t (0, 0))) :
    w.cell? ⟨g, 0, none⟩ = some (.int .u8 op) ∧ w.cell? ⟨g, 1, none⟩ = some (.int .u8 dst) ∧ w.cell? ⟨g, 2, none⟩ = some (.int .u8 src) ∧ w.cell? ⟨g, 3, none⟩ = some (.int .i16 off) ∧ w.cell? ⟨g, 4, none⟩ = some (.int .i32 imm) :=
  ⟨cell_of_row w g 0 _ t (0, 0) h, cell_of_row w g 1 _ t (0, 0) h, cell_of_row w g 2 _ t (0, 0) h, cell_of_row w g 3 _ t (0, 0) h, cell_of_row w g 4 _ t (0, 0) h⟩

/-- Two calls, a new block behind each: all of it is there, and below nothing turned. -/
theorem two_new {w w2 w3 w4 : World} {O O' : Obj} (hb2 : Below w.heap.size w w2) (hb3 : Below (w2.alloc O).heap.size (w2.alloc O) w3) (hb4 : Below (w3.alloc O').heap.size (w3.alloc O') w4) :
    w4.heap[w2.heap.size]? = some O ∧ w4.heap[w3.heap.size]? = some O' ∧ Below w.heap.size w w4 := by
  have s2 := hb2.size
  have s3 := hb3.size
  have s4 := hb4.size
  simp only [World.size_alloc] at s3 s4
  refine ⟨?_, ?_, ?_⟩
  · rw [hb4.block _ (by simp; omega), Below.heap_alloc _ _ _ (by omega), hb3.block _ (by simp)]
    exact heap_at_last _ _ _ rfl
  · rw [hb4.block _ (by simp)]
    exact heap_at_last _ _ _ rfl
  · exact ((hb2.alloc s2 O).trans (hb3.mono (by simp; omega))).alloc (by omega) O' |>.trans (hb4.mono (by simp; omega))

set_option maxHeartbeats 400000 in
theorem takes_nil (w : World) :
    Calls Try.prog 4 #[.slice none 0 0] w fun e w' => e = .returned (.bool true) ∧ Below w.heap.size w w' := by
  go_enter Try.func4, Try.ntmps4
  go_wp2_with fail
  refine (take_bad none _ _ _ (by decide)).mono ?_
  rintro e w2 ⟨rfl, hb2⟩
  go_wp2_with fail
  refine (ref_take_bad none _ _ _ (by decide)).mono ?_
  rintro e w3 ⟨rfl, hb3⟩
  go_wp2_with fail
  refine (shown_true _).mono ?_
  rintro e w4 ⟨rfl, hb4⟩
  obtain ⟨h1, h2, hb⟩ := two_new hb2 hb3 hb4
  obtain ⟨p0, p1, p2, p3, p4⟩ := insn_cells h1
  obtain ⟨q0, q1, q2, q3, q4⟩ := insn_cells h2
  clear hb2 hb3 hb4 h1 h2
  go_wp2_with fail
  go_ret
  exact ⟨rfl, hb⟩

set_option maxHeartbeats 400000 in
theorem takes_long (x : Addr) (n c : Nat) (w : World) (h20 : 20 < n) (hc : n ≤ c) (hm : c ≤ maxLen) :
    Calls Try.prog 4 #[.slice (some x) n c] w fun e w' => e = .returned (.bool true) ∧ Below w.heap.size w w' := by
  go_enter Try.func4, Try.ntmps4
  go_wp2_with fail
  refine (take_bad _ 20 _ _ (by decide)).mono ?_
  rintro e w2 ⟨rfl, hb2⟩
  go_wp2_with fail
  refine (ref_take_bad _ 20 _ _ (by decide)).mono ?_
  rintro e w3 ⟨rfl, hb3⟩
  go_wp2_with fail
  refine (shown_true _).mono ?_
  rintro e w4 ⟨rfl, hb4⟩
  obtain ⟨h1, h2, hb⟩ := two_new hb2 hb3 hb4
  obtain ⟨p0, p1, p2, p3, p4⟩ := insn_cells h1
  obtain ⟨q0, q1, q2, q3, q4⟩ := insn_cells h2
  clear hb2 hb3 hb4 h1 h2
  go_wp2_with fail
  go_ret
  exact ⟨rfl, hb⟩

set_option maxHeartbeats 400000 in
theorem takes_short (x : Addr) (n c : Nat) (w : World) (h20 : n ≤ 20) (h8 : ((n : Int) == 8) = false) (hc : n ≤ c) (hm : c ≤ maxLen) :
    Calls Try.prog 4 #[.slice (some x) n c] w fun e w' => e = .returned (.bool true) ∧ Below w.heap.size w w' := by
  go_enter Try.func4, Try.ntmps4
  go_wp2_with fail
  refine (take_bad _ n _ _ h8).mono ?_
  rintro e w2 ⟨rfl, hb2⟩
  go_wp2_with fail
  refine (ref_take_bad _ n _ _ h8).mono ?_
  rintro e w3 ⟨rfl, hb3⟩
  go_wp2_with fail
  refine (shown_true _).mono ?_
  rintro e w4 ⟨rfl, hb4⟩
  obtain ⟨h1, h2, hb⟩ := two_new hb2 hb3 hb4
  obtain ⟨p0, p1, p2, p3, p4⟩ := insn_cells h1
  obtain ⟨q0, q1, q2, q3, q4⟩ := insn_cells h2
  clear hb2 hb3 hb4 h1 h2
  go_wp2_with fail
  go_ret
  exact ⟨rfl, hb⟩

set_option maxHeartbeats 400000 in
theorem takes_eight (g o c : Nat) (b0 b1 b2 b3 b4 b5 b6 b7 : Int) (w : World) (hc : 8 ≤ c) (hm : c ≤ maxLen)
    (c0 : w.cell? ⟨g, o, none⟩ = some (.int .u8 b0)) (c1 : w.cell? ⟨g, o + 1, none⟩ = some (.int .u8 b1)) (c2 : w.cell? ⟨g, o + 2, none⟩ = some (.int .u8 b2)) (c3 : w.cell? ⟨g, o + 3, none⟩ = some (.int .u8 b3))
    (c4 : w.cell? ⟨g, o + 4, none⟩ = some (.int .u8 b4)) (c5 : w.cell? ⟨g, o + 5, none⟩ = some (.int .u8 b5)) (c6 : w.cell? ⟨g, o + 6, none⟩ = some (.int .u8 b6)) (c7 : w.cell? ⟨g, o + 7, none⟩ = some (.int .u8 b7))
    (l0 : 0 ≤ b0 ∧ b0 ≤ 255) (l1 : 0 ≤ b1 ∧ b1 ≤ 255) (l2 : 0 ≤ b2 ∧ b2 ≤ 255) (l3 : 0 ≤ b3 ∧ b3 ≤ 255) (l4 : 0 ≤ b4 ∧ b4 ≤ 255) (l5 : 0 ≤ b5 ∧ b5 ≤ 255) (l6 : 0 ≤ b6 ∧ b6 ≤ 255) (l7 : 0 ≤ b7 ∧ b7 ≤ 255) (hg : g < w.heap.size) :
    Calls Try.prog 4 #[.slice (some ⟨g, o, none⟩) 8 c] w fun e w' => e = .returned (.bool true) ∧ Below w.heap.size w w' := by
  have T := Lib.hid (fun (wx : World) (hx : Below w.heap.size w wx) =>
    have f : ∀ k, wx.cell? ⟨g, k, none⟩ = w.cell? ⟨g, k, none⟩ := fun k => hx.cell (p := ⟨g, k, none⟩) hg
    And.intro (take_ok g o c b0 b1 b2 b3 b4 b5 b6 b7 wx ((f _).trans c0) ((f _).trans c1) ((f _).trans c2) ((f _).trans c3) ((f _).trans c4) ((f _).trans c5) ((f _).trans c6) ((f _).trans c7) l0 l1 l2 l3 l4 l5 l6 l7 (Nat.lt_of_lt_of_le hg hx.size))
      (ref_take_ok g o c b0 b1 b2 b3 b4 b5 b6 b7 wx ((f _).trans c0) ((f _).trans c1) ((f _).trans c2) ((f _).trans c3) ((f _).trans c4) ((f _).trans c5) ((f _).trans c6) ((f _).trans c7) l0 l1 l2 l3 l4 l5 l6 l7 (Nat.lt_of_lt_of_le hg hx.size)))
  clear c0 c1 c2 c3 c4 c5 c6 c7 l0 l1 l2 l3 l4 l5 l6 l7 hg
  go_enter Try.func4, Try.ntmps4
  go_wp2_with fail
  refine ((Hid.out T) w (Below.refl _ _)).1.mono ?_
  rintro e w2 ⟨rfl, hb2⟩
  go_wp2_with fail
  refine ((Hid.out T) _ (hb2.alloc hb2.size _)).2.mono ?_
  rintro e w3 ⟨rfl, hb3⟩
  go_wp2_with fail
  refine (shown_true _).mono ?_
  rintro e w4 ⟨rfl, hb4⟩
  obtain ⟨h1, h2, hb⟩ := two_new hb2 hb3 hb4
  obtain ⟨p0, p1, p2, p3, p4⟩ := insn_cells h1
  obtain ⟨q0, q1, q2, q3, q4⟩ := insn_cells h2
  clear hb2 hb3 hb4 h1 h2
  go_wp2_with fail
  go_ret
  exact ⟨rfl, hb⟩

end Go.Proofs.Ytkggikcgaalgiaa
