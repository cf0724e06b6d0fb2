/-
  What alu.Swap makes of a number.
  Conditions: the number fits its kind.
-/
import Derived.Test.YthafidhcmahomaaAluSwapMath
import Derived.Test.YthafidhcmahomaaAluShown
namespace Go.Proofs.Ythafidhcmahomaa
open Go.RowKit
set_option linter.unusedVariables false

set_option maxHeartbeats 1000000 in
theorem reverse_any (n : Int) (w : World) (h : 0 ≤ n) (h' : n ≤ 18446744073709551615) :
    Calls Try.prog 23 #[.int .u64 n] w fun e w' => e = .returned (.int .u64 (swap64 n)) ∧ w = w' := by
  obtain ⟨a, b, c, d, rfl, ha, hb, hc, hd⟩ := nest_of n h h'
  have e1 := step8 ha hb hc hd
  have e2 := step16 (turn2_lt a ha) (turn2_lt b hb) (turn2_lt c hc) (turn2_lt d hd)
  have e3 := step32 (turn2_lt b hb) (turn2_lt a ha) (turn2_lt d hd) (turn2_lt c hc)
  have e4 := turned a b c d ha hb hc hd
  rw [← e4]
  have E1 := Lib.hid e1
  have E2 := Lib.hid e2
  have E3 := Lib.hid e3
  have r1 : 0 ≤ ((nest (turn2 a) (turn2 b) (turn2 c) (turn2 d) : Nat) : Int) := by omega
  have r2 : 0 ≤ ((nest (turn2 b) (turn2 a) (turn2 d) (turn2 c) : Nat) : Int) := by omega
  clear e1 e2 e3 e4
  go_enter Try.func23, Try.ntmps23
  go_wp2
  go_ret
  exact ⟨ret_int (by rw [E1.out, E2.out, E3.out]), rfl⟩

/-- What Swap makes, and its error. -/
def swapV (turn : Bool) (w a : Int) : Int := if w = 16 ∨ w = 32 ∨ w = 64 then (if turn then swapW w a else a % 2 ^ w.toNat) else 0
def swapE (w : Int) : Int := if w = 16 ∨ w = 32 ∨ w = 64 then 0 else 1
def Swapped (v k : Int) (w : World) (e : Ending) (w' : World) : Prop := e = .returned (.tuple #[.int .u64 v, .int .i64 k]) ∧ w = w'

set_option maxHeartbeats 1000000 in
theorem swap_none (turn : Bool) (k a : Int) (w : World) (h : ¬ (k = 16 ∨ k = 32 ∨ k = 64)) : Calls Try.prog 13 #[.bool turn, .int .i64 k, .int .u64 a] w (Swapped (swapV turn k a) (swapE k) w) := by
  have e1 : swapV turn k a = 0 := by unfold swapV; rw [if_neg h]
  have e2 : swapE k = 1 := by unfold swapE; rw [if_neg h]
  rw [e1, e2]
  clear e1 e2
  simp only [not_or] at h
  obtain ⟨h1, h2, h3⟩ := h
  have k1 : (k != 16) = true := bne_iff_ne.mpr h1
  have k2 : (k != 32) = true := bne_iff_ne.mpr h2
  have k3 : (k != 64) = true := bne_iff_ne.mpr h3
  go_enter Try.func13, Try.ntmps13
  go_wp2
  go_ret2
  exact ⟨rfl, rfl⟩

set_option maxHeartbeats 1000000 in
theorem swap_yes (k a : Int) (w : World) (ha : 0 ≤ a) (ha' : a ≤ 18446744073709551615) (h : k = 16 ∨ k = 32 ∨ k = 64) :
    Calls Try.prog 13 #[.bool true, .int .i64 k, .int .u64 a] w (Swapped (swapW k a) 0 w) := by
  have hd := Lib.hid (swap_down a)
  have hr := swap64_range a
  obtain ⟨r0, r1⟩ := hr
  rcases h with rfl | rfl | rfl
  all_goals
    go_enter Try.func13, Try.ntmps13
    go_wp2_with (go_at_call 23; refine (reverse_any _ _ (by omega) (by omega)).mono ?_; rintro e w' ⟨rfl, rfl⟩)
    go_ret2
  · exact ⟨ret_two hd.out.1 rfl, rfl⟩
  · exact ⟨ret_two hd.out.2 rfl, rfl⟩
  · exact ⟨ret_two (by show _ = swap64 a; omega) rfl, rfl⟩

set_option maxHeartbeats 1000000 in
theorem swap_cut (k a : Int) (w : World) (ha : 0 ≤ a) (ha' : a ≤ 18446744073709551615) (h : k = 16 ∨ k = 32 ∨ k = 64) :
    Calls Try.prog 13 #[.bool false, .int .i64 k, .int .u64 a] w (Swapped (a % 2 ^ k.toNat) 0 w) := by
  have hc := Lib.hid fun w => cut_any a k w ha (by omega) (by omega)
  rcases h with rfl | rfl | rfl
  all_goals
    go_enter Try.func13, Try.ntmps13
    go_wp2_with (go_at_call 19; refine (hc.out _).mono ?_; rintro e w' ⟨rfl, rfl⟩)
    go_ret2
    exact ⟨rfl, rfl⟩

/-- Swap, of whatever width and number. -/
theorem swap_any (turn : Bool) (k a : Int) (w : World) (ha : 0 ≤ a) (ha' : a ≤ 18446744073709551615) :
    Calls Try.prog 13 #[.bool turn, .int .i64 k, .int .u64 a] w (Swapped (swapV turn k a) (swapE k) w) := by
  by_cases h : k = 16 ∨ k = 32 ∨ k = 64
  · have e2 : swapE k = 0 := by unfold swapE; rw [if_pos h]
    cases turn
    · have e1 : swapV false k a = a % 2 ^ k.toNat := by unfold swapV; rw [if_pos h]; rfl
      rw [e1, e2]; exact swap_cut k a w ha ha' h
    · have e1 : swapV true k a = swapW k a := by unfold swapV; rw [if_pos h]; rfl
      rw [e1, e2]; exact swap_yes k a w ha ha' h
  · exact swap_none turn k a w h

end Go.Proofs.Ythafidhcmahomaa
