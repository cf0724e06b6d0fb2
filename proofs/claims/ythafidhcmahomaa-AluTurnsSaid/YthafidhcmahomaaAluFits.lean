/-
  Which arithmetic there is: alu.fits answers aluFits.
  Conditions: none.
-/
import Derived.Test.YthafidhcmahomaaAluLeaf
namespace Go.Proofs.Ythafidhcmahomaa
open Go.RowKit
set_option linter.unusedVariables false

theorem ret_bool {a b : Bool} (h : a = b) : Ending.returned (.bool a) = .returned (.bool b) := by rw [h]

set_option maxHeartbeats 1000000 in
theorem fits_divs (op off : Int) (wide : Bool) (w : World) (h : op = 48 ∨ op = 144) :
    Calls Try.prog 17 #[.int .u8 op, .bool wide, .int .i16 off] w fun e w' => e = .returned (.bool (aluFits op wide off)) ∧ w = w' := by
  have e1 : aluFits op wide off = (off == 0 || off == 1) := by unfold aluFits; rw [if_pos h]
  rw [e1]
  by_cases h0 : off = 0
  · subst h0
    clear e1
    rcases h with rfl | rfl
    all_goals
      go_enter Try.func17, Try.ntmps17
      go_wp2
      go_ret
      exact ⟨rfl, rfl⟩
  · by_cases h1 : off = 1
    · subst h1
      clear e1
      rcases h with rfl | rfl
      all_goals
        go_enter Try.func17, Try.ntmps17
        go_wp2
        go_ret
        exact ⟨rfl, rfl⟩
    · have e2 : (off == 0) = false := by simpa using h0
      have e3 : (off == 1) = false := by simpa using h1
      have e4 : (off == 0 || off == 1) = false := by rw [e2, e3]; rfl
      rw [e4]
      clear e1 e4
      rcases h with rfl | rfl
      all_goals
        go_enter Try.func17, Try.ntmps17
        go_wp2
        go_ret
        exact ⟨rfl, rfl⟩

set_option maxHeartbeats 1000000 in
theorem fits_mov (off : Int) (wide : Bool) (w : World) :
    Calls Try.prog 17 #[.int .u8 176, .bool wide, .int .i16 off] w fun e w' => e = .returned (.bool (aluFits 176 wide off)) ∧ w = w' := by
  have e1 : aluFits 176 wide off = (off == 0 || off == 8 || off == 16 || (off == 32 && wide)) := rfl
  rw [e1]
  clear e1
  by_cases h0 : off = 0
  · subst h0
    go_enter Try.func17, Try.ntmps17
    go_wp2
    go_ret
    exact ⟨rfl, rfl⟩
  · by_cases h1 : off = 8
    · subst h1
      go_enter Try.func17, Try.ntmps17
      go_wp2
      go_ret
      exact ⟨rfl, rfl⟩
    · by_cases h2 : off = 16
      · subst h2
        go_enter Try.func17, Try.ntmps17
        go_wp2
        go_ret
        exact ⟨rfl, rfl⟩
      · by_cases h3 : off = 32
        · subst h3
          cases wide
          all_goals
            go_enter Try.func17, Try.ntmps17
            go_wp2
            go_ret
            exact ⟨rfl, rfl⟩
        · have e2 : (off == 0) = false := by simpa using h0
          have e3 : (off == 8) = false := by simpa using h1
          have e4 : (off == 16) = false := by simpa using h2
          have e5 : (off == 32) = false := by simpa using h3
          have e6 : (off == 0 || off == 8 || off == 16 || (off == 32 && wide)) = false := by rw [e2, e3, e4, e5]; rfl
          rw [e6]
          clear e6
          go_enter Try.func17, Try.ntmps17
          go_wp2
          go_ret
          exact ⟨rfl, rfl⟩

set_option maxHeartbeats 2000000 in
theorem fits_plain (op off : Int) (wide : Bool) (w : World) (h : op = 0 ∨ op = 16 ∨ op = 32 ∨ op = 64 ∨ op = 80 ∨ op = 160 ∨ op = 96 ∨ op = 112 ∨ op = 192 ∨ op = 128) :
    Calls Try.prog 17 #[.int .u8 op, .bool wide, .int .i16 off] w fun e w' => e = .returned (.bool (aluFits op wide off)) ∧ w = w' := by
  have e1 : aluFits op wide off = (off == 0) := by
    unfold aluFits; rw [if_neg (by omega), if_neg (by omega), if_pos h]
  rw [e1]
  clear e1
  rcases h with rfl | rfl | rfl | rfl | rfl | rfl | rfl | rfl | rfl | rfl
  all_goals
    go_enter Try.func17, Try.ntmps17
    go_wp2
    go_ret
    exact ⟨rfl, rfl⟩

/-- Op is none of those that there are. -/
def NoOp (op : Int) : Prop := (op ≠ 0 ∧ op ≠ 16 ∧ op ≠ 32 ∧ op ≠ 64 ∧ op ≠ 80 ∧ op ≠ 160 ∧ op ≠ 96) ∧ (op ≠ 112 ∧ op ≠ 192 ∧ op ≠ 128 ∧ op ≠ 48 ∧ op ≠ 144 ∧ op ≠ 176)
theorem noOp_fits {op off : Int} {wide : Bool} (h : NoOp op) : aluFits op wide off = false := by
  obtain ⟨⟨a1, a2, a3, a4, a5, a6, a7⟩, a8, a9, a10, a11, a12, a13⟩ := h
  unfold aluFits
  rw [if_neg (by omega), if_neg (by omega), if_neg (by omega)]

set_option maxHeartbeats 1000000 in
theorem fits_none (op off : Int) (wide : Bool) (w : World) (h : NoOp op) :
    Calls Try.prog 17 #[.int .u8 op, .bool wide, .int .i16 off] w fun e w' => e = .returned (.bool (aluFits op wide off)) ∧ w = w' := by
  rw [noOp_fits h]
  obtain ⟨⟨a1, a2, a3, a4, a5, a6, a7⟩, a8, a9, a10, a11, a12, a13⟩ := h
  replace a1 := beq_eq_false_iff_ne.mpr a1
  replace a2 := beq_eq_false_iff_ne.mpr a2
  replace a3 := beq_eq_false_iff_ne.mpr a3
  replace a4 := beq_eq_false_iff_ne.mpr a4
  replace a5 := beq_eq_false_iff_ne.mpr a5
  replace a6 := beq_eq_false_iff_ne.mpr a6
  replace a7 := beq_eq_false_iff_ne.mpr a7
  replace a8 := beq_eq_false_iff_ne.mpr a8
  replace a9 := beq_eq_false_iff_ne.mpr a9
  replace a10 := beq_eq_false_iff_ne.mpr a10
  replace a11 := beq_eq_false_iff_ne.mpr a11
  replace a12 := beq_eq_false_iff_ne.mpr a12
  replace a13 := beq_eq_false_iff_ne.mpr a13
  go_enter Try.func17, Try.ntmps17
  go_wp2
  go_ret
  exact ⟨rfl, rfl⟩

theorem op_cases (op : Int) : (op = 48 ∨ op = 144) ∨ op = 176 ∨ (op = 0 ∨ op = 16 ∨ op = 32 ∨ op = 64 ∨ op = 80 ∨ op = 160 ∨ op = 96 ∨ op = 112 ∨ op = 192 ∨ op = 128) ∨ NoOp op := by
  unfold NoOp
  by_cases h1 : op = 48 ∨ op = 144
  · exact .inl h1
  · by_cases h2 : op = 176
    · exact .inr (.inl h2)
    · by_cases h3 : op = 0 ∨ op = 16 ∨ op = 32 ∨ op = 64 ∨ op = 80 ∨ op = 160 ∨ op = 96 ∨ op = 112 ∨ op = 192 ∨ op = 128
      · exact .inr (.inr (.inl h3))
      · refine .inr (.inr (.inr ?_))
        simp only [not_or] at h1 h3
        simp [h1, h2, h3]

theorem fits_any (op off : Int) (wide : Bool) (w : World) :
    Calls Try.prog 17 #[.int .u8 op, .bool wide, .int .i16 off] w fun e w' => e = .returned (.bool (aluFits op wide off)) ∧ w = w' := by
  rcases op_cases op with h | h | h | h
  · exact fits_divs op off wide w h
  · subst h; exact fits_mov off wide w
  · exact fits_plain op off wide w h
  · exact fits_none op off wide w h

end Go.Proofs.Ythafidhcmahomaa
