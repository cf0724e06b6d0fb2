/-
  Plain rows of instructions: where they begin, as they are found one behind the other. No program is named here.
-/
import Derived.Test.YtplndcjmbgkcjaaCodeHalf
namespace Go.Proofs.Ytplndcjmbgkcjaa
open Go Go.RowKit
set_option linter.unusedVariables false

theorem sts_len (b : Bool) (l : List Ins) : (sts b l).length = l.length := by
  induction l generalizing b with
  | nil => cases b <;> rfl
  | cons x l ih => cases b <;> simp [sts, ih]
/-- One begins at a place. -/
def begins (l : List Ins) (p : Nat) : Prop := (sts false l).drop p = sts false (l.drop p)
theorem begins_zero (l : List Ins) : begins l 0 := rfl
theorem begins_step {l : List Ins} {p : Nat} (h : begins l p) (hp : p < l.length) :
    (sts false l)[p]? = some true ∧ begins l (nxt l p) ∧ ((iAt l p).op = 24 → (sts false l)[p + 1]? ≠ some true) := by
  have hd : l.drop p = iAt l p :: l.drop (p + 1) := by
    rw [List.drop_eq_getElem_cons hp]
    unfold iAt
    rw [List.getD_eq_getElem?_getD, List.getElem?_eq_getElem hp, Option.getD_some]
  unfold begins at *
  rw [hd] at h
  have h0 : (sts false l).drop p = true :: sts ((iAt l p).op == 24) (l.drop (p + 1)) := h
  have h1 : (sts false l).drop (p + 1) = sts ((iAt l p).op == 24) (l.drop (p + 1)) := by
    have := congrArg List.tail h0
    rw [List.tail_drop] at this
    exact this
  refine ⟨?_, ?_, ?_⟩
  · have := congrArg (fun q => q[0]?) h0
    simpa using this
  · unfold nxt
    by_cases h24 : (iAt l p).op = 24
    · rw [if_pos h24]
      rw [beq_iff_eq.mpr h24] at h1
      have h2 : (sts false l).drop (p + 2) = (sts true (l.drop (p + 1))).tail := by
        rw [← h1, List.tail_drop]
      rw [h2]
      have h3 : l.drop (p + 2) = (l.drop (p + 1)).tail := by rw [List.tail_drop]
      rw [h3]
      cases l.drop (p + 1) with
      | nil => rfl
      | cons y t => rfl
    · rw [if_neg h24]
      rw [beq_false_of_ne h24] at h1
      exact h1
  · intro h24
    rw [beq_iff_eq.mpr h24] at h1
    have h2 : (sts false l)[p + 1]? = (sts true (l.drop (p + 1)))[0]? := by
      rw [← h1, List.getElem?_drop]
    rw [h2]
    cases l.drop (p + 1) with
    | nil => simp [sts]
    | cons y t => simp [sts]
/-- What was found of it so far. -/
def stTo (l : List Ins) (p : Nat) : List Bool := (sts false l).mapIdx fun j b => b && decide (j < p)
theorem stTo_len (l : List Ins) (p : Nat) : (stTo l p).length = l.length := by unfold stTo; rw [List.length_mapIdx, sts_len]
theorem stTo_at (l : List Ins) (p j : Nat) : (stTo l p)[j]? = ((sts false l)[j]?).map fun b => b && decide (j < p) := by unfold stTo; rw [List.getElem?_mapIdx]
theorem stTo_zero (l : List Ins) : stTo l 0 = List.replicate l.length false := by
  apply List.ext_getElem?
  intro j
  rw [stTo_at, List.getElem?_replicate]
  by_cases h : j < l.length
  · rw [List.getElem?_eq_getElem (by rw [sts_len]; exact h), if_pos h]
    simp
  · rw [List.getElem?_eq_none (by rw [sts_len]; omega), if_neg h]
    rfl
theorem stTo_all (l : List Ins) {p : Nat} (h : l.length ≤ p) : stTo l p = sts false l := by
  apply List.ext_getElem?
  intro j
  rw [stTo_at]
  by_cases hj : j < l.length
  · rw [List.getElem?_eq_getElem (by rw [sts_len]; exact hj), Option.map_some, decide_eq_true (by omega), Bool.and_true]
  · rw [List.getElem?_eq_none (by rw [sts_len]; omega)]
    rfl
theorem stTo_set {l : List Ins} {p : Nat} (h : begins l p) (hp : p < l.length) : (stTo l p).set p true = stTo l (nxt l p) := by
  obtain ⟨h1, _, h3⟩ := begins_step h hp
  have hn := nxt_lt l p
  apply List.ext_getElem?
  intro j
  rw [List.getElem?_set, stTo_len, stTo_at, stTo_at]
  by_cases hj : p = j
  · subst hj
    rw [if_pos rfl, if_pos hp, h1, Option.map_some, decide_eq_true hn]
    rfl
  · rw [if_neg hj]
    by_cases hl : j < l.length
    · rw [List.getElem?_eq_getElem (by rw [sts_len]; exact hl), Option.map_some, Option.map_some]
      congr 1
      by_cases hlt : j < p
      · rw [decide_eq_true hlt, decide_eq_true (by omega)]
      · rw [decide_eq_false hlt, Bool.and_false]
        by_cases hl2 : j < nxt l p
        · have e : j = p + 1 ∧ (iAt l p).op = 24 := by
            unfold nxt at hl2
            split at hl2
            · exact ⟨by omega, ‹_›⟩
            · omega
          obtain ⟨rfl, e2⟩ := e
          have h4 := h3 e2
          have hl' : p + 1 < (sts false l).length := by rw [sts_len]; exact hl
          rw [List.getElem?_eq_getElem hl'] at h4
          cases hb : (sts false l)[p + 1]'hl'
          · rfl
          · rw [hb] at h4
            exact absurd rfl h4
        · rw [decide_eq_false hl2, Bool.and_false]
    · rw [List.getElem?_eq_none (by rw [sts_len]; omega)]
      rfl

end Go.Proofs.Ytplndcjmbgkcjaa
