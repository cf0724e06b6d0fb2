/-
  Plain rows of instructions: of a program the next one, and each target, is where one begins. No program is named here.
-/
import Derived.Test.YtplndcjmbgkcjaaCodeEnc
namespace Go.Proofs.Ytplndcjmbgkcjaa
open Go Go.RowKit
set_option linter.unusedVariables false
set_option linter.unusedSimpArgs false

theorem sts_begins : ∀ (l : List Ins) (b : Bool) (k : Nat), (sts b l)[k]? = some true → (sts b l).drop k = sts false (l.drop k) := by
  intro l
  induction l with
  | nil => intro b k h; simp [sts] at h
  | cons x t ih =>
    intro b k h
    cases b with
    | true =>
      cases k with
      | zero => simp [sts] at h
      | succ k =>
        have h' : (sts false t)[k]? = some true := by simpa [sts] using h
        have := ih false k h'
        simpa [sts] using this
    | false =>
      cases k with
      | zero => rfl
      | succ k =>
        have h' : (sts (x.op == 24) t)[k]? = some true := by simpa [sts] using h
        have := ih _ k h'
        simpa [sts] using this
theorem begins_of {l : List Ins} {k : Nat} (hk : k < l.length) (h : stAt l k = true) : begins l k := by
  have hs := stAt_get hk
  rw [h] at hs
  exact sts_begins l false k hs
/-- Of a program: the one behind. -/
theorem next_in {l : List Ins} (h : (chk l).2 = 0) {k : Nat} (hk : k < l.length) (hs : stAt l k = true) (he : ends (iAt l k) = false) : nxt l k < l.length ∧ stAt l (nxt l k) = true := by
  obtain ⟨hf, h1, h2, h3, _⟩ := chk_ok h
  have hb := begins_of hk hs
  by_cases hn : nxt l k < l.length
  · exact ⟨hn, begins_at (begins_step hb hk).2.1 hn⟩
  · obtain ⟨e1, _, e3, e4⟩ := lst_zero (l := l) (by omega)
    have hkl : k = lst l 0 0 := by
      rw [e1]
      unfold nxt at hn
      by_cases h24 : (iAt l k).op = 24
      · rw [if_pos h24] at hn
        obtain ⟨h5, _⟩ := half_of (h1 k hk hs) h24
        have e : l.length - 1 = k + 1 := by omega
        rw [e, begins_half hb hk h24, if_neg Bool.false_ne_true]
        omega
      · rw [if_neg h24] at hn
        have e : l.length - 1 = k := by omega
        rw [e, hs, if_pos rfl]
    rw [hkl] at he
    rw [he] at h3
    cases h3
/-- Of a program: where one jumps to. -/
theorem target_in {l : List Ins} (h : (chk l).2 = 0) {k : Nat} (hk : k < l.length) (hs : stAt l k = true) :
    tgOk l k = jumpy (iAt l k) ∧ (jumpy (iAt l k) = true → ∃ m : Nat, tgOf l k = m ∧ m < l.length ∧ stAt l m = true) := by
  obtain ⟨_, _, h2, _⟩ := chk_ok h
  have hb := h2 k hk hs
  have e1 : tgOk l k = (jumpy (iAt l k) && inL l (toOf (iAt l k) k)) := by
    unfold tgOk inL
    rw [decide_eq_true (by omega), decide_eq_true (by omega), show ((k : Int)).toNat = k by omega]
    rfl
  unfold bad2 at hb
  cases hj : jumpy (iAt l k)
  · rw [e1, hj]
    exact ⟨rfl, fun h => by cases h⟩
  · rw [hj] at hb
    have hb' : (inL l (toOf (iAt l k) k) && stAt l (toOf (iAt l k) k).toNat) = true := by simpa using hb
    simp only [Bool.and_eq_true] at hb'
    obtain ⟨hi, hst⟩ := hb'
    have e2 : tgOk l k = true := by rw [e1, hj, hi]; rfl
    refine ⟨e2, fun _ => ⟨(toOf (iAt l k) k).toNat, ?_, ?_, hst⟩⟩
    · unfold tgOf
      rw [e2, if_pos rfl, show ((k : Int)).toNat = k by omega]
      unfold inL at hi
      simp only [Bool.and_eq_true, decide_eq_true_eq] at hi
      omega
    · unfold inL at hi
      simp only [Bool.and_eq_true, decide_eq_true_eq] at hi
      omega
theorem first_in {l : List Ins} (h : 0 < l.length) : stAt l 0 = true := begins_at (begins_zero l) h

end Go.Proofs.Ytplndcjmbgkcjaa
