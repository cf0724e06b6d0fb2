/-
  Plain rows of instructions: another number of an instruction. No program is named here.
-/
import Derived.Test.YtplndcjmbgkcjaaCodeRun
namespace Go.Proofs.Ytplndcjmbgkcjaa
open Go Go.RowKit
set_option linter.unusedVariables false
set_option linter.unusedSimpArgs false

/-- The same one with another number. -/
def withImm (x : Ins) (n : Int) : Ins := ⟨x.op, x.dst, x.src, x.off, n⟩
/-- Its number may be any other one. -/
def numB (v : Wh) : Bool := !v.reg && ((v.kind == 1 && v.op != 128) || v.kind == 6 || v.kind == 10 || v.kind == 11)
theorem wh_of {x : Ins} (h : wOk x = true) : wOf x = waW x := by unfold wOf; rw [if_pos h]
theorem num_wh {x : Ins} (n : Int) (h : wOk x = true) (hn : numB (wOf x) = true) : wOk (withImm x n) = true ∧ wOf (withImm x n) = wOf x := by
  have key : wOk (withImm x n) = true ∧ waW (withImm x n) = waW x := by
    rw [wh_of h] at hn
    obtain ⟨op, dst, src, off, imm⟩ := x
    unfold withImm
    unfold numB at hn
    unfold wOk waW at *
    simp only at *
    by_cases h1 : (decide (10 < dst) || decide (10 < src)) = true
    · rw [if_pos h1] at h; cases h
    simp only [if_neg h1] at h hn ⊢
    by_cases h2 : inB others op = true
    · simp only [if_pos h2] at h hn ⊢
      unfold otW otOk at *
      simp only at *
      by_cases a1 : (op == 212 || op == 220 || op == 215) = true
      · simp only [if_pos a1] at hn; simp at hn
      simp only [if_neg a1] at h hn ⊢
      by_cases a2 : (op == 24) = true
      · rw [if_pos a2] at hn
        split at hn <;> simp at hn
      simp only [if_neg a2] at h hn ⊢
      by_cases a3 : (op == 5) = true
      · rw [a3, Bool.true_or, if_pos rfl] at hn; simp at hn
      by_cases a4 : (op == 6) = true
      · rw [a4, Bool.or_true, if_pos rfl] at hn; simp at hn
      have a5 : ¬ (op == 5 || op == 6) = true := by simp only [Bool.or_eq_true, not_or]; exact ⟨a3, a4⟩
      simp only [if_neg a3, if_neg a4, if_neg a5] at h hn ⊢
      by_cases a6 : (op == 133) = true
      · simp only [if_pos a6] at h ⊢
        exact ⟨h, trivial⟩
      · simp only [if_neg a6] at hn
        split at hn <;> simp [Wh.zero] at hn
    simp only [if_neg h2] at h hn ⊢
    by_cases h3 : (op % 8 == 4 || op % 8 == 7) = true
    · simp only [if_pos h3] at h hn ⊢
      refine ⟨?_, rfl⟩
      unfold arW at hn
      unfold arOk at h ⊢
      simp only at *
      by_cases b1 : (dst == 10) = true
      · rw [if_pos b1] at h; cases h
      rw [if_neg b1] at h ⊢
      by_cases b2 : (op / 16 * 16 == 128) = true
      · have := beq_iff_eq.mp b2
        rw [this] at hn
        simp at hn
      rw [if_neg b2] at h ⊢
      have b3 : (op / 8 % 2 == 1) = false := by
        cases hb : (op / 8 % 2 == 1)
        · rfl
        · rw [hb] at hn; simp at hn
      rw [b3] at h ⊢
      exact h
    simp only [if_neg h3] at h hn ⊢
    by_cases h4 : (op % 8 == 5 || op % 8 == 6) = true
    · simp only [if_pos h4] at h hn ⊢
      refine ⟨?_, rfl⟩
      unfold brW at hn
      unfold brOk at h ⊢
      simp only at *
      have b3 : (op / 8 % 2 == 1) = false := by
        cases hb : (op / 8 % 2 == 1)
        · rfl
        · rw [hb] at hn; simp at hn
      rw [b3] at h ⊢
      exact h
    simp only [if_neg h4] at h hn ⊢
    unfold meW at hn
    unfold meW meOk at *
    simp only at *
    by_cases c1 : 0 < szL op + szG op
    · simp only [if_pos c1] at hn; simp at hn
    simp only [if_neg c1] at h hn ⊢
    by_cases c2 : 0 < szS op
    · simp only [if_pos c2] at h ⊢
      exact ⟨h, trivial⟩
    simp only [if_neg c2] at hn
    by_cases c3 : 0 < szP op
    · simp only [if_pos c3] at hn; simp at hn
    simp only [if_neg c3] at hn
    split at hn <;> simp [Wh.zero] at hn
  exact ⟨key.1, by rw [wh_of h, wh_of key.1, key.2]⟩
theorem iAt_set {l : List Ins} {i : Nat} (hi : i < l.length) (z : Ins) (k : Nat) : iAt (l.set i z) k = if k = i then z else iAt l k := by
  unfold iAt
  rw [List.getD_eq_getElem?_getD, List.getD_eq_getElem?_getD, List.getElem?_set]
  by_cases h : i = k
  · subst h
    rw [if_pos rfl, if_pos hi, if_pos rfl]
    rfl
  · rw [if_neg h, if_neg (fun e => h e.symm)]
theorem sts_set : ∀ (l : List Ins) (b : Bool) (i : Nat) (z : Ins), z.op = (iAt l i).op → sts b (l.set i z) = sts b l := by
  intro l
  induction l with
  | nil => intro b i z h; rfl
  | cons x l ih =>
    intro b i z h
    cases i with
    | zero =>
      have h' : z.op = x.op := h
      cases b
      · show true :: sts (z.op == 24) l = true :: sts (x.op == 24) l
        rw [h']
      · rfl
    | succ i =>
      have h' : z.op = (iAt l i).op := by rw [h]; simp [iAt]
      cases b
      · show true :: sts (x.op == 24) (l.set i z) = _
        rw [ih _ i z h']
        rfl
      · show false :: sts false (l.set i z) = _
        rw [ih _ i z h']
        rfl
theorem fs_none' {l : List Ins} {P : Nat → Bool} : ∀ (n j : Nat), l.length - j ≤ n → (∀ k, k < l.length → stAt l k = true → P k = false) → fs l P j = none := by
  intro n
  induction n with
  | zero => intro j hj h; exact fs_out (by omega)
  | succ n ih =>
    intro j hj h
    by_cases hl : j < l.length
    · rw [fs_in hl]
      cases hs : stAt l j
      · rw [Bool.false_and, if_neg Bool.false_ne_true]
        exact ih (j + 1) (by omega) h
      · rw [h j hl hs, Bool.and_false, if_neg Bool.false_ne_true]
        exact ih (j + 1) (by omega) h
    · exact fs_out hl
/-- The number of one of a program may be any other one. -/
theorem chk_num {l : List Ins} {i : Nat} (n : Int) (h : (chk l).2 = 0) (hi : i < l.length) (hs : stAt l i = true) (hn : numB (wOf (iAt l i)) = true) :
    wOk (withImm (iAt l i) n) = true ∧ wOf (withImm (iAt l i) n) = wOf (iAt l i) ∧ chk (l.set i (withImm (iAt l i) n)) = (0, 0) := by
  obtain ⟨hf, h1, h2, h3, _⟩ := chk_ok h
  have hok : wOk (iAt l i) = true := whole_ok (h1 i hi hs)
  obtain ⟨z1, z2⟩ := num_wh n hok hn
  refine ⟨z1, z2, ?_⟩
  have hop : (withImm (iAt l i) n).op = (iAt l i).op := rfl
  have hkind : ((wOf (iAt l i)).kind == 3 || (wOf (iAt l i)).kind == 4) = false ∧ (wOf (iAt l i)).kind ≠ 9 := by
    unfold numB at hn
    simp only [Bool.and_eq_true, Bool.or_eq_true, beq_iff_eq] at hn
    obtain ⟨_, hk⟩ := hn
    rcases hk with ((⟨hk, _⟩ | hk) | hk) | hk <;> rw [hk] <;> exact ⟨rfl, by omega⟩
  have h24 : ((iAt l i).op == 24) = false := by rw [← wide_kind hok]; exact hkind.1
  have h6 : ((iAt l i).op == 6) = false := by
    cases e : ((iAt l i).op == 6)
    · rfl
    · exfalso
      have e6 := beq_iff_eq.mp e
      apply hkind.2
      have hok' := hok
      rw [wh_of hok]
      unfold wOk at hok'
      unfold waW
      by_cases r1 : (decide (10 < (iAt l i).dst) || decide (10 < (iAt l i).src)) = true
      · rw [if_pos r1] at hok'; cases hok'
      · rw [if_neg r1, e6]
        show (otW (iAt l i)).kind = 9
        unfold otW
        rw [e6]
        rfl
  have hst : ∀ k, stAt (l.set i (withImm (iAt l i) n)) k = stAt l k := fun k => by unfold stAt; rw [sts_set l false i _ hop]
  have hlen : (l.set i (withImm (iAt l i) n)).length = l.length := List.length_set
  have hat := iAt_set hi (withImm (iAt l i) n)
  generalize hz : withImm (iAt l i) n = z at *
  have b1 : ∀ k, k < (l.set i z).length → stAt (l.set i z) k = true → bad1 (l.set i z) k = false := by
    intro k hk hsk
    rw [hlen] at hk
    rw [hst] at hsk
    have e := whole_eq (l.set i z) k
    have e0 := h1 k hk hsk
    have e1 := whole_eq l k
    rw [e0] at e1
    by_cases hki : k = i
    · subst hki
      rw [hat k, if_pos rfl, hop, h24, z1] at e
      simpa using e
    · rw [hat k, if_neg hki] at e
      by_cases hk24 : ((iAt l k).op == 24) = true
      · have hne : ¬ k + 1 = i := fun he => by
          have := begins_half (begins_of hk hsk) hk (beq_iff_eq.mp hk24)
          rw [he, hs] at this
          cases this
        rw [hat (k + 1), if_neg hne, hlen, ← e1] at e
        simpa using e
      · have hk24' : ((iAt l k).op == 24) = false := by simpa using hk24
        rw [hk24'] at e e1
        simp only [Bool.not_false, Bool.true_or, Bool.and_true] at e e1
        rw [← e1] at e
        simpa using e
  have b2 : ∀ k, k < (l.set i z).length → stAt (l.set i z) k = true → bad2 (l.set i z) k = false := by
    intro k hk hsk
    rw [hlen] at hk
    rw [hst] at hsk
    have e0 := h2 k hk hsk
    unfold bad2 at e0 ⊢
    have hj : jumpy (iAt (l.set i z) k) = jumpy (iAt l k) := by
      unfold jumpy
      by_cases hki : k = i
      · subst hki; rw [hat k, if_pos rfl, z2]
      · rw [hat k, if_neg hki]
    have ht : toOf (iAt (l.set i z) k) k = toOf (iAt l k) k := by
      unfold toOf
      rw [hj]
      by_cases hki : k = i
      · subst hki
        have hfar : farOf z = farOf (iAt l k) := by
          unfold farOf
          rw [hop, h6]
          rw [← hz]
          rfl
        rw [hat k, if_pos rfl, hfar]
      · rw [hat k, if_neg hki]
    have hin : inL (l.set i z) (toOf (iAt l k) k) = inL l (toOf (iAt l k) k) := by unfold inL; rw [hlen]
    rw [hj, ht, hin, hst]
    exact e0
  have hf' : fitsB (l.set i z).length = true := by rw [hlen]; exact hf
  have hpos := (fits_len hf).1
  rw [chk_end hf' (fs_none' _ 0 (Nat.le_refl _) b1) (fs_none' _ 0 (Nat.le_refl _) b2)]
  have hl : lst (l.set i z) 0 0 = lst l 0 0 := by
    rw [(lst_zero (l := l.set i z) (by rw [hlen]; exact hpos)).1, (lst_zero hpos).1, hst, hlen]
  have he : ends (iAt (l.set i z) (lst l 0 0)) = true := by
    rw [← h3]
    unfold ends
    by_cases hki : lst l 0 0 = i
    · rw [hat, if_pos hki, z2, hki]
    · rw [hat, if_neg hki]
  rw [hl, if_pos he]

end Go.Proofs.Ytplndcjmbgkcjaa
