/-
  Plain rows: a part of an instruction behind a program; one byte of a program changed. No program is named here.
-/
import Derived.Test.YtplndcjmbgkcjaaCodeMath
import Derived.Test.YtplndcjmbgkcjaaCodeSame
import Derived.Test.YtplndcjmbgkcjaaTakeAt
namespace Go.Proofs.Ytplndcjmbgkcjaa
open Go Go.RowKit
set_option linter.unusedVariables false
set_option linter.unusedSimpArgs false

theorem decR_part {b : List Int} (h : b.length % 8 ≠ 0) : decR b = ([], 0, 70) := by unfold decR; rw [if_pos (Or.inl h)]
theorem bAt_set {b : List Int} {j : Nat} (hj : j < b.length) (v : Int) (k : Nat) : bAt (b.set j v) k = if k = j then v else bAt b k := by
  unfold bAt
  rw [List.getD_eq_getElem?_getD, List.getD_eq_getElem?_getD, List.getElem?_set]
  by_cases h : j = k
  · subst h
    rw [if_pos rfl, if_pos hj, if_pos rfl]
    rfl
  · rw [if_neg h, if_neg (fun e => h e.symm)]
theorem okB_set {b : List Int} (h : OkB b) {j : Nat} (hj : j < b.length) {v : Int} (hv : 0 ≤ v ∧ v ≤ 255) : OkB (b.set j v) := fun k hk => by
  rw [List.length_set] at hk
  rw [bAt_set hj]
  split
  · exact hv
  · exact h k hk
theorem byC_set (b : List Int) (j : Nat) (v : Int) : (byC b).set j (.int .u8 v) = byC (b.set j v) := by simp [byC, List.map_set]
theorem byC_zeros (k : Nat) : byC (List.replicate k 0) = List.replicate k (.int .u8 0) := by simp [byC]
theorem okB_app {a b : List Int} (h : OkB a) (h' : OkB b) : OkB (a ++ b) := fun k hk => by
  rw [List.length_append] at hk
  unfold bAt
  rw [List.getD_eq_getElem?_getD, List.getElem?_append]
  split
  · rename_i hlt
    have := h k hlt
    unfold bAt at this
    rw [List.getD_eq_getElem?_getD] at this
    exact this
  · have := h' (k - a.length) (by omega)
    unfold bAt at this
    rw [List.getD_eq_getElem?_getD] at this
    exact this
theorem okB_zeros (k : Nat) : OkB (List.replicate k 0) := fun j hj => by
  rw [List.length_replicate] at hj
  unfold bAt
  rw [List.getD_eq_getElem?_getD, List.getElem?_replicate, if_pos hj]
  simp
theorem byt_news {w : World} {g o : Nat} {b : List Int} (h : BytAt w g o b) : ∀ j u, (byC b)[j]? = some u → w.cell? ((⟨g, o, none⟩ : Addr).add j) = some u := by
  intro j u hu
  have hadd : (⟨g, o, none⟩ : Addr).add j = ⟨g, o + j, none⟩ := by unfold Addr.add; split <;> simp_all
  have hj : j < b.length := by
    rcases Nat.lt_or_ge j b.length with k | k
    · exact k
    · rw [List.getElem?_eq_none (by rw [byC_len]; exact k)] at hu; cases hu
  rw [hadd, h.2 j hj, ← hu, byC_at b hj]
/-- A program with one byte changed is another one, or none. -/
theorem cut_set {x : List Ins} {j : Nat} {v : Int} (hx : ∀ k, k < x.length → (iAt x k).ok) (h : (chk x).2 = 0) (hj : j < (encL x).length) (hv : 0 ≤ v ∧ v ≤ 255)
    (hs : (decR ((encL x).set j v)).2.2 = 0) : sameB (decR ((encL x).set j v)).1 x = (v == bAt (encL x) j) := by
  have hok := okB_set (encL_ok hx (chk_regs h)) hj hv
  obtain ⟨r1, _, _, r4, r5⟩ := decR_ok hok hs
  have e5 : encL (decL ((encL x).set j v)) = (encL x).set j v := by
    unfold encR at r5
    rw [if_pos r4] at r5
    exact congrArg Prod.fst r5
  cases hc : (v == bAt (encL x) j)
  · cases hm : sameB (decR ((encL x).set j v)).1 x
    · rfl
    · exfalso
      rw [sameB_iff, r1] at hm
      rw [hm] at e5
      have := bAt_set hj v j
      rw [← e5, if_pos rfl] at this
      rw [this] at hc
      simp at hc
  · have hv' := beq_iff_eq.mp hc
    have e : (encL x).set j v = encL x := by
      apply byt_ext (by rw [List.length_set])
      intro k hk
      rw [bAt_set hj]
      split
      · rename_i hkj; rw [hkj, hv']
      · rfl
    rw [e, decR_enc hx h, sameB_iff]

end Go.Proofs.Ytplndcjmbgkcjaa
