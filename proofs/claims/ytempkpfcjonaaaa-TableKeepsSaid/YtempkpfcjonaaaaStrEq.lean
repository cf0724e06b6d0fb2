/-
  Strings of bytes: when two are one. No program is named here.
  Conditions: none.
-/
import Derived.Test.YtempkpfcjonaaaaByt
import Derived.Laws.BytesArg
import Derived.Lib.Strings
namespace Go.Proofs.Ytempkpfcjonaaaa
open Go Go.RowKit
set_option maxRecDepth 100000
set_option linter.unusedVariables false
set_option linter.unusedSimpArgs false

theorem str_inj {a b : List Int} (ha : OkB a) (hb : OkB b) (h : strOfNums a = strOfNums b) : a = b := by
  have e : (strOfNums a).data.toList = (strOfNums b).data.toList := by rw [h]
  rw [strOfNums_data, strOfNums_data] at e
  have hl : a.length = b.length := by have := congrArg List.length e; simpa using this
  refine byt_ext hl fun k hk => ?_
  have e2 := congrArg (fun l => l[k]?) e
  simp only [List.getElem?_map] at e2
  rw [List.getElem?_eq_getElem hk, List.getElem?_eq_getElem (by omega)] at e2
  simp only [Option.map_some, Option.some.injEq] at e2
  have h1 := ha k hk
  have h2 := hb k (by omega)
  unfold bAt at *
  rw [List.getD_eq_getElem?_getD, List.getElem?_eq_getElem hk] at *
  rw [List.getD_eq_getElem?_getD, List.getElem?_eq_getElem (by omega : k < b.length)] at *
  simp only [Option.getD_some] at *
  have e3 := congrArg UInt8.toNat e2
  simp only [UInt8.toNat_ofNat'] at e3
  omega
theorem str_list (a : List Int) : (strOfNums a).toList = a.map fun n => UInt8.ofNat n.toNat := by
  rw [← strOfNums_data]
  exact Lib.toList_data _
theorem okB_cons {x : Int} {l : List Int} (h : OkB (x :: l)) : (0 ≤ x ∧ x ≤ 255) ∧ OkB l :=
  ⟨by have := h 0 (by simp); simpa [bAt] using this, fun j hj => by have := h (j + 1) (by simpa using hj); simpa [bAt] using this⟩
theorem eq_str {a b : List Int} (ha : OkB a) (hb : OkB b) : ((strOfNums a).toList == (strOfNums b).toList) = (a == b) := by
  rw [Bool.eq_iff_iff, beq_iff_eq, beq_iff_eq]
  constructor
  · intro h
    refine str_inj ha hb ?_
    rw [str_list, str_list] at h
    unfold strOfNums
    rw [h]
  · intro h; rw [h]

end Go.Proofs.Ytempkpfcjonaaaa
