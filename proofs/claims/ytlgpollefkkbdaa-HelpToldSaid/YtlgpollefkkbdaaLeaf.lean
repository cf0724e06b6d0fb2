/-
  Arguments that are structs or arrays of integers and bools, opened cell by cell: whatever the nesting, each cell is a number of its kind, or a bool.
  Conditions: none; 'leafAt' computes of which kind a cell is.
-/
import Derived.Test.YtlgpollefkkbdaaRows
import Derived.WalkKit
import Derived.ProofKit
import Derived.OpenShut
namespace Go.Proofs.Ytlgpollefkkbdaa
open Go.ChangeShapes Go.WideShapes Go.RowKit

/-- A cell's kind: a number's, or (none) a bool. -/
def LeafOk : Option IntKind → Value → Prop
  | some k, v => ∃ n, v = .int k n ∧ (Lit.int k n).wf = true
  | none, v => ∃ b, v = .bool b

/-- Cell j of a value of type t, looked for n deep. -/
def leafAt (P : Program) : Nat → TypeId → Nat → Option (Option IntKind)
  | 0, _, _ => none
  | n + 1, t, j =>
    match P.underlying t with
    | some (.int k) => if j = 0 then some (some k) else none
    | some .bool => if j = 0 then some none else none
    | some (.struct fs) => (fs.toList.find? fun f => decide (f.offset ≤ j ∧ j < f.offset + P.cellsOf f.type)).bind fun f => leafAt P n f.type (j - f.offset)
    | some (.array m e) => if P.cellsOf e = 0 then none else if j < m * P.cellsOf e then leafAt P n e (j % P.cellsOf e) else none
    | _ => none

section
variable {H : Type} {enc : TypeId × Value → H} {P : Program} {w : World} {base : Nat} {spare : Nat → Bool} {held : Bool}

theorem leaf_of_trod : ∀ (n fuel : Nat) (t : TypeId) (cs : List Value) (x : DataW H × List MemPlace) (j : Nat) (L : Option IntKind),
    DataW.trod enc P w base spare held fuel t cs = some x → leafAt P n t j = some L → ∃ v, cs[j]? = some v ∧ LeafOk L v := by
  intro n
  induction n with
  | zero => intro fuel t cs x j L _ hl; simp [leafAt] at hl
  | succ n ih =>
    intro fuel t cs x j L h hl
    unfold leafAt at hl
    split at hl
    · rename_i k hk
      obtain ⟨m, rfl, _, hw⟩ := DataW.trod_int hk h
      split at hl
      · rename_i hj
        subst hj
        cases hl
        exact ⟨_, rfl, m, rfl, hw⟩
      · cases hl
    · rename_i hk
      obtain ⟨b, rfl, _⟩ := DataW.trod_bool hk h
      split at hl
      · rename_i hj
        subst hj
        cases hl
        exact ⟨_, rfl, b, rfl⟩
      · cases hl
    · rename_i fs hk
      obtain ⟨xs, m, _, _, _, hlen, hf⟩ := DataW.trod_struct hk h
      obtain ⟨f, hfind, hrest⟩ := Option.bind_eq_some_iff.1 hl
      have hmem := List.mem_of_find?_eq_some hfind
      have hp := List.find?_some hfind
      simp only [decide_eq_true_eq] at hp
      obtain ⟨i, hi, hget⟩ := List.getElem_of_mem hmem
      have hif : fs[i]? = some f := by
        have : i < fs.size := by simpa using hi
        rw [Array.getElem?_eq_getElem this]
        simpa using hget
      have hx : xs[i]? = some (xs[i]'(by rw [hlen]; simpa using hi)) := List.getElem?_eq_getElem _
      have h1 := (hf i f hif).trans hx
      obtain ⟨v, hv, hok⟩ := ih _ _ _ _ _ _ h1 hrest
      refine ⟨v, ?_, hok⟩
      rw [List.getElem?_take, if_pos (by omega), List.getElem?_drop] at hv
      rw [← hv]
      congr 1
      omega
    · rename_i m e hk
      obtain ⟨xs, k, _, _, _, hlen, hf⟩ := DataW.trod_array hk h
      split at hl
      · cases hl
      · rename_i hne
        split at hl
        · rename_i hlt
          have hpos : 0 < P.cellsOf e := Nat.pos_of_ne_zero hne
          have hdm := Nat.div_add_mod j (P.cellsOf e)
          have hq : j / P.cellsOf e < m := (Nat.div_lt_iff_lt_mul hpos).2 hlt
          have hr := Nat.mod_lt j hpos
          have hx : xs[j / P.cellsOf e]? = some (xs[j / P.cellsOf e]'(by omega)) := List.getElem?_eq_getElem _
          have h1 := (hf _ hq).trans hx
          obtain ⟨v, hv, hok⟩ := ih _ _ _ _ _ _ h1 hl
          refine ⟨v, ?_, hok⟩
          rw [List.getElem?_take, if_pos hr, List.getElem?_drop] at hv
          rw [← hv]
          congr 1
          rw [Nat.mul_comm] at hdm
          omega
        · cases hl
    · cases hl

/-- A value that reads: cell j of it. -/
theorem leaf_of_Trod {t : TypeId} {v : Value} {d : DataW H} {p : List MemPlace} (h : DataW.Trod enc P w base spare held t v d p) (n j : Nat) {L : Option IntKind} (hl : leafAt P n t j = some L) :
    ∃ u, v.cells.toList[j]? = some u ∧ LeafOk L u := by
  obtain ⟨fuel, hf⟩ := h
  exact leaf_of_trod n fuel t _ _ j L hf hl

theorem agg_of_struct {r : Reach} {b0 : Nat} {t : TypeId} {fs : Array Field} {v : Value} (ht : P.underlying t = some (.struct fs)) (hv : Value.okWide P w r b0 t v) :
    ∃ l : List Value, v = .agg ⟨l⟩ ∧ l.length = P.cellsOf t := by
  obtain ⟨cs, rfl, hs⟩ := okWide_struct ht hv
  exact ⟨cs.toList, by simp, by simpa using hs⟩
theorem agg_of_array {r : Reach} {b0 : Nat} {t e : TypeId} {n : Nat} {v : Value} (ht : P.underlying t = some (.array n e)) (hv : Value.okWide P w r b0 t v) :
    ∃ l : List Value, v = .agg ⟨l⟩ ∧ l.length = P.cellsOf t := by
  simp only [Value.okWide, ht] at hv
  obtain ⟨cs, rfl, hs, _⟩ := hv
  exact ⟨cs.toList, by simp, by simpa using hs⟩
end

theorem LeafOk.int_ {k : IntKind} {l : List Value} {j : Nat} (h : ∃ u, l[j]? = some u ∧ LeafOk (some k) u) : ∃ n, l[j]? = some (.int k n) ∧ (Lit.int k n).wf = true := by
  obtain ⟨u, hu, n, rfl, hw⟩ := h
  exact ⟨n, hu, hw⟩
theorem LeafOk.bool_ {l : List Value} {j : Nat} (h : ∃ u, l[j]? = some u ∧ LeafOk none u) : ∃ b, l[j]? = some (.bool b) := by
  obtain ⟨u, hu, b, rfl⟩ := h
  exact ⟨b, hu⟩

end Go.Proofs.Ytlgpollefkkbdaa
