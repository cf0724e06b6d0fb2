/-
  Rows of bytes as arguments of a law.
  Conditions: none.
-/
import Derived.Test.YtlgpollefkkbdaaLeaf
import Derived.Test.YtlgpollefkkbdaaBase
import Derived.Test.YtlgpollefkkbdaaByt
import Derived.Deep.Slices
import Derived.ChangeSlices
namespace Go.Proofs.Ytlgpollefkkbdaa
open Go.ChangeShapes Go.WideShapes Go.RowKit Go.Deep
set_option maxRecDepth 100000
set_option linter.unusedVariables false

theorem lt_of_cell {w : World} {a : Addr} {v : Value} (h : w.cell? a = some v) : a.block < w.heap.size := by
  rcases Nat.lt_or_ge a.block w.heap.size with k | k
  · exact k
  · simp [World.cell?, Array.getElem?_eq_none k] at h
theorem add_spotless (g o k : Nat) : (⟨g, o, none⟩ : Addr).add k = ⟨g, o + k, none⟩ := by
  unfold Addr.add
  split <;> simp_all
section
variable {H : Type} {enc : TypeId × Value → H} {w : World} {base : Nat} {spare : Nat → Bool} {held : Bool}

theorem open_bytes {r : Reach} {b0 : Nat} {v : Value} {d : DataW H} {p : List MemPlace} (hv : Value.okWide Try.prog w r b0 23 v) (h : DataW.Trod enc Try.prog w base (fun _ => true) held 23 v d p) :
    ∃ (A : Option Addr) (c : Nat) (b : List Int), v = .slice A b.length c ∧ BytS w A b ∧ OkB b ∧ b.length ≤ c ∧ c ≤ maxLen := by
  obtain ⟨A, n, c, rfl⟩ := okWide_slice Try.underlying23 hv
  obtain ⟨fuel, hf⟩ := h
  rcases open_ints Try.underlying23 Try.underlying5 (by kernel_rfl) hf with ⟨hcs, _⟩ | ⟨x, l, cc, zs, hcs, _, hl, hm, hz, _, hcell, hwz⟩
  · simp [Value.cells] at hcs
    obtain ⟨rfl, rfl, rfl⟩ := hcs
    exact ⟨none, 0, [], rfl, BytS.none_ _ _, fun k hk => absurd hk (by simp), Nat.le_refl _, Nat.zero_le _⟩
  · simp [Value.cells] at hcs
    obtain ⟨rfl, rfl, rfl⟩ := hcs
    have hzl : zs.length = c := by simpa using hz
    have hl2 : (zs.take n).length = n := by rw [List.length_take]; omega
    have hA : ∀ k, k < n → bAt (zs.take n) k = zs.getD k 0 := fun k hk => by
      unfold bAt
      rw [List.getD_eq_getElem?_getD, List.getElem?_take, if_pos hk, ← List.getD_eq_getElem?_getD]
    refine ⟨some x, _, zs.take n, by rw [hl2], fun h0 => ?_, fun k hk => ?_, by rw [hl2]; exact hl, hm⟩
    · rw [hl2] at h0
      obtain ⟨g, o, spot⟩ := x
      have hc0 := hcell 0 (by omega)
      have hspot : spot = none := by simpa [Addr.add] using World.cell?_spot hc0
      subst hspot
      refine ⟨g, o, rfl, ?_, fun k hk => ?_⟩
      · have := lt_of_cell hc0
        rwa [add_spotless] at this
      · rw [hl2] at hk
        rw [hA k hk]
        have := hcell k (by omega)
        rwa [add_spotless] at this
    · rw [hl2] at hk
      rw [hA k hk, List.getD_eq_getElem?_getD, List.getElem?_eq_getElem (by omega)]
      exact bounds_u8 (hwz _ (List.getElem_mem (by omega)))
end

end Go.Proofs.Ytlgpollefkkbdaa
