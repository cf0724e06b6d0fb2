/-
  Rows of numbers as arguments of a law; the first ones of a row.
  Conditions: none.
-/
import Derived.Test.YtlgpollefkkbdaaHelp2
import Derived.Test.YtlgpollefkkbdaaBytOpen
namespace Go.Proofs.Ytlgpollefkkbdaa
open Go.ChangeShapes Go.WideShapes Go.RowKit Go.Deep
set_option maxRecDepth 100000
set_option linter.unusedVariables false

section
variable {H : Type} {enc : TypeId × Value → H} {w : World} {base : Nat} {spare : Nat → Bool} {held : Bool}

theorem open_nums {r : Reach} {b0 : Nat} {v : Value} {d : DataW H} {p : List MemPlace} (hv : Value.okWide Try.prog w r b0 22 v) (h : DataW.Trod enc Try.prog w base (fun _ => true) held 22 v d p) :
    ∃ (A : Option Addr) (c : Nat) (b : List Int), v = .slice A b.length c ∧ NumS w A b ∧ OkN b ∧ b.length ≤ c ∧ c ≤ maxLen ∧ (A = none → c = 0) := by
  obtain ⟨A, n, c, rfl⟩ := okWide_slice Try.underlying22 hv
  obtain ⟨fuel, hf⟩ := h
  rcases open_ints Try.underlying22 Try.underlying24 (by kernel_rfl) hf with ⟨hcs, _⟩ | ⟨x, l, cc, zs, hcs, _, hl, hm, hz, _, hcell, hwz⟩
  · simp [Value.cells] at hcs
    obtain ⟨rfl, rfl, rfl⟩ := hcs
    exact ⟨none, 0, [], rfl, NumS.none_ _ _, fun k hk => absurd hk (by simp), Nat.le_refl _, Nat.zero_le _, fun _ => rfl⟩
  · simp [Value.cells] at hcs
    obtain ⟨rfl, rfl, rfl⟩ := hcs
    have hzl : zs.length = c := by simpa using hz
    have hl2 : (zs.take n).length = n := by rw [List.length_take]; omega
    have hA : ∀ k, k < n → bAt (zs.take n) k = zs.getD k 0 := fun k hk => by
      unfold bAt
      rw [List.getD_eq_getElem?_getD, List.getElem?_take, if_pos hk, ← List.getD_eq_getElem?_getD]
    refine ⟨some x, _, zs.take n, by rw [hl2], fun h0 => ?_, fun k hk => ?_, by rw [hl2]; exact hl, hm, fun e => by cases e⟩
    · rw [hl2] at h0
      obtain ⟨g, o, spot⟩ := x
      have hc0 := hcell 0 (by omega)
      have hspot : spot = none := by simpa [Addr.add] using World.cell?_spot hc0
      subst hspot
      refine ⟨g, o, rfl, ?_, fun k hk => ?_⟩
      · have := lt_of_cell hc0
        rwa [add_spotless] at this
      · rw [hl2] at hk
        rw [hA k hk]
        have := hcell k (by omega)
        rwa [add_spotless] at this
    · rw [hl2] at hk
      rw [hA k hk, List.getD_eq_getElem?_getD, List.getElem?_eq_getElem (by omega)]
      exact bounds_u64 (hwz _ (List.getElem_mem (by omega)))
end
/-- The first ones. -/
theorem few_nums {w : World} {A : Option Addr} {b : List Int} (h : NumS w A b) (ho : OkN b) (m : Nat) : NumS w A (b.take m) ∧ OkN (b.take m) := by
  refine ⟨fun hl => ?_, okN_take ho m⟩
  rw [List.length_take] at hl
  obtain ⟨g, o, e, hg, hc⟩ := h (by omega)
  refine ⟨g, o, e, hg, fun k hk => ?_⟩
  rw [List.length_take] at hk
  rw [bAt_take b m k (by omega)]
  exact hc k (by omega)

end Go.Proofs.Ytlgpollefkkbdaa
