/-
  Rows of bytes: plain, in memory, and such that the call made itself.
  Conditions: none.
-/
import Derived.Test.YtempkpfcjonaaaaGives
import Derived.Laws.OwnMore
import Derived.Laws.MakeOwn
import Derived.Deep.AppendLies
import Derived.Maps.AppendAt
import Derived.OwnWalk
namespace Go.Proofs.Ytempkpfcjonaaaa
open Go Go.RowKit
set_option linter.unusedVariables false
set_option linter.unusedSimpArgs false

def bAt (b : List Int) (k : Nat) : Int := b.getD k 0
/-- Each is a byte. -/
def OkB (b : List Int) : Prop := ∀ k, k < b.length → 0 ≤ bAt b k ∧ bAt b k ≤ 255
/-- A slice's address reads as a row of bytes. -/
def BytS (w : World) (A : Option Addr) (b : List Int) : Prop :=
  0 < b.length → ∃ g o, A = some ⟨g, o, none⟩ ∧ g < w.heap.size ∧ ∀ k, k < b.length → w.cell? ⟨g, o + k, none⟩ = some (.int .u8 (bAt b k))
theorem BytS.none_ (w : World) (A : Option Addr) : BytS w A [] := fun h => absurd h (by simp)
theorem BytS.after {w w' : World} {A : Option Addr} {b : List Int} (h : BytS w A b) (k : Below w.heap.size w w') : BytS w' A b := fun hl => by
  obtain ⟨g, o, e, hg, hc⟩ := h hl
  exact ⟨g, o, e, Nat.lt_of_lt_of_le hg k.size, fun j hj => (k.cell (p := ⟨g, o + j, none⟩) hg).trans (hc j hj)⟩
/-- The cells of bytes. -/
def byC (b : List Int) : List Value := b.map fun x => .int .u8 x
theorem byC_len (b : List Int) : (byC b).length = b.length := by simp [byC]
theorem byC_at (b : List Int) {k : Nat} (h : k < b.length) : (byC b)[k]? = some (.int .u8 (bAt b k)) := by
  simp [byC, bAt, List.getD_eq_getElem?_getD, List.getElem?_eq_getElem h]
theorem byC_one (b : List Int) : ∀ u ∈ byC b, u.oneCell' = true := by
  intro u hu
  simp only [byC, List.mem_map] at hu
  obtain ⟨x, _, rfl⟩ := hu
  rfl
theorem byC_app (a b : List Int) : byC (a ++ b) = byC a ++ byC b := by simp [byC]
/-- Bytes of a row, in a world. -/
def BytAt (w : World) (g o : Nat) (b : List Int) : Prop := g < w.heap.size ∧ ∀ k, k < b.length → w.cell? ⟨g, o + k, none⟩ = some (.int .u8 (bAt b k))
theorem BytAt.after {w w' : World} {g o : Nat} {b : List Int} (h : BytAt w g o b) (k : Below w.heap.size w w') : BytAt w' g o b :=
  ⟨Nat.lt_of_lt_of_le h.1 k.size, fun j hj => (k.cell (p := ⟨g, o + j, none⟩) h.1).trans (h.2 j hj)⟩
section
variable {w w' : World} {base : Nat} {e : TypeId} {c : Nat} {A : Option Addr}
theorem own_addr {size n : Nat} {xs : List Value} (h : w.ownsRow base e size (.slice A n c) n xs) (hn : 0 < n) : ∃ g, A = some ⟨g, 0, none⟩ ∧ base ≤ g ∧ g < w.heap.size := by
  obtain ⟨g, cap, hv, hb, hlt⟩ := h.form hn
  injection hv with hA
  exact ⟨g, hA, hb, hlt⟩
theorem own_bytS {b : List Int} {n : Nat} (hn : n = b.length) (h : w.ownsRow base e 1 (.slice A n c) n (byC b)) : BytS w A b := fun hl => by
  subst hn
  obtain ⟨g, rfl, _, hg⟩ := own_addr h hl
  refine ⟨g, 0, rfl, hg, fun k hk => ?_⟩
  rw [Nat.zero_add, h.cellAt k (by omega), byC_at b hk]
end
theorem own_after {w w' : World} {base size n : Nat} {e : TypeId} {v : Value} {xs : List Value} (h : w.ownsRow base e size v n xs) (b : Below w.heap.size w w') : w'.ownsRow base e size v n xs := by
  refine ⟨h.1, ?_⟩
  rcases h.2 with hn | ⟨g, cap, cur, rfl, hb, hgg, rest⟩
  · exact .inl hn
  · exact .inr ⟨g, cap, cur, rfl, hb, (b.block g (Array.getElem?_eq_some_iff.1 hgg).1).trans hgg, rest⟩
theorem own_slice {w : World} {base size n : Nat} {e : TypeId} {v : Value} {xs : List Value} (h : w.ownsRow base e size v n xs) : ∃ A c, v = .slice A n c ∧ n ≤ c ∧ c ≤ maxLen := by
  rcases h.2 with ⟨rfl, rfl⟩ | ⟨g, cap, cur, rfl, _, _, h1, h2, _⟩
  · exact ⟨none, 0, rfl, Nat.le_refl _, Nat.zero_le _⟩
  · exact ⟨_, cap, rfl, h1, h2⟩
theorem below_own {w0 w w' : World} {base size n : Nat} {e : TypeId} {v : Value} {xs : List Value} (B : Below base w0 w) (h : w.ownsRow base e size v n xs) (hb : base ≤ w.heap.size) (hg : w.grownBy w' v.ownBlock) : Below base w0 w' :=
  B.grown hg hb (fun k hk => (h.lt k hk).1)
theorem byt_ext {l m : List Int} (h : l.length = m.length) (ha : ∀ k, k < l.length → bAt l k = bAt m k) : l = m := by
  apply List.ext_getElem h
  intro k h1 h2
  have := ha k h1
  unfold bAt at this
  rw [List.getD_eq_getElem?_getD, List.getD_eq_getElem?_getD, List.getElem?_eq_getElem h1, List.getElem?_eq_getElem h2] at this
  exact this
theorem bAt_set {b : List Int} {j : Nat} (hj : j < b.length) (v : Int) (k : Nat) : bAt (b.set j v) k = if k = j then v else bAt b k := by
  unfold bAt
  rw [List.getD_eq_getElem?_getD, List.getD_eq_getElem?_getD, List.getElem?_set]
  by_cases h : j = k
  · subst h
    rw [if_pos rfl, if_pos hj, if_pos rfl]
    rfl
  · rw [if_neg h, if_neg (fun e => h e.symm)]
theorem okB_set {b : List Int} (h : OkB b) {j : Nat} (hj : j < b.length) {v : Int} (hv : 0 ≤ v ∧ v ≤ 255) : OkB (b.set j v) := fun k hk => by
  rw [List.length_set] at hk
  rw [bAt_set hj]
  split
  · exact hv
  · exact h k hk
theorem byC_set (b : List Int) (j : Nat) (v : Int) : (byC b).set j (.int .u8 v) = byC (b.set j v) := by simp [byC, List.map_set]
theorem byC_zeros (k : Nat) : byC (List.replicate k 0) = List.replicate k (.int .u8 0) := by simp [byC]
theorem okB_app {a b : List Int} (h : OkB a) (h' : OkB b) : OkB (a ++ b) := fun k hk => by
  rw [List.length_append] at hk
  unfold bAt
  rw [List.getD_eq_getElem?_getD, List.getElem?_append]
  split
  · rename_i hlt
    have := h k hlt
    unfold bAt at this
    rw [List.getD_eq_getElem?_getD] at this
    exact this
  · have := h' (k - a.length) (by omega)
    unfold bAt at this
    rw [List.getD_eq_getElem?_getD] at this
    exact this
theorem okB_zeros (k : Nat) : OkB (List.replicate k 0) := fun j hj => by
  rw [List.length_replicate] at hj
  unfold bAt
  rw [List.getD_eq_getElem?_getD, List.getElem?_replicate, if_pos hj]
  simp
theorem byt_news {w : World} {g o : Nat} {b : List Int} (h : BytAt w g o b) : ∀ j u, (byC b)[j]? = some u → w.cell? ((⟨g, o, none⟩ : Addr).add j) = some u := by
  intro j u hu
  have hadd : (⟨g, o, none⟩ : Addr).add j = ⟨g, o + j, none⟩ := by unfold Addr.add; split <;> simp_all
  have hj : j < b.length := by
    rcases Nat.lt_or_ge j b.length with k | k
    · exact k
    · rw [List.getElem?_eq_none (by rw [byC_len]; exact k)] at hu; cases hu
  rw [hadd, h.2 j hj, ← hu, byC_at b hj]

end Go.Proofs.Ytempkpfcjonaaaa
