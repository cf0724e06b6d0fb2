/-
  A slice that reads as a row of bytes; rows of bytes and of instructions that the call made itself.
  Conditions: none.
-/
import Derived.Test.YtplndcjmbgkcjaaInsRow
import Derived.Test.YtplndcjmbgkcjaaCodeDec
import Derived.Laws.OwnMore
import Derived.Laws.MakeOwn
import Derived.Deep.AppendLies
import Derived.Maps.AppendAt
import Derived.OwnWalk
namespace Go.Proofs.Ytplndcjmbgkcjaa
open Go Go.RowKit
set_option linter.unusedVariables false
set_option linter.unusedSimpArgs false

/-- A slice's address reads as a row of bytes. -/
def BytS (w : World) (A : Option Addr) (b : List Int) : Prop :=
  0 < b.length → ∃ g o, A = some ⟨g, o, none⟩ ∧ g < w.heap.size ∧ ∀ k, k < b.length → w.cell? ⟨g, o + k, none⟩ = some (.int .u8 (bAt b k))
theorem BytS.none_ (w : World) (A : Option Addr) : BytS w A [] := fun h => absurd h (by simp)
theorem BytS.after {w w' : World} {A : Option Addr} {b : List Int} (h : BytS w A b) (k : Below w.heap.size w w') : BytS w' A b := fun hl => by
  obtain ⟨g, o, e, hg, hc⟩ := h hl
  exact ⟨g, o, e, Nat.lt_of_lt_of_le hg k.size, fun j hj => (k.cell (p := ⟨g, o + j, none⟩) hg).trans (hc j hj)⟩
/-- The cells of bytes. -/
def byC (b : List Int) : List Value := b.map fun x => .int .u8 x
theorem byC_len (b : List Int) : (byC b).length = b.length := by simp [byC]
theorem byC_at (b : List Int) {k : Nat} (h : k < b.length) : (byC b)[k]? = some (.int .u8 (bAt b k)) := by
  simp [byC, bAt, List.getD_eq_getElem?_getD, List.getElem?_eq_getElem h]
theorem byC_one (b : List Int) : ∀ u ∈ byC b, u.oneCell' = true := by
  intro u hu
  simp only [byC, List.mem_map] at hu
  obtain ⟨x, _, rfl⟩ := hu
  rfl
theorem byC_app (a b : List Int) : byC (a ++ b) = byC a ++ byC b := by simp [byC]
/-- The cells of instructions. -/
def cI (x : Ins) : List Value := [.int .u8 x.op, .int .u8 x.dst, .int .u8 x.src, .int .i16 x.off, .int .i32 x.imm]
def inC (l : List Ins) : List Value := l.flatMap cI
theorem inC_len (l : List Ins) : (inC l).length = l.length * 5 := by
  induction l with
  | nil => rfl
  | cons x l ih =>
    show (cI x ++ inC l).length = _
    rw [List.length_append, ih]
    simp [cI]
    omega
theorem inC_app (a b : List Ins) : inC (a ++ b) = inC a ++ inC b := by simp [inC]
theorem inC_one (l : List Ins) : ∀ u ∈ inC l, u.oneCell' = true := by
  intro u hu
  simp only [inC, List.mem_flatMap] at hu
  obtain ⟨x, _, hx⟩ := hu
  simp only [cI, List.mem_cons, List.not_mem_nil, or_false] at hx
  rcases hx with rfl | rfl | rfl | rfl | rfl <;> rfl
theorem inC_at (l : List Ins) (k r : Nat) (h : k < l.length) (hr : r < 5) : (inC l)[k * 5 + r]? = (cI (iAt l k))[r]? := by
  induction l generalizing k with
  | nil => simp at h
  | cons x l ih =>
    have e : inC (x :: l) = cI x ++ inC l := rfl
    have hx : (cI x).length = 5 := rfl
    cases k with
    | zero =>
      rw [e, List.getElem?_append_left (by rw [hx]; omega)]
      simp [iAt]
    | succ k =>
      rw [e, List.getElem?_append_right (by rw [hx]; omega), hx]
      have := ih k (by simpa using h)
      rw [show (k + 1) * 5 + r - 5 = k * 5 + r by omega, this]
      simp [iAt]
theorem inC_set (l : List Ins) (k : Nat) (x : Ins) (h : k < l.length) :
    (((((inC l).set (k * 5) (.int .u8 x.op)).set (k * 5 + 1) (.int .u8 x.dst)).set (k * 5 + 2) (.int .u8 x.src)).set (k * 5 + 3) (.int .i16 x.off)).set (k * 5 + 4) (.int .i32 x.imm) = inC (l.set k x) := by
  apply List.ext_getElem?
  intro j
  by_cases hj : j < l.length * 5
  · have e1 : j = (j / 5) * 5 + j % 5 := by omega
    have h1 := inC_at (l.set k x) (j / 5) (j % 5) (by rw [List.length_set]; omega) (by omega)
    have h2 := inC_at l (j / 5) (j % 5) (by omega) (by omega)
    rw [← e1] at h1 h2
    rw [h1]
    simp only [List.getElem?_set, List.length_set, inC_len, h2]
    by_cases hk : j / 5 = k
    · have hx : iAt (l.set k x) (j / 5) = x := by
        unfold iAt
        rw [hk, List.getD_eq_getElem?_getD, List.getElem?_set, if_pos rfl, if_pos h]
        rfl
      rw [hx]
      have hr : j % 5 = 0 ∨ j % 5 = 1 ∨ j % 5 = 2 ∨ j % 5 = 3 ∨ j % 5 = 4 := by omega
      rcases hr with hr | hr | hr | hr | hr
      · rw [hr, if_neg (by omega), if_neg (by omega), if_neg (by omega), if_neg (by omega), if_pos (by omega), if_pos (by omega)]; rfl
      · rw [hr, if_neg (by omega), if_neg (by omega), if_neg (by omega), if_pos (by omega), if_pos (by omega)]; rfl
      · rw [hr, if_neg (by omega), if_neg (by omega), if_pos (by omega), if_pos (by omega)]; rfl
      · rw [hr, if_neg (by omega), if_pos (by omega), if_pos (by omega)]; rfl
      · rw [hr, if_pos (by omega), if_pos (by omega)]; rfl
    · have hx : iAt (l.set k x) (j / 5) = iAt l (j / 5) := by
        unfold iAt
        rw [List.getD_eq_getElem?_getD, List.getD_eq_getElem?_getD, List.getElem?_set, if_neg (fun e => hk e.symm)]
      rw [hx, if_neg (by omega), if_neg (by omega), if_neg (by omega), if_neg (by omega), if_neg (by omega)]
  · rw [List.getElem?_eq_none (by simp [inC_len]; omega), List.getElem?_eq_none (by simp [inC_len]; omega)]

section
variable {w w' : World} {base : Nat} {e : TypeId} {c : Nat} {A : Option Addr}
theorem own_addr {size n : Nat} {xs : List Value} (h : w.ownsRow base e size (.slice A n c) n xs) (hn : 0 < n) : ∃ g, A = some ⟨g, 0, none⟩ ∧ base ≤ g ∧ g < w.heap.size := by
  obtain ⟨g, cap, hv, hb, hlt⟩ := h.form hn
  injection hv with hA
  exact ⟨g, hA, hb, hlt⟩
theorem own_bytS {b : List Int} {n : Nat} (hn : n = b.length) (h : w.ownsRow base e 1 (.slice A n c) n (byC b)) : BytS w A b := fun hl => by
  subst hn
  obtain ⟨g, rfl, _, hg⟩ := own_addr h hl
  refine ⟨g, 0, rfl, hg, fun k hk => ?_⟩
  rw [Nat.zero_add, h.cellAt k (by omega), byC_at b hk]
theorem own_insS {l : List Ins} {n : Nat} (hn : n = l.length) (h : w.ownsRow base e 5 (.slice A n c) n (inC l)) : InsS w A l := fun hl => by
  subst hn
  obtain ⟨g, rfl, _, hg⟩ := own_addr h hl
  have hc : ∀ k r, k < l.length → r < 5 → w.cell? ⟨g, 0 + k * 5 + r, none⟩ = (cI (iAt l k))[r]? := fun k r hk hr => by
    rw [Nat.zero_add, h.cellAt _ (by omega), inC_at l k r hk hr]
  refine ⟨g, 0, rfl, hg, fun k hk => ⟨?_, ?_, ?_, ?_, ?_⟩⟩
  · exact hc k 0 hk (by omega)
  · exact hc k 1 hk (by omega)
  · exact hc k 2 hk (by omega)
  · exact hc k 3 hk (by omega)
  · exact hc k 4 hk (by omega)
end

end Go.Proofs.Ytplndcjmbgkcjaa
