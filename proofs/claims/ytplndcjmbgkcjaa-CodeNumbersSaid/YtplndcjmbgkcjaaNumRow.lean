/-
  Rows of instructions that the call made itself: a copy of one that came in; one number of them changed.
  Conditions: none.
-/
import Derived.Test.YtplndcjmbgkcjaaCode11
import Derived.Test.YtplndcjmbgkcjaaCodeNum
namespace Go.Proofs.Ytplndcjmbgkcjaa
open Go Go.RowKit
set_option linter.unusedVariables false
set_option linter.unusedSimpArgs false

theorem ins_news {w : World} {g o : Nat} {l : List Ins} (h : ∀ k, k < l.length → InsAt w g (o + k * 5) (iAt l k)) : ∀ j u, (inC l)[j]? = some u → w.cell? ((⟨g, o, none⟩ : Addr).add j) = some u := by
  intro j u hu
  have hadd : (⟨g, o, none⟩ : Addr).add j = ⟨g, o + j, none⟩ := by unfold Addr.add; split <;> simp_all
  have hj : j < l.length * 5 := by
    rcases Nat.lt_or_ge j (l.length * 5) with k | k
    · exact k
    · rw [List.getElem?_eq_none (by rw [inC_len]; exact k)] at hu; cases hu
  have e := inC_at l (j / 5) (j % 5) (by omega) (by omega)
  rw [show j / 5 * 5 + j % 5 = j by omega, hu] at e
  obtain ⟨h0, h1, h2, h3, h4⟩ := h (j / 5) (by omega)
  rw [hadd]
  have hr : j % 5 = 0 ∨ j % 5 = 1 ∨ j % 5 = 2 ∨ j % 5 = 3 ∨ j % 5 = 4 := by omega
  rcases hr with hr | hr | hr | hr | hr
  · rw [hr] at e; rw [show o + j = o + j / 5 * 5 by omega, h0]; exact e.symm
  · rw [hr] at e; rw [show o + j = o + j / 5 * 5 + 1 by omega, h1]; exact e.symm
  · rw [hr] at e; rw [show o + j = o + j / 5 * 5 + 2 by omega, h2]; exact e.symm
  · rw [hr] at e; rw [show o + j = o + j / 5 * 5 + 3 by omega, h3]; exact e.symm
  · rw [hr] at e; rw [show o + j = o + j / 5 * 5 + 4 by omega, h4]; exact e.symm
theorem set_same {α : Type} : ∀ (l : List α) (k : Nat) (v : α), l[k]? = some v → l.set k v = l := by
  intro l
  induction l with
  | nil => intro k v h; rfl
  | cons x l ih =>
    intro k v h
    cases k with
    | zero => simp at h; simp [h]
    | succ k => simp at h; simp [ih k v h]
theorem inC_imm (l : List Ins) (j : Nat) (n : Int) (h : j < l.length) : (inC l).set (j * 5 + 4) (.int .i32 n) = inC (l.set j (withImm (iAt l j) n)) := by
  rw [← inC_set l j _ h]
  have c : ∀ r, r < 5 → (inC l)[j * 5 + r]? = (cI (iAt l j))[r]? := fun r hr => inC_at l j r h hr
  have e0 : (inC l).set (j * 5) (.int .u8 (withImm (iAt l j) n).op) = inC l := set_same _ _ _ (c 0 (by omega))
  have e1 : (inC l).set (j * 5 + 1) (.int .u8 (withImm (iAt l j) n).dst) = inC l := set_same _ _ _ (c 1 (by omega))
  have e2 : (inC l).set (j * 5 + 2) (.int .u8 (withImm (iAt l j) n).src) = inC l := set_same _ _ _ (c 2 (by omega))
  have e3 : (inC l).set (j * 5 + 3) (.int .i16 (withImm (iAt l j) n).off) = inC l := set_same _ _ _ (c 3 (by omega))
  rw [e0, e1, e2, e3]
  rfl
theorem okAll_set {l : List Ins} (h : OkAll l) {j : Nat} (hj : j < l.length) {z : Ins} (hz : z.ok) : OkAll (l.set j z) := fun k hk => by
  rw [List.length_set] at hk
  rw [iAt_set hj]
  split
  · exact hz
  · exact h k hk
theorem withImm_ok {x : Ins} (h : x.ok) {n : Int} (hn : -2147483648 ≤ n ∧ n ≤ 2147483647) : (withImm x n).ok := ⟨h.1, h.2.1, h.2.2.1, h.2.2.2.1, hn⟩
theorem append_none {P : Program} (w : World) (t ty e : TypeId) (i : TypeInfo) (ht : P.underlying t = some (.slice e)) (hi : P.info? e = some i) (b : Nat) (A : Option Addr) (c : Nat) :
    (Builtin.append_ #[t, t] ty #[.slice (some ⟨b, 0, none⟩) 0 0, .slice A 0 c]).run P w = .ok (.slice (some ⟨b, 0, none⟩) 0 0) w := by
  cases A <;> simp [Builtin.append_, run_underlying ht, sizeOf, typeInfo, hi, Builtin.lenOf, Builtin.firstCells, loadCells, loadCellsFrom, storeCells]

end Go.Proofs.Ytplndcjmbgkcjaa
