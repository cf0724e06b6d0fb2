/-
  Layer 10: rows of numbers; what is drawn, as plain numbers; the program's cut.
  Conditions: the numbers fit their kinds.
-/
import Derived.Test.YtlgpollefkkbdaaHelp1
import Derived.Test.YtlgpollefkkbdaaAppNone
namespace Go.Proofs.Ytlgpollefkkbdaa
open Go.RowKit
set_option maxRecDepth 100000
set_option linter.unusedVariables false
set_option linter.unusedSimpArgs false

/-- A slice's address reads as a row of numbers. -/
def NumS (w : World) (A : Option Addr) (b : List Int) : Prop :=
  0 < b.length → ∃ g o, A = some ⟨g, o, none⟩ ∧ g < w.heap.size ∧ ∀ k, k < b.length → w.cell? ⟨g, o + k, none⟩ = some (.int .u64 (bAt b k))
theorem NumS.none_ (w : World) (A : Option Addr) : NumS w A [] := fun h => absurd h (by simp)
theorem NumS.after {w w' : World} {A : Option Addr} {b : List Int} (h : NumS w A b) (k : Below w.heap.size w w') : NumS w' A b := fun hl => by
  obtain ⟨g, o, e, hg, hc⟩ := h hl
  exact ⟨g, o, e, Nat.lt_of_lt_of_le hg k.size, fun j hj => (k.cell (p := ⟨g, o + j, none⟩) hg).trans (hc j hj)⟩
/-- Each is a number of 64 bits. -/
def OkN (b : List Int) : Prop := ∀ k, k < b.length → 0 ≤ bAt b k ∧ bAt b k ≤ 18446744073709551615
def nuC (b : List Int) : List Value := b.map fun x => .int .u64 x
theorem nuC_len (b : List Int) : (nuC b).length = b.length := by simp [nuC]
theorem nuC_at (b : List Int) {k : Nat} (h : k < b.length) : (nuC b)[k]? = some (.int .u64 (bAt b k)) := by
  simp [nuC, bAt, List.getD_eq_getElem?_getD, List.getElem?_eq_getElem h]
theorem nuC_one (b : List Int) : ∀ u ∈ nuC b, u.oneCell' = true := by
  intro u hu
  simp only [nuC, List.mem_map] at hu
  obtain ⟨x, _, rfl⟩ := hu
  rfl
theorem nuC_app (a b : List Int) : nuC (a ++ b) = nuC a ++ nuC b := by simp [nuC]
theorem nuC_set (b : List Int) (j : Nat) (v : Int) : (nuC b).set j (.int .u64 v) = nuC (b.set j v) := by simp [nuC, List.map_set]
theorem own_numS {w : World} {base : Nat} {e : TypeId} {c : Nat} {A : Option Addr} {b : List Int} {n : Nat} (hn : n = b.length) (h : w.ownsRow base e 1 (.slice A n c) n (nuC b)) : NumS w A b := fun hl => by
  subst hn
  obtain ⟨g, rfl, _, hg⟩ := own_addr h hl
  refine ⟨g, 0, rfl, hg, fun k hk => ?_⟩
  rw [Nat.zero_add, h.cellAt k (by omega), nuC_at b hk]
theorem num_news {w : World} {g o : Nat} {b : List Int} (h : ∀ k, k < b.length → w.cell? ⟨g, o + k, none⟩ = some (.int .u64 (bAt b k))) : ∀ j u, (nuC b)[j]? = some u → w.cell? ((⟨g, o, none⟩ : Addr).add j) = some u := by
  intro j u hu
  have hadd : (⟨g, o, none⟩ : Addr).add j = ⟨g, o + j, none⟩ := by unfold Addr.add; split <;> simp_all
  have hj : j < b.length := by
    rcases Nat.lt_or_ge j b.length with k | k
    · exact k
    · rw [List.getElem?_eq_none (by rw [nuC_len]; exact k)] at hu; cases hu
  rw [hadd, h j hj, ← hu, nuC_at b hj]
theorem bAt_drop (b : List Int) (p k : Nat) : bAt (b.drop p) k = bAt b (p + k) := by
  unfold bAt
  rw [List.getD_eq_getElem?_getD, List.getD_eq_getElem?_getD, List.getElem?_drop]
theorem bAt_take (b : List Int) (p k : Nat) (h : k < p) : bAt (b.take p) k = bAt b k := by
  unfold bAt
  rw [List.getD_eq_getElem?_getD, List.getD_eq_getElem?_getD, List.getElem?_take, if_pos h]
theorem okN_drop {b : List Int} (h : OkN b) (p : Nat) : OkN (b.drop p) := fun k hk => by
  rw [List.length_drop] at hk
  rw [bAt_drop]
  exact h (p + k) (by omega)
theorem okN_take {b : List Int} (h : OkN b) (p : Nat) : OkN (b.take p) := fun k hk => by
  rw [List.length_take] at hk
  rw [bAt_take b p k (by omega)]
  exact h k (by omega)
/-- The row from a place on. -/
theorem NumS.tail {w : World} {g o : Nat} {b : List Int} (hg : g < w.heap.size) (h : ∀ k, k < b.length → w.cell? ⟨g, o + k, none⟩ = some (.int .u64 (bAt b k))) (p : Nat) :
    ∀ k, k < (b.drop p).length → w.cell? ⟨g, o + p + k, none⟩ = some (.int .u64 (bAt (b.drop p) k)) := fun k hk => by
  rw [List.length_drop] at hk
  rw [bAt_drop, Nat.add_assoc]
  exact h (p + k) (by omega)

/-- What is drawn of n. -/
def hCut (n m : Int) : Int := if m == hAll then n else n % (m + 1)
/-- What is drawn, what is left, and the error. -/
def hDr (i : Int) (l : List Int) : Int × List Int × Int :=
  if (hOk i && (hS i).draws) = true then (match l with | [] => (0, [], 100) | n :: r => (hCut n (hS i).most, r, 0)) else (0, [], 1)
def DrawW (r : Int × List Int × Int) (w : World) (e : Ending) (w' : World) : Prop :=
  ∃ A c, e = .returned (.tuple #[.int .u64 r.1, .slice A r.2.1.length c, .int .i64 r.2.2]) ∧ Below w.heap.size w w' ∧ w'.ownsRow w.heap.size 24 1 (.slice A r.2.1.length c) r.2.1.length (nuC r.2.1)
theorem drawW_none {w w' : World} (n e : Int) (h : Below w.heap.size w w') : DrawW (n, [], e) w (.returned (.tuple #[.int .u64 n, .slice none 0 0, .int .i64 e])) w' :=
  ⟨none, 0, rfl, h, ⟨by simp [nuC], .inl ⟨rfl, rfl⟩⟩⟩
theorem hS_most (i : Int) : 0 ≤ (hS i).most ∧ (hS i).most ≤ 18446744073709551615 := by
  rcases hS_ways i with rfl | rfl | rfl | rfl | rfl | rfl | rfl | h
  all_goals first | exact (by decide) | skip
  rw [(hS_none h).1]
  exact (by decide)

set_option maxHeartbeats 1000000 in
theorem h10_cut (n m : Int) (w : World) (hn : 0 ≤ n ∧ n ≤ 18446744073709551615) (hm : 0 ≤ m ∧ m ≤ 18446744073709551615) :
    Calls Try.prog 18 #[.int .u64 n, .int .u64 m] w (Gives (.int .u64 (hCut n m)) w) := by
  unfold hCut hAll
  cases h : (m == 18446744073709551615)
  · rw [if_neg Bool.false_ne_true]
    have hne : m ≠ 18446744073709551615 := by simpa using h
    have e : IntKind.u64.wrap (m + 1) = m + 1 := by rw [IntKind.wrap_u64]; omega
    have e2 : n.tmod (m + 1) = n % (m + 1) := Int.tmod_eq_emod_of_nonneg hn.1
    have e3 : IntKind.u64.wrap (n % (m + 1)) = n % (m + 1) := by
      have h1 := Int.emod_nonneg n (show m + 1 ≠ 0 by omega)
      have h2 := Int.emod_lt_of_pos n (show 0 < m + 1 by omega)
      rw [IntKind.wrap_u64]; omega
    have e4 : ((m + 1) == 0) = false := by simp; omega
    go_enter Try.func18, Try.ntmps18
    go_wp2_with fail
    go_ret
    exact ⟨rfl, Below.refl _ _⟩
  · rw [if_pos rfl]
    go_enter Try.func18, Try.ntmps18
    go_wp2_with fail
    go_ret
    exact ⟨rfl, Below.refl _ _⟩

end Go.Proofs.Ytlgpollefkkbdaa
