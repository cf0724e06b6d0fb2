/-
  Layer 9, plain: maps that are new: their numbers as keys, what they may be, step by step.
  Conditions: none.
-/
import Derived.Test.YtempkpfcjonaaaaTabPlain
namespace Go.Proofs.Ytempkpfcjonaaaa
open Go Go.RowKit
set_option maxRecDepth 100000
set_option linter.unusedVariables false
set_option linter.unusedSimpArgs false

/-- A number's key. -/
def numK (k : Nat) : TK := ⟨[(k : Int), 0, 0, 0], k⟩
theorem numL_succ (n : Nat) : numL (n + 1) = numL n ++ [numK n] := by
  unfold numL
  rw [List.range_succ, List.map_append]
  rfl
theorem numL_len (n : Nat) : (numL n).length = n := by simp [numL]
theorem numL_mem {n : Nat} {x : TK} (h : x ∈ numL n) : ∃ k, k < n ∧ x = numK k := by
  unfold numL at h
  obtain ⟨k, hk, rfl⟩ := List.mem_map.mp h
  exact ⟨k, List.mem_range.mp hk, rfl⟩
theorem okB_num {k : Nat} (h : k ≤ 255) : OkB [(k : Int), 0, 0, 0] := by
  intro j hj
  match j, hj with
  | 0, _ => exact ⟨Int.natCast_nonneg _, by show (k : Int) ≤ 255; omega⟩
  | 1, _ => exact ⟨by show (0 : Int) ≤ 0; omega, by show (0 : Int) ≤ 255; omega⟩
  | 2, _ => exact ⟨by show (0 : Int) ≤ 0; omega, by show (0 : Int) ≤ 255; omega⟩
  | 3, _ => exact ⟨by show (0 : Int) ≤ 0; omega, by show (0 : Int) ≤ 255; omega⟩
theorem numL_rise (n : Nat) : (numL n).Pairwise fun x y => kLt x.k y.k = true := by
  unfold numL
  rw [List.pairwise_map]
  refine List.pairwise_lt_range.imp ?_
  intro a b h
  show (decide ((a : Int) < (b : Int)) || _) = true
  rw [decide_eq_true (by omega : (a : Int) < (b : Int))]
  rfl
theorem good_at {d : Df} (h : d.good = true) : 1 ≤ d.key ∧ d.key ≤ 16 ∧ 8 ≤ d.val ∧ d.val ≤ 64 ∧ 1 ≤ d.max ∧ d.max ≤ 16 ∧ (d.hash = false → d.key = 4) := by
  unfold Df.good at h
  simp only [Bool.and_eq_true, decide_eq_true_eq] at h
  obtain ⟨⟨⟨⟨⟨h1, h2⟩, h3⟩, h4⟩, h5⟩, h6⟩ := h
  cases hh : d.hash
  · rw [hh] at h1
    have : d.key = 4 := by simpa using h1
    exact ⟨by omega, by omega, h2, h3, h5, h6, fun _ => this⟩
  · rw [hh] at h1
    simp only [if_true, Bool.and_eq_true, decide_eq_true_eq] at h1
    exact ⟨h1.1, h1.2, h2, h3, h5, h6, fun e => absurd e (by simp)⟩
/-- A new map of bytes, a new map of numbers. -/
theorem ok_hash {d : Df} (h : d.good = true) : TM.ok ⟨d, [], 0⟩ :=
  ⟨h, fun x hx => absurd hx (by simp), List.Pairwise.nil, by have := (good_at h).2.2.2.2.1; show ((0 : Nat) : Int) ≤ d.max; omega, by show 0 ≤ 1024; omega⟩
theorem ok_num {d : Df} (h : d.good = true) (hh : d.hash = false) : TM.ok ⟨d, numL d.max.toNat, d.max.toNat⟩ := by
  obtain ⟨_, _, _, _, m1, m2, hk⟩ := good_at h
  refine ⟨h, fun x hx => ?_, numL_rise _, ?_, ?_⟩
  · obtain ⟨k, hlt, rfl⟩ := numL_mem hx
    exact ⟨okB_num (by omega), by show ((4 : Nat) : Int) = d.key; rw [hk hh]; rfl, hlt⟩
  · show ((numL d.max.toNat).length : Int) ≤ d.max
    rw [numL_len]; omega
  · show d.max.toNat ≤ 1024; omega
theorem tok_app {T : TT} {m : TM} (h : TOk T) (hm : m.ok) : TOk (T ++ [m]) := by
  intro i hi
  rw [mt_app]
  rw [List.length_append, List.length_singleton] at hi
  by_cases c : i < T.length
  · rw [if_pos c]; exact h i c
  · rw [if_neg c, if_pos (by omega)]; exact hm
/-- One value's area, and the next one's. -/
theorem tSlots_next {M : PM} {i v k n : Nat} (h : k < n) (e : (pMake M (tArea i k) (List.replicate v 0) false false).2 = 0) : tSlots M i v k (n - k) = tSlots (pMake M (tArea i k) (List.replicate v 0) false false).1 i v (k + 1) (n - (k + 1)) := by
  rw [show n - k = (n - (k + 1)) + 1 by omega]
  exact if_pos e
theorem tSlots_no {M : PM} {i v k n : Nat} (h : k < n) (e : ¬ (pMake M (tArea i k) (List.replicate v 0) false false).2 = 0) : tSlots M i v k (n - k) = ((pMake M (tArea i k) (List.replicate v 0) false false).1, false) := by
  rw [show n - k = (n - (k + 1)) + 1 by omega]
  exact if_neg e
theorem tSlots_end {M : PM} {i v n : Nat} : tSlots M i v n (n - n) = (M, true) := by rw [Nat.sub_self]; rfl
theorem df_drop {l : List Df} {j : Nat} (h : j < l.length) : l.drop j = l.getD j Df.zero :: l.drop (j + 1) := by
  rw [List.drop_eq_getElem_cons h, List.getD_eq_getElem?_getD, List.getElem?_eq_getElem h]
  rfl
/-- One map, and the next one. -/
theorem tNewG_hash {l : List Df} {j : Nat} {M : PM} {T : TT} (h : j < l.length) (hh : (l.getD j Df.zero).hash = true) : tNewG j (l.drop j) M T = tNewG (j + 1) (l.drop (j + 1)) M (T ++ [⟨l.getD j Df.zero, [], 0⟩]) := by
  rw [df_drop h]
  exact if_pos hh
theorem tNewG_num {l : List Df} {j : Nat} {M : PM} {T : TT} (h : j < l.length) (hh : (l.getD j Df.zero).hash = false) : tNewG j (l.drop j) M T =
    (if (tSlots M j (l.getD j Df.zero).val.toNat 0 (l.getD j Df.zero).max.toNat).2 then tNewG (j + 1) (l.drop (j + 1)) (tSlots M j (l.getD j Df.zero).val.toNat 0 (l.getD j Df.zero).max.toNat).1 (T ++ [⟨l.getD j Df.zero, numL (l.getD j Df.zero).max.toNat, (l.getD j Df.zero).max.toNat⟩])
      else ((tSlots M j (l.getD j Df.zero).val.toNat 0 (l.getD j Df.zero).max.toNat).1, none)) := by
  rw [df_drop h]
  exact if_neg (by rw [hh]; simp)
theorem tNewG_end {l : List Df} {j : Nat} {M : PM} {T : TT} (h : l.length ≤ j) : tNewG j (l.drop j) M T = (M, some T) := by
  rw [List.drop_of_length_le h]
  rfl

end Go.Proofs.Ytempkpfcjonaaaa
