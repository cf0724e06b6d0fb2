/-
  Layer 8, plain: what is read behind what was stored, in memory of one area or two. No program is named here.
-/
import Derived.Test.YtempkpfcjonaaaaMemPlain
import Derived.Laws.BitsAllLaws
namespace Go.Proofs.Ytempkpfcjonaaaa
open Go Go.RowKit
set_option linter.unusedVariables false
set_option linter.unusedSimpArgs false

theorem at_parts {i o : Int} (hi : 0 ≤ i ∧ i < 2147483648) (ho : 0 ≤ o ∧ o < 4294967296) : atI i o / 4294967296 = i ∧ atI i o % 4294967296 = o ∧ 0 ≤ atI i o ∧ atI i o ≤ 18446744073709551615 := by
  unfold atI
  omega
theorem pWh_of {M : PM} {i : Int} {k o s : Nat} (hk : pIx M i = some k) (hi : 0 ≤ i ∧ i < 2147483648) (ho : (o : Int) < 4294967296) :
    pWh M (atI i o) s = if o + s ≤ (pAt M k).b.length then some (k, o) else none := by
  obtain ⟨h1, h2, _⟩ := at_parts hi (o := o) ⟨by omega, ho⟩
  unfold pWh
  rw [h1, h2, hk]
  simp only
  by_cases h : o + s ≤ (pAt M k).b.length
  · rw [if_pos ⟨by omega, by omega⟩, if_pos h]
    simp
  · rw [if_neg (by omega), if_neg h]
theorem pWh_no {M : PM} {i : Int} {o : Nat} {s : Int} (hk : pIx M i = none) (hi : 0 ≤ i ∧ i < 2147483648) (ho : (o : Int) < 4294967296) : pWh M (atI i o) s = none := by
  obtain ⟨h1, h2, _⟩ := at_parts hi (o := o) ⟨by omega, ho⟩
  unfold pWh
  rw [h1, hk]
/-- What is read of an area. -/
def rdA (a : PA) (o s : Nat) : List Int × Int :=
  if 1024 < s then ([], 1) else if o + s ≤ a.b.length then (if blankB a o s then ([], 81) else ((a.b.drop o).take s, 0)) else ([], 80)
/-- What an area becomes. -/
def stA (a : PA) (o s : Nat) (n : Int) : PA × Int :=
  if o + s ≤ a.b.length then (if a.fx then (a, 82) else (paSet a o s n, 0)) else (a, 80)
theorem pRead_of {M : PM} {i : Int} {k o s : Nat} (hk : pIx M i = some k) (hi : 0 ≤ i ∧ i < 2147483648) (ho : (o : Int) < 4294967296) : pRead M (atI i o) s = rdA (pAt M k) o s := by
  unfold pRead rdA
  rw [pWh_of hk hi ho, show ((s : Int)).toNat = s by omega]
  by_cases h1 : 1024 < s
  · rw [if_pos (by omega), if_pos h1]
  · rw [if_neg (by omega), if_neg h1]
    by_cases h2 : o + s ≤ (pAt M k).b.length
    · rw [if_pos h2, if_pos h2]
    · rw [if_neg h2, if_neg h2]
theorem pStore_of {M : PM} {i n : Int} {k o s : Nat} (hk : pIx M i = some k) (hi : 0 ≤ i ∧ i < 2147483648) (ho : (o : Int) < 4294967296) (hf : fitsZ s = true) :
    pStore M (atI i o) s n = ((if (stA (pAt M k) o s n).2 = 0 then M.set k (stA (pAt M k) o s n).1 else M), (stA (pAt M k) o s n).2) := by
  unfold pStore stA
  rw [hf, if_pos rfl, pWh_of hk hi ho, show ((s : Int)).toNat = s by omega]
  by_cases h2 : o + s ≤ (pAt M k).b.length
  · rw [if_pos h2, if_pos h2]
    simp only
    cases (pAt M k).fx <;> simp
  · rw [if_neg h2, if_neg h2]
    simp
/-- One area alone. -/
theorem pIx_one (a : PA) : pIx [a] a.id = some 0 := by simp [pIx]
theorem pAt_one (a : PA) : pAt [a] 0 = a := rfl
theorem read_one {a : PA} {o s : Nat} (hi : 0 ≤ a.id ∧ a.id < 2147483648) (ho : (o : Int) < 4294967296) : pRead [a] (atI a.id o) s = rdA a o s := pRead_of (pIx_one a) hi ho
theorem store_one {a : PA} {n : Int} {o s : Nat} (hi : 0 ≤ a.id ∧ a.id < 2147483648) (ho : (o : Int) < 4294967296) (hf : fitsZ s = true) : pStore [a] (atI a.id o) s n = ([(stA a o s n).1], (stA a o s n).2) := by
  rw [pStore_of (pIx_one a) hi ho hf, pAt_one]
  unfold stA
  split
  · split <;> simp
  · simp
theorem load_one {a : PA} {o s : Nat} (hi : 0 ≤ a.id ∧ a.id < 2147483648) (ho : (o : Int) < 4294967296) (hf : fitsZ s = true) : pLoad [a] (atI a.id o) s = if (rdA a o s).2 = 0 then (leN (rdA a o s).1, 0) else (0, (rdA a o s).2) := by
  unfold pLoad
  rw [hf, if_pos rfl, read_one hi ho]
theorem fits_of {s : Nat} (h : s = 1 ∨ s = 2 ∨ s = 4 ∨ s = 8) : fitsZ s = true := by rcases h with rfl | rfl | rfl | rfl <;> rfl
/-- What was stored is there, and is not blank. -/
theorem set_byte {a : PA} {o s : Nat} {n : Int} (h : o + s ≤ a.b.length) (t : Nat) : bAt (paSet a o s n).b t = if o ≤ t ∧ t < o + s then bAt (leB n s) (t - o) else bAt a.b t := by
  unfold paSet bAt
  rw [List.getD_eq_getElem?_getD, putN_get _ _ _ _ (by rw [leB_len]; exact h), leB_len]
  by_cases h1 : t < o
  · rw [if_pos h1, if_neg (by omega), List.getD_eq_getElem?_getD]
  · rw [if_neg h1]
    by_cases h2 : t < o + s
    · rw [if_pos h2, if_pos ⟨by omega, h2⟩, List.getD_eq_getElem?_getD]
    · rw [if_neg h2, if_neg (by omega), List.getD_eq_getElem?_getD]
theorem set_bit {a : PA} {o s : Nat} {n : Int} (h : o + s ≤ a.bl.length) (t : Nat) : (paSet a o s n).bl.getD t false = if o ≤ t ∧ t < o + s then false else a.bl.getD t false := by
  unfold paSet
  rw [List.getD_eq_getElem?_getD, putN_get _ _ _ _ (by rw [List.length_replicate]; exact h), List.length_replicate]
  by_cases h1 : t < o
  · rw [if_pos h1, if_neg (by omega), List.getD_eq_getElem?_getD]
  · rw [if_neg h1]
    by_cases h2 : t < o + s
    · rw [if_pos h2, if_pos ⟨by omega, h2⟩, List.getElem?_replicate, if_pos (by omega)]
      rfl
    · rw [if_neg h2, if_neg (by omega), List.getD_eq_getElem?_getD]
theorem bits_any {bl : List Bool} {o s : Nat} : ((bl.drop o).take s).any id = false ↔ ∀ t, o ≤ t → t < o + s → bl.getD t false = false := by
  rw [List.any_eq_false]
  constructor
  · intro h t h1 h2
    by_cases ht : t < bl.length
    · have e : bl.getD t false = bl[t] := by rw [List.getD_eq_getElem?_getD, List.getElem?_eq_getElem ht]; rfl
      rw [e]
      have := h bl[t] (List.mem_of_getElem? (i := t - o) (by rw [List.getElem?_take, if_pos (by omega), List.getElem?_drop, show o + (t - o) = t by omega, List.getElem?_eq_getElem ht]))
      simpa using this
    · rw [List.getD_eq_getElem?_getD, List.getElem?_eq_none (by omega)]; rfl
  · intro h x hx
    obtain ⟨i, hi, rfl⟩ := List.mem_iff_getElem.mp hx
    simp only [List.length_take, List.length_drop] at hi
    have := h (o + i) (by omega) (by omega)
    rw [List.getD_eq_getElem?_getD, List.getElem?_eq_getElem (by omega)] at this
    simp only [List.getElem_take, List.getElem_drop]
    simpa using this
theorem cut_byte (b : List Int) (o s k : Nat) (hk : k < s) : bAt ((b.drop o).take s) k = bAt b (o + k) := by
  unfold bAt
  rw [List.getD_eq_getElem?_getD, List.getD_eq_getElem?_getD, List.getElem?_take, if_pos hk, List.getElem?_drop]
theorem cut_size (b : List Int) (o s : Nat) (h : o + s ≤ b.length) : ((b.drop o).take s).length = s := by simp; omega
/-- Read where it was stored: the number's bytes. -/
theorem read_stored {a : PA} {o s : Nat} {n : Int} (h : o + s ≤ a.b.length) (hl : a.bl.length = a.b.length) (hs : s ≤ 1024) : rdA (paSet a o s n) o s = (leB n s, 0) := by
  unfold rdA
  have h1 : (paSet a o s n).b.length = a.b.length := putN_len _ _ _
  have h2 : blankB (paSet a o s n) o s = false := by
    unfold blankB
    rw [bits_any]
    intro t t1 t2
    rw [set_bit (by omega), if_pos ⟨t1, t2⟩]
  rw [if_neg (by omega), h1, if_pos h, h2, if_neg Bool.false_ne_true]
  congr 1
  apply byt_ext
  · rw [cut_size _ _ _ (by rw [h1]; exact h), leB_len]
  · intro k hk
    rw [cut_size _ _ _ (by rw [h1]; exact h)] at hk
    rw [cut_byte _ _ _ _ hk, set_byte h, if_pos (by omega), show o + k - o = k by omega]
/-- One byte is read. -/
theorem read_byte {a : PA} {o : Nat} : rdA a o 1 = if o + 1 ≤ a.b.length then (if a.bl.getD o false then ([], 81) else ([bAt a.b o], 0)) else ([], 80) := by
  unfold rdA
  rw [if_neg (by omega)]
  by_cases h : o + 1 ≤ a.b.length
  · rw [if_pos h, if_pos h]
    have hb : blankB a o 1 = a.bl.getD o false := by
      cases hx : a.bl.getD o false
      · unfold blankB
        rw [bits_any]
        intro t h1 h2
        have : t = o := by omega
        rw [this]; exact hx
      · cases hy : blankB a o 1
        · unfold blankB at hy
          rw [bits_any] at hy
          have := hy o (Nat.le_refl _) (by omega)
          rw [hx] at this; cases this
        · rfl
    rw [hb]
    have hc : (a.b.drop o).take 1 = [bAt a.b o] := by
      apply byt_ext
      · rw [cut_size _ _ _ h]; rfl
      · intro k hk
        rw [cut_size _ _ _ h] at hk
        rw [cut_byte _ _ _ _ hk, show k = 0 by omega]
        rfl
    rw [hc]
  · rw [if_neg h, if_neg h]
theorem leB_at (n : Int) : ∀ (s k : Nat), k < s → bAt (leB n s) k = n / 256 ^ k % 256 := by
  intro s
  induction s generalizing n with
  | zero => intro k h; omega
  | succ s ih =>
    intro k h
    cases k with
    | zero => simp [leB, bAt]
    | succ k =>
      have e : bAt (leB n (s + 1)) (k + 1) = bAt (leB (n / 256) s) k := by simp [leB, bAt]
      rw [e, ih (n / 256) k (by omega), Int.ediv_ediv_of_nonneg (by omega), Int.pow_succ, Int.mul_comm]
theorem leN_one (x : Int) : leN [x] = x := by simp [leN]
/-- A part of what was stored is read. -/
theorem read_part {a : PA} {o s d t : Nat} {n : Int} (h : o + s ≤ a.b.length) (hl : a.bl.length = a.b.length) (hd : d + t ≤ s) (ht : t ≤ 1024) : rdA (paSet a o s n) (o + d) t = (leB (n / 256 ^ d) t, 0) := by
  unfold rdA
  have h1 : (paSet a o s n).b.length = a.b.length := putN_len _ _ _
  have h2 : blankB (paSet a o s n) (o + d) t = false := by
    unfold blankB
    rw [bits_any]
    intro x t1 t2
    rw [set_bit (by omega), if_pos (by omega)]
  rw [if_neg (by omega), h1, if_pos (by omega), h2, if_neg Bool.false_ne_true]
  congr 1
  apply byt_ext
  · rw [cut_size _ _ _ (by rw [h1]; omega), leB_len]
  · intro k hk
    rw [cut_size _ _ _ (by rw [h1]; omega)] at hk
    rw [cut_byte _ _ _ _ hk, set_byte h, if_pos (by omega), leB_at _ _ _ (by omega), leB_at _ _ _ hk, show o + d + k - o = d + k by omega, Int.pow_add, ← Int.ediv_ediv_of_nonneg (Int.le_of_lt (Int.pow_pos (by omega)))]
theorem load_part {a : PA} {o s d t : Nat} {n : Int} (hi : 0 ≤ a.id ∧ a.id < 2147483648) (ho : ((o + d : Nat) : Int) < 4294967296) (hf : t = 1 ∨ t = 2 ∨ t = 4 ∨ t = 8) (h : o + s ≤ a.b.length) (hl : a.bl.length = a.b.length) (hd : d + t ≤ s) :
    pLoad [paSet a o s n] (atI a.id ((o + d : Nat) : Int)) t = (n / 256 ^ d % 256 ^ t, 0) := by
  have := load_one (a := paSet a o s n) (o := o + d) (s := t) hi ho (fits_of hf)
  rw [show (paSet a o s n).id = a.id from rfl, read_part h hl hd (by omega), if_pos rfl, leN_leB] at this
  exact this
theorem store_in {a : PA} {o s : Nat} {n : Int} (hi : 0 ≤ a.id ∧ a.id < 2147483648) (ho : (o : Int) < 4294967296) (hf : s = 1 ∨ s = 2 ∨ s = 4 ∨ s = 8) (h : o + s ≤ a.b.length) (hx : a.fx = false) :
    pStore [a] (atI a.id o) s n = ([paSet a o s n], 0) := by
  rw [store_one hi ho (fits_of hf)]
  unfold stA
  rw [if_pos h, hx, if_neg Bool.false_ne_true]
theorem or_parts {n : Int} (h : 0 ≤ n ∧ n ≤ 18446744073709551615) : bits .or .u64 (n % 4294967296) (n / 4294967296 * 4294967296) = n := by
  rw [u64_or _ _ (by omega) (by omega) (by omega) (by omega)]
  have hb : (n % 4294967296).toNat < 2 ^ 32 := by omega
  have := Nat.two_pow_add_eq_or_of_lt hb (n / 4294967296).toNat
  rw [Nat.or_comm, show (n / 4294967296 * 4294967296).toNat = 2 ^ 32 * (n / 4294967296).toNat by omega, ← this]
  omega
/-- The lowest bytes, as Go cuts them. -/
theorem and_low {n : Int} {k : Nat} (h : 0 ≤ n ∧ n ≤ 18446744073709551615) (hk : k ≤ 64) : bits .and .u64 n (2 ^ k - 1) = n % 2 ^ k := by
  have hp : (1 : Int) ≤ 2 ^ k := Int.pow_pos (by omega)
  have hq : (2 : Int) ^ k ≤ 2 ^ 64 := by
    have := Nat.pow_le_pow_right (n := 2) (by omega) hk
    have e : ∀ m : Nat, (2 : Int) ^ m = ((2 ^ m : Nat) : Int) := fun m => by simp
    rw [e, e]; omega
  rw [u64_and _ _ (by omega) (by omega) (by omega) (by omega)]
  have e1 : ((2 : Int) ^ k - 1).toNat = 2 ^ k - 1 := by
    have e : (2 : Int) ^ k = ((2 ^ k : Nat) : Int) := by simp
    rw [e]; omega
  rw [e1, Nat.and_two_pow_sub_one_eq_mod]
  have e : (2 : Int) ^ k = ((2 ^ k : Nat) : Int) := by simp
  rw [e, Int.natCast_emod]
  congr 1
  omega

end Go.Proofs.Ytempkpfcjonaaaa
