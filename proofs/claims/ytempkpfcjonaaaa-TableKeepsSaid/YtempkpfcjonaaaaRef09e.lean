/-
  Layer 9's own keys: rows of them, one behind the other; a key among the others.
  Conditions: none.
-/
import Derived.Test.YtempkpfcjonaaaaRef09d
import Derived.Test.YtempkpfcjonaaaaRef09c
namespace Go.Proofs.Ytempkpfcjonaaaa
open Go.RowKit
set_option maxRecDepth 100000
set_option linter.unusedVariables false
set_option linter.unusedSimpArgs false

/-- A slice reads as a row of keys. -/
def KeyS (w : World) (A : Option Addr) (L : List TK) : Prop :=
  0 < L.length → ∃ g o, A = some ⟨g, o, none⟩ ∧ g < w.heap.size ∧ ∀ k, k < L.length → w.cell? ⟨g, o + k * 2, none⟩ = some (.string (strOfNums (kAt L k).k)) ∧ w.cell? ⟨g, o + k * 2 + 1, none⟩ = some (.int .i64 ((kAt L k).s : Int))
theorem KeyS.after {w w' : World} {A : Option Addr} {L : List TK} (h : KeyS w A L) (k : Below w.heap.size w w') : KeyS w' A L := fun hl => by
  obtain ⟨g, o, e, hg, hc⟩ := h hl
  exact ⟨g, o, e, Nat.lt_of_lt_of_le hg k.size, fun j hj => ⟨(k.cell (p := ⟨g, o + j * 2, none⟩) hg).trans (hc j hj).1, (k.cell (p := ⟨g, o + j * 2 + 1, none⟩) hg).trans (hc j hj).2⟩⟩
theorem key_news {w : World} {g o : Nat} {L : List TK} (hc : ∀ k, k < L.length → w.cell? ⟨g, o + k * 2, none⟩ = some (.string (strOfNums (kAt L k).k)) ∧ w.cell? ⟨g, o + k * 2 + 1, none⟩ = some (.int .i64 ((kAt L k).s : Int))) :
    ∀ j u, (kC L)[j]? = some u → w.cell? ((⟨g, o, none⟩ : Addr).add j) = some u := by
  intro j u hu
  have hadd : (⟨g, o, none⟩ : Addr).add j = ⟨g, o + j, none⟩ := by unfold Addr.add; split <;> simp_all
  have hj : j < L.length * 2 := by
    rcases Nat.lt_or_ge j (L.length * 2) with k | k
    · exact k
    · rw [List.getElem?_eq_none (by rw [kC_len]; exact k)] at hu; cases hu
  rw [hadd, ← hu]
  have e1 : j = j / 2 * 2 + j % 2 := by omega
  have h1 := kC_at L (j / 2) (j % 2) (by omega) (by omega)
  rw [← e1] at h1
  rw [h1]
  rcases (show j % 2 = 0 ∨ j % 2 = 1 by omega) with c | c
  · rw [c, show o + j = o + j / 2 * 2 by omega, (hc (j / 2) (by omega)).1]; rfl
  · rw [c, show o + j = o + j / 2 * 2 + 1 by omega, (hc (j / 2) (by omega)).2]; rfl
theorem kC_one (L : List TK) : ∀ u ∈ kC L, u.oneCell' = true := by
  intro u hu
  simp only [kC, List.mem_flatMap] at hu
  obtain ⟨x, _, hx⟩ := hu
  simp only [cK, List.mem_cons, List.not_mem_nil, or_false] at hx
  rcases hx with rfl | rfl <;> rfl
theorem append_zero {P : Program} (w : World) (t ty e : TypeId) (i : TypeInfo) (ht : P.underlying t = some (.slice e)) (hi : P.info? e = some i) (A B : Option Addr) (n c d m : Nat) (hn : n ≤ c) (hm : m = 0) (hA : 0 < n ∨ A ≠ none ∨ c = 0) :
    (Builtin.append_ #[t, t] ty #[.slice A n c, .slice B m d]).run P w = .ok (.slice A n c) w := by
  subst hm
  cases A <;> cases B <;> simp [Builtin.append_, run_underlying ht, sizeOf, typeInfo, hi, Builtin.lenOf, Builtin.firstCells, loadCells, loadCellsFrom, storeCells, hn]
/-- Keys, appended to a row of the call's own. -/
theorem append_keys (u : World) (base : Nat) (v : Value) (n : Nat) (xs : List Value) (B : Option Addr) (m d : Nat) (L : List TK) (ty : TypeId) (hown : u.ownsRow base 88 2 v n xs) (h : KeyS u B L) (hm : L.length = m) (hn : n ≤ 100000) (hs : m ≤ 100000) (hb : base ≤ u.heap.size) (hv : ∃ g c, v = .slice (some ⟨g, 0, none⟩) n c) :
    ∃ v' w', (Builtin.append_ #[83, 83] ty #[v, .slice B m d]).run Try.prog u = .ok v' w' ∧ w'.ownsRow base 88 2 v' (n + m) (xs ++ kC L) ∧ u.grownBy w' v.ownBlock ∧ ∃ g c, v' = .slice (some ⟨g, 0, none⟩) (n + m) c := by
  obtain ⟨i1, hi1, hz, h1, h2⟩ := info_parts (show (Try.prog.info? 88).map (fun i => (i.zero, i.size, i.bytes)) = some (some (.agg #[.string ⟨#[]⟩, .int .i64 0]), 2, 24) by kernel_rfl)
  obtain ⟨g, c, rfl⟩ := hv
  obtain ⟨A', c', e, k1, k2⟩ := own_slice hown
  injection e with e1 e2 e3
  subst e3
  by_cases hz0 : m = 0
  · have eb : L = [] := List.eq_nil_of_length_eq_zero (by omega)
    subst eb
    refine ⟨_, u, append_zero u 83 ty 88 i1 Try.underlying83 hi1 _ B n c d m k1 hz0 (.inr (.inl (by simp))), ?_, World.grownBy.refl u _, g, c, by rw [hz0]; rfl⟩
    rw [hz0, show kC [] = [] from rfl, List.append_nil]
    exact hown
  · obtain ⟨gb, ob, rfl, hgb, hcell⟩ := h (by omega)
    obtain ⟨v', w', hr, ho, hg, hl⟩ := run_append_own (P := Try.prog) u base 83 ty 88 i1 (.agg #[.string ⟨#[]⟩, .int .i64 0]) 2 24 Try.underlying83 hi1 hz h1 h2 rfl (by omega) _ n xs hown ⟨gb, ob, none⟩ m d (kC L) (by rw [kC_len]; omega) (key_news hcell) (kC_one L) (by unfold maxLen; omega) (by omega) hb
    obtain ⟨A2, c2, rfl, _, _⟩ := own_slice ho
    obtain ⟨g2, rfl, _, _⟩ := own_addr ho (by omega)
    exact ⟨_, w', hr, ho, hg, g2, c2, rfl⟩
theorem own_keyS {w : World} {base : Nat} {A : Option Addr} {n c : Nat} {L : List TK} (hn : L.length = n) (h : w.ownsRow base 88 2 (.slice A n c) n (kC L)) : KeyS w A L := fun hl => by
  subst hn
  obtain ⟨g, rfl, _, hg⟩ := own_addr h hl
  refine ⟨g, 0, rfl, hg, fun j hj => ?_⟩
  have hc : ∀ r, r < 2 → w.cell? ⟨g, j * 2 + r, none⟩ = (cK (kAt L j))[r]? := fun r hr => by rw [h.cellAt _ (by omega), kC_at _ j r hj hr]
  rw [Nat.zero_add]
  exact ⟨hc 0 (by omega), hc 1 (by omega)⟩
theorem kAt_take {L : List TK} {j k : Nat} (h : k < j) : kAt (L.take j) k = kAt L k := by
  unfold kAt
  rw [List.getD_eq_getElem?_getD, List.getD_eq_getElem?_getD, List.getElem?_take, if_pos h]
theorem kAt_drop (L : List TK) (j k : Nat) : kAt (L.drop j) k = kAt L (j + k) := by
  unfold kAt
  rw [List.getD_eq_getElem?_getD, List.getD_eq_getElem?_getD, List.getElem?_drop]
/-- The first ones, and the others. -/
theorem KeyS.take {w : World} {A : Option Addr} {L : List TK} (h : KeyS w A L) (j : Nat) : KeyS w A (L.take j) := fun hl => by
  rw [List.length_take] at hl
  obtain ⟨g, o, e, hg, hc⟩ := h (by omega)
  refine ⟨g, o, e, hg, fun k hk => ?_⟩
  rw [List.length_take] at hk
  rw [kAt_take (by omega)]
  exact hc k (by omega)
theorem KeyS.drop {w : World} {g o : Nat} {L : List TK} (h : KeyS w (some ⟨g, o, none⟩) L) (j : Nat) : KeyS w (some ⟨g, o + j * 2, none⟩) (L.drop j) := fun hl => by
  rw [List.length_drop] at hl
  obtain ⟨g', o', e, hg, hc⟩ := h (by omega)
  cases e
  refine ⟨g, o + j * 2, rfl, hg, fun k hk => ?_⟩
  rw [List.length_drop] at hk
  rw [kAt_drop, show o + j * 2 + k * 2 = o + (j + k) * 2 by omega]
  exact hc (j + k) (by omega)
theorem tIns_at {L : List TK} {x : TK} {j : Nat} (hj : j ≤ L.length) (h1 : ∀ t, t < j → kLt (kAt L t).k x.k = true) (h2 : j < L.length → kLt (kAt L j).k x.k = false) : tIns L x = L.take j ++ x :: L.drop j := by
  unfold tIns
  induction L generalizing j with
  | nil =>
    have : j = 0 := by simpa using hj
    subst this
    rfl
  | cons y L ih =>
    cases j with
    | zero =>
      have := h2 (by simp)
      have hy : kLt y.k x.k = false := by simpa [kAt] using this
      rw [List.takeWhile_cons, List.dropWhile_cons, hy]
      rfl
    | succ j =>
      have hy : kLt y.k x.k = true := by simpa [kAt] using h1 0 (by omega)
      have := ih (j := j) (by simpa using hj) (fun t ht => by simpa [kAt] using h1 (t + 1) (by omega)) (fun hl => by simpa [kAt] using h2 (by simpa using hl))
      rw [List.takeWhile_cons, List.dropWhile_cons, hy]
      simpa using this
theorem mem_tIns {L : List TK} {x y : TK} (h : y ∈ tIns L x) : y = x ∨ y ∈ L := by
  unfold tIns at h
  rcases List.mem_append.mp h with c | c
  · exact .inr ((List.takeWhile_sublist _).subset c)
  · rcases List.mem_cons.mp c with c | c
    · exact .inl c
    · exact .inr ((List.dropWhile_sublist _).subset c)
theorem tIns_len (L : List TK) (x : TK) : (tIns L x).length = L.length + 1 := by
  unfold tIns
  have h := congrArg List.length (List.takeWhile_append_dropWhile (p := fun y => kLt y.k x.k) (l := L))
  rw [List.length_append] at h
  rw [List.length_append, List.length_cons]
  omega
/-- A key that is not there, among the others: they still rise. -/
theorem tIns_rise {L : List TK} {x : TK} (h : L.Pairwise fun a b => kLt a.k b.k = true) (hx : tFind L x.k = none) : (tIns L x).Pairwise fun a b => kLt a.k b.k = true := by
  have hne : ∀ y ∈ L, y.k ≠ x.k := by
    unfold tFind at hx
    rw [Option.map_eq_none_iff, List.find?_eq_none] at hx
    intro y hy
    simpa using hx y hy
  induction L with
  | nil => simp [tIns]
  | cons y L ih =>
    obtain ⟨h1, h2⟩ := List.pairwise_cons.1 h
    have hx2 : tFind L x.k = none := find_out fun t ht => hne _ (by simp [kAt_mem ht])
    have hne2 : ∀ y ∈ L, y.k ≠ x.k := fun z hz => hne z (by simp [hz])
    cases hy : kLt y.k x.k
    · have hxy : kLt x.k y.k = true := kLt_total hy (hne y (by simp))
      unfold tIns
      rw [List.takeWhile_cons, List.dropWhile_cons, hy]
      simp only [Bool.false_eq_true, if_false, List.nil_append]
      refine List.pairwise_cons.2 ⟨fun z hz => ?_, h⟩
      rcases List.mem_cons.mp hz with rfl | hz
      · exact hxy
      · exact kLt_trans hxy (h1 z hz)
    · have e : tIns (y :: L) x = y :: tIns L x := by
        unfold tIns
        rw [List.takeWhile_cons, List.dropWhile_cons, hy]
        rfl
      rw [e]
      refine List.pairwise_cons.2 ⟨fun z hz => ?_, ih h2 hx2 hne2⟩
      rcases mem_tIns hz with rfl | hz
      · exact hy
      · exact h1 z hz
theorem tIns_ok {m : TM} (h : m.ok) (key : List Int) (hx : tFind m.L key = none) (hk : OkB key) (hl : (key.length : Int) = m.d.key) (hf : ¬ m.d.max ≤ m.L.length) (hm : ¬ 1024 ≤ m.made) : TM.ok ⟨m.d, tIns m.L ⟨key, m.made⟩, m.made + 1⟩ := by
  obtain ⟨h1, h2, h3, h4, h5⟩ := h
  refine ⟨h1, fun x hx => ?_, tIns_rise h3 hx, ?_, by simp only; omega⟩
  · rcases mem_tIns hx with rfl | hx
    · exact ⟨hk, hl, by simp⟩
    · obtain ⟨a, b, c⟩ := h2 x hx
      exact ⟨a, b, by simp only; omega⟩
  · rw [tIns_len]
    simp only
    omega

end Go.Proofs.Ytempkpfcjonaaaa
