/-
  The arguments of layer 7's laws: an instruction; rows of instructions, and of bytes.
  Conditions: none.
-/
import Derived.Test.YtplndcjmbgkcjaaLeaf
import Derived.Test.YtplndcjmbgkcjaaBase
import Derived.Test.YtplndcjmbgkcjaaBytRow
import Derived.Deep.Slices
import Derived.ChangeSlices
namespace Go.Proofs.Ytplndcjmbgkcjaa
open Go.ChangeShapes Go.WideShapes Go.RowKit Go.Deep
set_option linter.unusedVariables false

section
variable {H : Type} {enc : TypeId × Value → H} {w : World} {base : Nat} {spare : Nat → Bool} {held : Bool}

theorem open_ins {r : Reach} {b0 : Nat} {v : Value} {d : DataW H} {p : List MemPlace} (hv : Value.okWide Try.prog w r b0 24 v) (h : DataW.Trod enc Try.prog w base spare held 24 v d p) :
    ∃ x : Ins, v = iV x ∧ x.ok := by
  obtain ⟨l, rfl, hl⟩ := agg_of_struct Try.underlying24 hv
  have hc : Try.prog.cellsOf 24 = 5 := by kernel_rfl
  rw [hc] at hl
  obtain ⟨n0, e0, w0⟩ := LeafOk.int_ (leaf_of_Trod h 8 0 (L := some .u8) (by kernel_rfl))
  obtain ⟨n1, e1, w1⟩ := LeafOk.int_ (leaf_of_Trod h 8 1 (L := some .u8) (by kernel_rfl))
  obtain ⟨n2, e2, w2⟩ := LeafOk.int_ (leaf_of_Trod h 8 2 (L := some .u8) (by kernel_rfl))
  obtain ⟨n3, e3, w3⟩ := LeafOk.int_ (leaf_of_Trod h 8 3 (L := some .i16) (by kernel_rfl))
  obtain ⟨n4, e4, w4⟩ := LeafOk.int_ (leaf_of_Trod h 8 4 (L := some .i32) (by kernel_rfl))
  match l, hl with
  | [c0, c1, c2, c3, c4], _ =>
    simp [Value.cells] at e0 e1 e2 e3 e4
    subst e0 e1 e2 e3 e4
    exact ⟨⟨n0, n1, n2, n3, n4⟩, rfl, bounds_u8 w0, bounds_u8 w1, bounds_u8 w2, bounds_i16 w3, bounds_i32 w4⟩

theorem lt_of_cell {a : Addr} {v : Value} (h : w.cell? a = some v) : a.block < w.heap.size := by
  rcases Nat.lt_or_ge a.block w.heap.size with k | k
  · exact k
  · simp [World.cell?, Array.getElem?_eq_none k] at h

theorem add_spotless (g o k : Nat) : (⟨g, o, none⟩ : Addr).add k = ⟨g, o + k, none⟩ := by
  unfold Addr.add
  split <;> simp_all

theorem open_insns {r : Reach} {b0 : Nat} {v : Value} {d : DataW H} {p : List MemPlace} (hv : Value.okWide Try.prog w r b0 31 v) (h : DataW.Trod enc Try.prog w base (fun _ => true) held 31 v d p) :
    ∃ (A : Option Addr) (c : Nat) (l : List Ins), v = .slice A l.length c ∧ InsS w A l ∧ OkAll l ∧ l.length ≤ c ∧ c ≤ maxLen := by
  obtain ⟨A, n, c, rfl⟩ := okWide_slice Try.underlying31 hv
  obtain ⟨fuel, hf⟩ := h
  rcases open_slice Try.underlying31 hf with ⟨hcs, _⟩ | ⟨a, len, cap, m, n', D, Pl, hcs, hb, hl, hm, hmm, _, hi⟩
  · simp [Value.cells] at hcs
    obtain ⟨rfl, rfl, rfl⟩ := hcs
    exact ⟨none, 0, [], rfl, InsS.none_ _ _, fun k hk => absurd hk (by simp), Nat.le_refl _, Nat.zero_le _⟩
  · simp [Value.cells] at hcs
    obtain ⟨rfl, rfl, rfl⟩ := hcs
    have hC : Try.prog.cellsOf 24 = 5 := by kernel_rfl
    rw [hC] at hi
    simp only [if_true] at hmm
    subst hmm
    have hx : ∀ i, ∃ x : Ins, i < n → x.ok ∧ w.cell? (a.add (i * 5)) = some (.int .u8 x.op) ∧ w.cell? ((a.add (i * 5)).add 1) = some (.int .u8 x.dst) ∧ w.cell? ((a.add (i * 5)).add 2) = some (.int .u8 x.src) ∧ w.cell? ((a.add (i * 5)).add 3) = some (.int .i16 x.off) ∧ w.cell? ((a.add (i * 5)).add 4) = some (.int .i32 x.imm) := by
      intro i
      by_cases hin : i < n
      · obtain ⟨cs', hc', ht⟩ := hi i (by omega)
        obtain ⟨_, hlen, hat⟩ := World.cells?_some hc'
        obtain ⟨n0, e0, w0⟩ := LeafOk.int_ (leaf_of_trod 8 _ _ _ _ 0 (some .u8) ht (by kernel_rfl))
        obtain ⟨n1, e1, w1⟩ := LeafOk.int_ (leaf_of_trod 8 _ _ _ _ 1 (some .u8) ht (by kernel_rfl))
        obtain ⟨n2, e2, w2⟩ := LeafOk.int_ (leaf_of_trod 8 _ _ _ _ 2 (some .u8) ht (by kernel_rfl))
        obtain ⟨n3, e3, w3⟩ := LeafOk.int_ (leaf_of_trod 8 _ _ _ _ 3 (some .i16) ht (by kernel_rfl))
        obtain ⟨n4, e4, w4⟩ := LeafOk.int_ (leaf_of_trod 8 _ _ _ _ 4 (some .i32) ht (by kernel_rfl))
        have h0 : w.cell? (a.add (i * 5)) = cs'[0]? := by
          have := hat 0 (by omega)
          unfold Addr.add at this
          simpa [Addr.add] using this
        exact ⟨⟨n0, n1, n2, n3, n4⟩, fun _ => ⟨⟨bounds_u8 w0, bounds_u8 w1, bounds_u8 w2, bounds_i16 w3, bounds_i32 w4⟩, h0.trans e0, (hat 1 (by omega)).trans e1, (hat 2 (by omega)).trans e2, (hat 3 (by omega)).trans e3, (hat 4 (by omega)).trans e4⟩⟩
      · exact ⟨Ins.zero, fun h => absurd h hin⟩
    obtain ⟨f, hf⟩ : ∃ f : Nat → Ins, ∀ i, i < n → (f i).ok ∧ w.cell? (a.add (i * 5)) = some (.int .u8 (f i).op) ∧ w.cell? ((a.add (i * 5)).add 1) = some (.int .u8 (f i).dst) ∧ w.cell? ((a.add (i * 5)).add 2) = some (.int .u8 (f i).src) ∧ w.cell? ((a.add (i * 5)).add 3) = some (.int .i16 (f i).off) ∧ w.cell? ((a.add (i * 5)).add 4) = some (.int .i32 (f i).imm) :=
      ⟨fun i => Classical.choose (hx i), fun i => Classical.choose_spec (hx i)⟩
    clear hx hi
    have hl2 : ((List.range n).map f).length = n := by simp
    have hA : ∀ k, k < n → iAt ((List.range n).map f) k = f k := fun k hk => by
      unfold iAt
      rw [List.getD_eq_getElem?_getD, List.getElem?_map, List.getElem?_range hk]
      rfl
    refine ⟨some a, _, (List.range n).map f, by rw [hl2], fun h0 => ?_, fun k hk => ?_, by rw [hl2]; exact hl, hm⟩
    · rw [hl2] at h0
      obtain ⟨g, o, spot⟩ := a
      have hc0 := (hf 0 h0).2.1
      have hspot : spot = none := by simpa [Addr.add] using World.cell?_spot hc0
      subst hspot
      refine ⟨g, o, rfl, ?_, fun k hk => ?_⟩
      · have := lt_of_cell hc0
        rwa [add_spotless] at this
      · rw [hl2] at hk
        rw [hA k hk]
        have hs := (hf k hk).2
        simp only [add_spotless] at hs
        exact hs
    · rw [hl2] at hk
      rw [hA k hk]
      exact (hf k hk).1

theorem open_bytes {r : Reach} {b0 : Nat} {v : Value} {d : DataW H} {p : List MemPlace} (hv : Value.okWide Try.prog w r b0 36 v) (h : DataW.Trod enc Try.prog w base (fun _ => true) held 36 v d p) :
    ∃ (A : Option Addr) (c : Nat) (b : List Int), v = .slice A b.length c ∧ BytS w A b ∧ OkB b ∧ b.length ≤ c ∧ c ≤ maxLen := by
  obtain ⟨A, n, c, rfl⟩ := okWide_slice Try.underlying36 hv
  obtain ⟨fuel, hf⟩ := h
  rcases open_ints Try.underlying36 Try.underlying5 (by kernel_rfl) hf with ⟨hcs, _⟩ | ⟨x, l, cc, zs, hcs, _, hl, hm, hz, _, hcell, hwz⟩
  · simp [Value.cells] at hcs
    obtain ⟨rfl, rfl, rfl⟩ := hcs
    exact ⟨none, 0, [], rfl, BytS.none_ _ _, fun k hk => absurd hk (by simp), Nat.le_refl _, Nat.zero_le _⟩
  · simp [Value.cells] at hcs
    obtain ⟨rfl, rfl, rfl⟩ := hcs
    have hzl : zs.length = c := by simpa using hz
    have hl2 : (zs.take n).length = n := by rw [List.length_take]; omega
    have hA : ∀ k, k < n → bAt (zs.take n) k = zs.getD k 0 := fun k hk => by
      unfold bAt
      rw [List.getD_eq_getElem?_getD, List.getElem?_take, if_pos hk, ← List.getD_eq_getElem?_getD]
    refine ⟨some x, _, zs.take n, by rw [hl2], fun h0 => ?_, fun k hk => ?_, by rw [hl2]; exact hl, hm⟩
    · rw [hl2] at h0
      obtain ⟨g, o, spot⟩ := x
      have hc0 := hcell 0 (by omega)
      have hspot : spot = none := by simpa [Addr.add] using World.cell?_spot hc0
      subst hspot
      refine ⟨g, o, rfl, ?_, fun k hk => ?_⟩
      · have := lt_of_cell hc0
        rwa [add_spotless] at this
      · rw [hl2] at hk
        rw [hA k hk]
        have := hcell k (by omega)
        rwa [add_spotless] at this
    · rw [hl2] at hk
      rw [hA k hk, List.getD_eq_getElem?_getD, List.getElem?_eq_getElem (by omega)]
      exact bounds_u8 (hwz _ (List.getElem_mem (by omega)))
end

end Go.Proofs.Ytplndcjmbgkcjaa
