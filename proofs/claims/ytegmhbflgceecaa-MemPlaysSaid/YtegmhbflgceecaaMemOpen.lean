/-
  The arguments of layer 8's laws: rows of acts, each with its bytes.
  Conditions: none.
-/
import Derived.Test.YtegmhbflgceecaaBytOpen
import Derived.Deep.Fields
namespace Go.Proofs.Ytegmhbflgceecaa
open Go.ChangeShapes Go.WideShapes Go.RowKit Go.Deep
set_option linter.unusedVariables false

/-- What is done. -/
structure Ac where
  kind : Int
  area : Int
  off : Int
  size : Int
  n : Int
  at_ : Option Addr
  cap : Nat
  b : List Int
  bl : Bool
  fx : Bool
def Ac.zero : Ac := ⟨0, 0, 0, 0, 0, none, 0, [], false, false⟩
def acAt (l : List Ac) (k : Nat) : Ac := l.getD k Ac.zero
/-- Its cells. -/
def Ac.cell (a : Ac) : Nat → Value
  | 0 => .int .u8 a.kind
  | 1 => .int .i64 a.area
  | 2 => .int .i64 a.off
  | 3 => .int .i64 a.size
  | 4 => .int .u64 a.n
  | 5 => .slice a.at_ a.b.length a.cap
  | 6 => .bool a.bl
  | _ => .bool a.fx
def Ac.ok (w : World) (a : Ac) : Prop :=
  (0 ≤ a.kind ∧ a.kind ≤ 255) ∧ (-9223372036854775808 ≤ a.area ∧ a.area ≤ 9223372036854775807) ∧ (-9223372036854775808 ≤ a.off ∧ a.off ≤ 9223372036854775807) ∧ (-9223372036854775808 ≤ a.size ∧ a.size ≤ 9223372036854775807) ∧ (0 ≤ a.n ∧ a.n ≤ 18446744073709551615) ∧
  BytS w a.at_ a.b ∧ OkB a.b ∧ a.b.length ≤ a.cap ∧ a.cap ≤ maxLen
def ActS (w : World) (A : Option Addr) (l : List Ac) : Prop :=
  0 < l.length → ∃ g o, A = some ⟨g, o, none⟩ ∧ g < w.heap.size ∧ ∀ k, k < l.length → ∀ j, j < 8 → w.cell? ⟨g, o + k * 8 + j, none⟩ = some ((acAt l k).cell j)

section
variable {H : Type} {enc : TypeId × Value → H} {P : Program} {w : World} {base : Nat} {spare : Nat → Bool} {held : Bool}

theorem field_of_trod {t : TypeId} {fs : Array Field} (ht : P.underlying t = some (.struct fs)) {fuel : Nat} {cs : List Value} {x : DataW H × List MemPlace} (h : DataW.trod enc P w base spare held fuel t cs = some x) {i : Nat} {f : Field} (hif : fs[i]? = some f) :
    ∃ y k, DataW.trod enc P w base spare held k f.type ((cs.drop f.offset).take (P.cellsOf f.type)) = some y := by
  obtain ⟨xs, m, _, _, _, hlen, hf⟩ := DataW.trod_struct ht h
  have hi : i < fs.size := (Array.getElem?_eq_some_iff.1 hif).1
  exact ⟨_, m, (hf i f hif).trans (List.getElem?_eq_getElem (by omega))⟩

theorem row_of_trod {fuel : Nat} {v : Value} {x : DataW H × List MemPlace} (hf : DataW.trod enc Try.prog w base (fun _ => true) held fuel 32 [v] = some x) :
    ∃ (A : Option Addr) (c : Nat) (b : List Int), v = .slice A b.length c ∧ BytS w A b ∧ OkB b ∧ b.length ≤ c ∧ c ≤ maxLen := by
  rcases open_ints Try.underlying32 Try.underlying5 (by kernel_rfl) hf with ⟨hcs, _⟩ | ⟨x, l, cc, zs, hcs, _, hl, hm, hz, _, hcell, hwz⟩
  · simp at hcs
    subst hcs
    exact ⟨none, 0, [], rfl, BytS.none_ _ _, fun k hk => absurd hk (by simp), Nat.le_refl _, Nat.zero_le _⟩
  · simp at hcs
    subst hcs
    have hzl : zs.length = cc := by simpa using hz
    have hl2 : (zs.take l).length = l := by rw [List.length_take]; omega
    have hA : ∀ k, k < l → bAt (zs.take l) k = zs.getD k 0 := fun k hk => by
      unfold bAt
      rw [List.getD_eq_getElem?_getD, List.getElem?_take, if_pos hk, ← List.getD_eq_getElem?_getD]
    refine ⟨some x, _, zs.take l, by rw [hl2], fun h0 => ?_, fun k hk => ?_, by rw [hl2]; exact hl, hm⟩
    · rw [hl2] at h0
      obtain ⟨g, o, spot⟩ := x
      have hc0 := hcell 0 (by omega)
      have hspot : spot = none := by simpa [Addr.add] using World.cell?_spot hc0
      subst hspot
      refine ⟨g, o, rfl, ?_, fun k hk => ?_⟩
      · have := lt_of_cell hc0
        rwa [add_spotless] at this
      · rw [hl2] at hk
        rw [hA k hk]
        have := hcell k (by omega)
        rwa [add_spotless] at this
    · rw [hl2] at hk
      rw [hA k hk, List.getD_eq_getElem?_getD, List.getElem?_eq_getElem (by omega)]
      exact bounds_u8 (hwz _ (List.getElem_mem (by omega)))

/-- The cells of one act. -/
theorem act_of_trod {fuel : Nat} {cs : List Value} {x : DataW H × List MemPlace} (h : DataW.trod enc Try.prog w base (fun _ => true) held fuel 34 cs = some x) :
    ∃ a : Ac, a.ok w ∧ ∀ j, j < 8 → cs[j]? = some (a.cell j) := by
  obtain ⟨n0, e0, w0⟩ := LeafOk.int_ (leaf_of_trod 8 _ _ _ _ 0 (some .u8) h (by kernel_rfl))
  obtain ⟨n1, e1, w1⟩ := LeafOk.int_ (leaf_of_trod 8 _ _ _ _ 1 (some .i64) h (by kernel_rfl))
  obtain ⟨n2, e2, w2⟩ := LeafOk.int_ (leaf_of_trod 8 _ _ _ _ 2 (some .i64) h (by kernel_rfl))
  obtain ⟨n3, e3, w3⟩ := LeafOk.int_ (leaf_of_trod 8 _ _ _ _ 3 (some .i64) h (by kernel_rfl))
  obtain ⟨n4, e4, w4⟩ := LeafOk.int_ (leaf_of_trod 8 _ _ _ _ 4 (some .u64) h (by kernel_rfl))
  obtain ⟨v6, e6, b6, rfl⟩ := leaf_of_trod 8 _ _ _ _ 6 none h (by kernel_rfl)
  obtain ⟨v7, e7, b7, rfl⟩ := leaf_of_trod 8 _ _ _ _ 7 none h (by kernel_rfl)
  obtain ⟨y, k, h5⟩ := field_of_trod Try.underlying34 h (i := 5) rfl
  have hc : Try.prog.cellsOf 32 = 1 := by kernel_rfl
  have hlt : 5 < cs.length := by
    rcases Nat.lt_or_ge 5 cs.length with q | q
    · exact q
    · rw [List.getElem?_eq_none (by omega)] at e6
      cases e6
  have h5' : DataW.trod enc Try.prog w base (fun _ => true) held k 32 ((cs.drop 5).take (Try.prog.cellsOf 32)) = some y := h5
  rw [hc, take1_drop cs 5 (.bool false) hlt] at h5'
  obtain ⟨A, c, b, hv, hb, hob, hl, hm⟩ := row_of_trod h5'
  have e5 : cs[5]? = some (.slice A b.length c) := by
    rw [← hv, List.getD_eq_getElem?_getD, List.getElem?_eq_getElem hlt]
    rfl
  refine ⟨⟨n0, n1, n2, n3, n4, A, c, b, b6, b7⟩, ⟨bounds_u8 w0, bounds_i64 w1, bounds_i64 w2, bounds_i64 w3, bounds_u64 w4, hb, hob, hl, hm⟩, fun j hj => ?_⟩
  match j, hj with
  | 0, _ => exact e0
  | 1, _ => exact e1
  | 2, _ => exact e2
  | 3, _ => exact e3
  | 4, _ => exact e4
  | 5, _ => exact e5
  | 6, _ => exact e6
  | 7, _ => exact e7

theorem ActS.none_ (w : World) (A : Option Addr) : ActS w A [] := fun h => absurd h (by simp)

theorem open_acts {r : Reach} {b0 : Nat} {v : Value} {d : DataW H} {p : List MemPlace} (hv : Value.okWide Try.prog w r b0 22 v) (h : DataW.Trod enc Try.prog w base (fun _ => true) held 22 v d p) :
    ∃ (A : Option Addr) (c : Nat) (l : List Ac), v = .slice A l.length c ∧ ActS w A l ∧ (∀ k, k < l.length → (acAt l k).ok w) ∧ l.length ≤ c ∧ c ≤ maxLen := by
  obtain ⟨A, n, c, rfl⟩ := okWide_slice Try.underlying22 hv
  obtain ⟨fuel, hf⟩ := h
  rcases open_slice Try.underlying22 hf with ⟨hcs, _⟩ | ⟨a, len, cap, m, n', D, Pl, hcs, hb, hl, hm, hmm, _, hi⟩
  · simp [Value.cells] at hcs
    obtain ⟨rfl, rfl, rfl⟩ := hcs
    exact ⟨none, 0, [], rfl, ActS.none_ _ _, fun k hk => absurd hk (by simp), Nat.le_refl _, Nat.zero_le _⟩
  · simp [Value.cells] at hcs
    obtain ⟨rfl, rfl, rfl⟩ := hcs
    have hC : Try.prog.cellsOf 34 = 8 := by kernel_rfl
    rw [hC] at hi
    simp only [if_true] at hmm
    subst hmm
    have hx : ∀ i, ∃ x : Ac, i < n → x.ok w ∧ ∀ j, j < 8 → w.cell? ((a.add (i * 8)).add j) = some (x.cell j) := by
      intro i
      by_cases hin : i < n
      · obtain ⟨cs', hc', ht⟩ := hi i (by omega)
        obtain ⟨_, hlen, hat⟩ := World.cells?_some hc'
        obtain ⟨x, hx, hj⟩ := act_of_trod ht
        exact ⟨x, fun _ => ⟨hx, fun j h8 => (hat j h8).trans (hj j h8)⟩⟩
      · exact ⟨Ac.zero, fun h => absurd h hin⟩
    obtain ⟨f, hf⟩ : ∃ f : Nat → Ac, ∀ i, i < n → (f i).ok w ∧ ∀ j, j < 8 → w.cell? ((a.add (i * 8)).add j) = some ((f i).cell j) :=
      ⟨fun i => Classical.choose (hx i), fun i => Classical.choose_spec (hx i)⟩
    clear hx hi
    have hl2 : ((List.range n).map f).length = n := by simp
    have hA : ∀ k, k < n → acAt ((List.range n).map f) k = f k := fun k hk => by
      unfold acAt
      rw [List.getD_eq_getElem?_getD, List.getElem?_map, List.getElem?_range hk]
      rfl
    refine ⟨some a, _, (List.range n).map f, by rw [hl2], fun h0 => ?_, fun k hk => ?_, by rw [hl2]; exact hl, hm⟩
    · rw [hl2] at h0
      obtain ⟨g, o, spot⟩ := a
      have hc0 := (hf 0 h0).2 0 (by omega)
      have hspot : spot = none := by simpa [Addr.add] using World.cell?_spot hc0
      subst hspot
      refine ⟨g, o, rfl, ?_, fun k hk j hj => ?_⟩
      · have := lt_of_cell hc0
        rwa [add_spotless, add_spotless] at this
      · rw [hl2] at hk
        rw [hA k hk]
        have hs := (hf k hk).2 j hj
        rwa [add_spotless, add_spotless] at hs
    · rw [hl2] at hk
      rw [hA k hk]
      exact (hf k hk).1
end

end Go.Proofs.Ytegmhbflgceecaa
