/-
  The statement MachineTwice: for all instructions, whatever is given, and a number of steps, the law returns true: a program given the same ends the same, whatever is asked of one of two machines between, and whatever is done with what it was given.
  Conditions: none beyond the row's own.
-/
import Derived.WalkKit
import Derived.ProofKit
import Derived.OpenShut
import Derived.ChangeOld
import Derived.Below
import Derived.Carry
import Derived.Deep.Slices
import Derived.ChangeSlices
import Derived.Deep.Fields
import Derived.Test.YtlbhffdpklbhfaaGreatPw2
import Derived.Test.YtlbhffdpklbhfaaGreatPz1
import Derived.Test.YtlbhffdpklbhfaaGreatRows
import Derived.Test.YtlbhffdpklbhfaaGreatPz50
import Derived.Test.YtlbhffdpklbhfaaGreatPz40
import Derived.Deep.DeepCutAuto
import Derived.LoopTactic
import Derived.Deep.RegionHeld3
import Derived.Laws.AppendOwn
import Derived.Lib.AppendZeros
import Derived.Deep.RegionHeld
import Derived.Test.YtlbhffdpklbhfaaGreatPz37
import Derived.Test.YtlbhffdpklbhfaaGreatPw1
import Derived.Test.YtlbhffdpklbhfaaGreatPz48
import Derived.Test.YtlbhffdpklbhfaaGreatPz29
import Derived.Test.YtlbhffdpklbhfaaGreatPz49
namespace Go.Proofs.YtlbhffdpklbhfaaGreat
open Go.ChangeShapes Go.WideShapes Go.ChangeAt Go.RowKit Go.Deep
set_option maxRecDepth 100000
set_option linter.unusedVariables false
set_option linter.unusedSimpArgs false
section
variable {H : Type} {enc : TypeId × Value → H} {w : World} {base : Nat} {held : Bool}
theorem rows_of_trod {α : Type} (zero : α) (s : Nat) (st et : TypeId) (hst : Tryz.prog.underlying st = some (.slice et)) (hC : Tryz.prog.cellsOf et = s) (hs : 0 < s) (cell : α → Nat → Value) (ok : α → Prop)
    (elem : ∀ fuel cs x, DataW.trod enc Tryz.prog w base (fun _ => true) held fuel et cs = some x → ∃ a, ok a ∧ ∀ j, j < s → cs[j]? = some (cell a j))
    {fuel : Nat} {cs : List Value} {x : DataW H × List MemPlace} (hf : DataW.trod enc Tryz.prog w base (fun _ => true) held fuel st cs = some x) :
    ∃ (A : Option Addr) (c : Nat) (l : List α), cs = [.slice A l.length c] ∧ (∀ k, k < l.length → ok (l.getD k zero)) ∧ (0 < l.length → ∃ g o, A = some ⟨g, o, none⟩ ∧ g < w.heap.size ∧ ∀ k, k < l.length → ∀ j, j < s → w.cell? ⟨g, o + k * s + j, none⟩ = some (cell (l.getD k zero) j)) ∧ l.length ≤ c ∧ c ≤ maxLen := by
  rcases open_slice hst hf with ⟨hcs, _⟩ | ⟨a, len, cap, m, n', D, Pl, hcs, hb, hl, hm, hmm, _, hi⟩
  · exact ⟨none, 0, [], by simpa using hcs, fun k hk => absurd hk (by simp), fun h => absurd h (by simp), Nat.le_refl _, Nat.zero_le _⟩
  · rw [hC] at hi
    simp only [if_true] at hmm
    subst hmm
    have hx : ∀ i, ∃ x : α, i < len → ok x ∧ ∀ j, j < s → w.cell? ((a.add (i * s)).add j) = some (cell x j) := by
      intro i
      by_cases hin : i < len
      · obtain ⟨cs', hc', ht⟩ := hi i (by omega)
        obtain ⟨_, hlen, hat⟩ := World.cells?_some hc'
        obtain ⟨x, hx, hj⟩ := elem _ _ _ ht
        exact ⟨x, fun _ => ⟨hx, fun j h5 => (hat j h5).trans (hj j h5)⟩⟩
      · exact ⟨zero, fun h => absurd h hin⟩
    obtain ⟨f, hf⟩ : ∃ f : Nat → α, ∀ i, i < len → ok (f i) ∧ ∀ j, j < s → w.cell? ((a.add (i * s)).add j) = some (cell (f i) j) :=
      ⟨fun i => Classical.choose (hx i), fun i => Classical.choose_spec (hx i)⟩
    clear hx hi
    have hl2 : ((List.range len).map f).length = len := by simp
    have hA : ∀ k, k < len → ((List.range len).map f).getD k zero = f k := fun k hk => by
      rw [List.getD_eq_getElem?_getD, List.getElem?_map, List.getElem?_range hk]
      rfl
    refine ⟨some a, _, (List.range len).map f, by rw [hl2]; exact hcs, fun k hk => ?_, fun h0 => ?_, by rw [hl2]; exact hl, hm⟩
    · rw [hl2] at hk
      rw [hA k hk]
      exact (hf k hk).1
    · rw [hl2] at h0
      obtain ⟨g, o, spot⟩ := a
      have hc0 := (hf 0 h0).2 0 hs
      have hspot : spot = none := by simpa [Addr.add] using World.cell?_spot hc0
      subst hspot
      refine ⟨g, o, rfl, ?_, fun k hk j hj => ?_⟩
      · have := lt_of_cell hc0
        rwa [add_spotless, add_spotless] at this
      · rw [hl2] at hk
        rw [hA k hk]
        have hs2 := (hf k hk).2 j hj
        rwa [add_spotless, add_spotless] at hs2
theorem field_trodM {t : TypeId} {fs : Array Field} (ht : Tryz.prog.underlying t = some (.struct fs)) {fuel : Nat} {cs : List Value} {x : DataW H × List MemPlace} (h : DataW.trod enc Tryz.prog w base (fun _ => true) held fuel t cs = some x) {i : Nat} {f : Field} (hif : fs[i]? = some f) :
    ∃ y k, DataW.trod enc Tryz.prog w base (fun _ => true) held k f.type ((cs.drop f.offset).take (Tryz.prog.cellsOf f.type)) = some y := by
  obtain ⟨xs, m, _, _, _, hlen, hf⟩ := DataW.trod_struct ht h
  have hi : i < fs.size := (Array.getElem?_eq_some_iff.1 hif).1
  exact ⟨_, m, (hf i f hif).trans (List.getElem?_eq_getElem (by omega))⟩
theorem one_of {cs : List Value} {i : Nat} {v : Value} (h : (cs.drop i).take 1 = [v]) : cs[i]? = some v := by
  have q := congrArg (fun l : List Value => l[0]?) h
  simpa using q
theorem byts_trod {fuel : Nat} {cs : List Value} {x : DataW H × List MemPlace} (h : DataW.trod enc Tryz.prog w base (fun _ => true) held fuel 23 cs = some x) :
    ∃ A c b, cs = [.slice A b.length c] ∧ BytS w A b ∧ OkB b ∧ b.length ≤ c ∧ c ≤ maxLen := by
  obtain ⟨A, c, l, e, h1, h2, h3, h4⟩ := rows_of_trod (0 : Int) 1 23 5 Tryz.underlying23 (by kernel_rfl) (by omega) (fun n _ => .int .u8 n) (fun n => 0 ≤ n ∧ n ≤ 255) (fun fuel cs x h => by
    obtain ⟨n0, e0, w0⟩ := LeafOk.int_ (leaf_of_trod 8 _ _ _ _ 0 (some .u8) h (by kernel_rfl))
    exact ⟨n0, bounds_u8 w0, fun j hj => by rw [show j = 0 by omega]; exact e0⟩) h
  refine ⟨A, c, l, e, fun h0 => ?_, h1, h3, h4⟩
  obtain ⟨g, o, e, hg, hc⟩ := h2 h0
  exact ⟨g, o, e, hg, fun k hk => by have := hc k hk 0 (by omega); rwa [Nat.mul_one, Nat.add_zero] at this⟩
theorem nums_trod {fuel : Nat} {cs : List Value} {x : DataW H × List MemPlace} (h : DataW.trod enc Tryz.prog w base (fun _ => true) held fuel 26 cs = some x) :
    ∃ A c b, cs = [.slice A b.length c] ∧ NumS w A b ∧ OkN b ∧ b.length ≤ c ∧ c ≤ maxLen := by
  obtain ⟨A, c, l, e, h1, h2, h3, h4⟩ := rows_of_trod (0 : Int) 1 26 42 Tryz.underlying26 (by kernel_rfl) (by omega) (fun n _ => .int .u64 n) (fun n => 0 ≤ n ∧ n ≤ 18446744073709551615) (fun fuel cs x h => by
    obtain ⟨n0, e0, w0⟩ := LeafOk.int_ (leaf_of_trod 8 _ _ _ _ 0 (some .u64) h (by kernel_rfl))
    exact ⟨n0, bounds_u64 w0, fun j hj => by rw [show j = 0 by omega]; exact e0⟩) h
  refine ⟨A, c, l, e, fun h0 => ?_, h1, h3, h4⟩
  obtain ⟨g, o, e, hg, hc⟩ := h2 h0
  exact ⟨g, o, e, hg, fun k hk => by have := hc k hk 0 (by omega); rwa [Nat.mul_one, Nat.add_zero] at this⟩
def dfCell (d : Df) : Nat → Value
  | 0 => .bool d.hash
  | 1 => .int .i64 d.key
  | 2 => .int .i64 d.val
  | _ => .int .i64 d.max
theorem defs_trod {fuel : Nat} {cs : List Value} {x : DataW H × List MemPlace} (h : DataW.trod enc Tryz.prog w base (fun _ => true) held fuel 24 cs = some x) :
    ∃ A c D, cs = [.slice A D.length c] ∧ DefS w A D ∧ D.length ≤ c ∧ c ≤ maxLen := by
  obtain ⟨A, c, l, e, h1, h2, h3, h4⟩ := rows_of_trod Df.zero 4 24 74 Tryz.underlying24 (by kernel_rfl) (by omega) dfCell (fun _ => True) (fun fuel cs x h => by
    obtain ⟨u0, e0, b, rfl⟩ := leaf_of_trod 8 _ _ _ _ 0 none h (by kernel_rfl)
    obtain ⟨n1, e1, w1⟩ := LeafOk.int_ (leaf_of_trod 8 _ _ _ _ 1 (some .i64) h (by kernel_rfl))
    obtain ⟨n2, e2, w2⟩ := LeafOk.int_ (leaf_of_trod 8 _ _ _ _ 2 (some .i64) h (by kernel_rfl))
    obtain ⟨n3, e3, w3⟩ := LeafOk.int_ (leaf_of_trod 8 _ _ _ _ 3 (some .i64) h (by kernel_rfl))
    refine ⟨⟨b, n1, n2, n3⟩, trivial, fun j hj => ?_⟩
    have : j = 0 ∨ j = 1 ∨ j = 2 ∨ j = 3 := by omega
    rcases this with rfl | rfl | rfl | rfl
    · exact e0
    · exact e1
    · exact e2
    · exact e3) h
  refine ⟨A, c, l, e, fun h0 => ?_, h3, h4⟩
  obtain ⟨g, o, e, hg, hc⟩ := h2 h0
  exact ⟨g, o, e, hg, fun k hk => ⟨hc k hk 0 (by omega), hc k hk 1 (by omega), hc k hk 2 (by omega), hc k hk 3 (by omega)⟩⟩
def itCell (y : Itm) : Nat → Value
  | 0 => .slice y.a y.k.length y.c
  | _ => .slice y.b y.v.length y.d
theorem items_trod {fuel : Nat} {cs : List Value} {x : DataW H × List MemPlace} (h : DataW.trod enc Tryz.prog w base (fun _ => true) held fuel 82 cs = some x) :
    ∃ A c l, cs = [.slice A l.length c] ∧ ItmS w A l ∧ (∀ k, k < l.length → ItmOk (xAt l k)) ∧ l.length ≤ c ∧ c ≤ maxLen := by
  have hc : Tryz.prog.cellsOf 23 = 1 := by kernel_rfl
  obtain ⟨A, c, l, e, h1, h2, h3, h4⟩ := rows_of_trod Itm.zero 2 82 84 Tryz.underlying82 (by kernel_rfl) (by omega) itCell (fun y => ItmOk y ∧ BytS w y.a y.k ∧ BytS w y.b y.v) (fun fuel cs x h => by
    obtain ⟨y2, k2, g2⟩ := field_trodM Tryz.underlying84 h (i := 0) rfl
    have g2' : DataW.trod enc Tryz.prog w base (fun _ => true) held k2 23 ((cs.drop 0).take (Tryz.prog.cellsOf 23)) = some y2 := g2
    rw [hc] at g2'
    obtain ⟨a, c, k, e1, p1, p2, p3, p4⟩ := byts_trod g2'
    obtain ⟨y3, k3, g3⟩ := field_trodM Tryz.underlying84 h (i := 1) rfl
    have g3' : DataW.trod enc Tryz.prog w base (fun _ => true) held k3 23 ((cs.drop 1).take (Tryz.prog.cellsOf 23)) = some y3 := g3
    rw [hc] at g3'
    obtain ⟨b, d, v, e2, q1, q2, q3, q4⟩ := byts_trod g3'
    refine ⟨⟨k, v, a, c, b, d⟩, ⟨⟨⟨p2, p3, p4⟩, ⟨q2, q3, q4⟩⟩, p1, q1⟩, fun j hj => ?_⟩
    have : j = 0 ∨ j = 1 := by omega
    rcases this with rfl | rfl
    · exact one_of e1
    · exact one_of e2) h
  refine ⟨A, c, l, e, fun h0 => ?_, fun k hk => (h1 k hk).1, h3, h4⟩
  obtain ⟨g, o, e, hg, hcc⟩ := h2 h0
  exact ⟨g, o, e, hg, fun k hk => ⟨⟨hcc k hk 0 (by omega), hcc k hk 1 (by omega)⟩, (h1 k hk).2.1, (h1 k hk).2.2⟩⟩
theorem rows_trod {fuel : Nat} {cs : List Value} {x : DataW H × List MemPlace} (h : DataW.trod enc Tryz.prog w base (fun _ => true) held fuel 25 cs = some x) :
    ∃ A c L, cs = [.slice A L.length c] ∧ IsS w A L ∧ (∀ k, k < L.length → (∀ j, j < (irAt L k).l.length → ItmOk (xAt (irAt L k).l j)) ∧ (irAt L k).l.length ≤ (irAt L k).c ∧ (irAt L k).c ≤ maxLen) ∧ L.length ≤ c ∧ c ≤ maxLen := by
  obtain ⟨A, c, l, e, h1, h2, h3, h4⟩ := rows_of_trod IR.zero 1 25 82 Tryz.underlying25 (by kernel_rfl) (by omega) (fun r _ => irV r) (fun r => ItmS w r.a r.l ∧ (∀ j, j < r.l.length → ItmOk (xAt r.l j)) ∧ r.l.length ≤ r.c ∧ r.c ≤ maxLen) (fun fuel cs x h => by
    obtain ⟨a, c, l, e, p1, p2, p3, p4⟩ := items_trod h
    exact ⟨⟨a, c, l⟩, ⟨p1, p2, p3, p4⟩, fun j hj => by rw [show j = 0 by omega, e]; rfl⟩) h
  refine ⟨A, c, l, e, fun h0 => ?_, fun k hk => (h1 k hk).2, h3, h4⟩
  obtain ⟨g, o, e, hg, hcc⟩ := h2 h0
  exact ⟨g, o, e, hg, fun k hk => ⟨by have := hcc k hk 0 (by omega); rwa [Nat.mul_one, Nat.add_zero] at this, (h1 k hk).1⟩⟩
theorem open_env {r : Reach} {b0 : Nat} {v : Value} {d : DataW H} {p : List MemPlace} (hv : Value.okWide Tryz.prog w r b0 28 v) (h : DataW.Trod enc Tryz.prog w base (fun _ => true) held 28 v d p) :
    ∃ E : EV, v = envV E ∧ EnvS w E ∧ E.raw := by
  obtain ⟨l, rfl, hl⟩ := agg_of_struct Tryz.underlying28 hv
  have hc : Tryz.prog.cellsOf 28 = 4 := by kernel_rfl
  have hc0 : Tryz.prog.cellsOf 23 = 1 := by kernel_rfl
  have hc1 : Tryz.prog.cellsOf 24 = 1 := by kernel_rfl
  have hc2 : Tryz.prog.cellsOf 25 = 1 := by kernel_rfl
  have hc3 : Tryz.prog.cellsOf 26 = 1 := by kernel_rfl
  rw [hc] at hl
  obtain ⟨fuel, hf⟩ := h
  match l, hl with
  | [v0, v1, v2, v3], _ =>
    obtain ⟨y0, k0, g0⟩ := field_trodM Tryz.underlying28 hf (i := 0) rfl
    have g0' : DataW.trod enc Tryz.prog w base (fun _ => true) held k0 23 [v0] = some y0 := by
      have q : DataW.trod enc Tryz.prog w base (fun _ => true) held k0 23 (([v0, v1, v2, v3].drop 0).take (Tryz.prog.cellsOf 23)) = some y0 := by simpa [Value.cells] using g0
      rw [hc0] at q
      exact q
    obtain ⟨y1, k1, g1⟩ := field_trodM Tryz.underlying28 hf (i := 1) rfl
    have g1' : DataW.trod enc Tryz.prog w base (fun _ => true) held k1 24 [v1] = some y1 := by
      have q : DataW.trod enc Tryz.prog w base (fun _ => true) held k1 24 (([v0, v1, v2, v3].drop 1).take (Tryz.prog.cellsOf 24)) = some y1 := by simpa [Value.cells] using g1
      rw [hc1] at q
      exact q
    obtain ⟨y2, k2, g2⟩ := field_trodM Tryz.underlying28 hf (i := 2) rfl
    have g2' : DataW.trod enc Tryz.prog w base (fun _ => true) held k2 25 [v2] = some y2 := by
      have q : DataW.trod enc Tryz.prog w base (fun _ => true) held k2 25 (([v0, v1, v2, v3].drop 2).take (Tryz.prog.cellsOf 25)) = some y2 := by simpa [Value.cells] using g2
      rw [hc2] at q
      exact q
    obtain ⟨y3, k3, g3⟩ := field_trodM Tryz.underlying28 hf (i := 3) rfl
    have g3' : DataW.trod enc Tryz.prog w base (fun _ => true) held k3 26 [v3] = some y3 := by
      have q : DataW.trod enc Tryz.prog w base (fun _ => true) held k3 26 (([v0, v1, v2, v3].drop 3).take (Tryz.prog.cellsOf 26)) = some y3 := by simpa [Value.cells] using g3
      rw [hc3] at q
      exact q
    obtain ⟨ca, cc, ctx, e0, p1, p2, p3, p4⟩ := byts_trod g0'
    obtain ⟨da, dc, D, e1, q1, q2, q3⟩ := defs_trod g1'
    obtain ⟨ia, ic, L, e2, r1, r2, r3, r4⟩ := rows_trod g2'
    obtain ⟨na, nc, dr, e3, s1, s2, s3, s4⟩ := nums_trod g3'
    injection e0 with e0
    injection e1 with e1
    injection e2 with e2
    injection e3 with e3
    subst e0 e1 e2 e3
    exact ⟨⟨ctx, ca, cc, D, da, dc, L, ia, ic, dr, na, nc⟩, rfl, ⟨p1, q1, r1, s1⟩, ⟨⟨p2, p3, p4⟩, ⟨q2, q3⟩, ⟨r2, r3, r4⟩, ⟨s2, s3, s4⟩⟩⟩
end
end Go.Proofs.YtlbhffdpklbhfaaGreat
namespace Go.Proofs.YtlbhffdpklbhfaaGreat
open Go.ChangeShapes Go.WideShapes Go.RowKit Go.Deep
set_option maxRecDepth 100000
set_option linter.unusedVariables false
section
variable {H : Type} {enc : TypeId × Value → H} {w : World} {base : Nat} {spare : Nat → Bool} {held : Bool}
theorem open_insns {r : Reach} {b0 : Nat} {v : Value} {d : DataW H} {p : List MemPlace} (hv : Value.okWide Tryz.prog w r b0 22 v) (h : DataW.Trod enc Tryz.prog w base (fun _ => true) held 22 v d p) :
    ∃ (A : Option Addr) (c : Nat) (l : List Ins), v = .slice A l.length c ∧ InsS w A l ∧ OkAll l ∧ l.length ≤ c ∧ c ≤ maxLen := by
  obtain ⟨A, n, c, rfl⟩ := okWide_slice Tryz.underlying22 hv
  obtain ⟨fuel, hf⟩ := h
  rcases open_slice Tryz.underlying22 hf with ⟨hcs, _⟩ | ⟨a, len, cap, m, n', D, Pl, hcs, hb, hl, hm, hmm, _, hi⟩
  · simp [Value.cells] at hcs
    obtain ⟨rfl, rfl, rfl⟩ := hcs
    exact ⟨none, 0, [], rfl, InsS.none_ _ _, fun k hk => absurd hk (by simp), Nat.le_refl _, Nat.zero_le _⟩
  · simp [Value.cells] at hcs
    obtain ⟨rfl, rfl, rfl⟩ := hcs
    have hC : Tryz.prog.cellsOf 63 = 5 := by kernel_rfl
    rw [hC] at hi
    simp only [if_true] at hmm
    subst hmm
    have hx : ∀ i, ∃ x : Ins, i < n → x.ok ∧ w.cell? (a.add (i * 5)) = some (.int .u8 x.op) ∧ w.cell? ((a.add (i * 5)).add 1) = some (.int .u8 x.dst) ∧ w.cell? ((a.add (i * 5)).add 2) = some (.int .u8 x.src) ∧ w.cell? ((a.add (i * 5)).add 3) = some (.int .i16 x.off) ∧ w.cell? ((a.add (i * 5)).add 4) = some (.int .i32 x.imm) := by
      intro i
      by_cases hin : i < n
      · obtain ⟨cs', hc', ht⟩ := hi i (by omega)
        obtain ⟨_, hlen, hat⟩ := World.cells?_some hc'
        obtain ⟨n0, e0, w0⟩ := LeafOk.int_ (leaf_of_trod 8 _ _ _ _ 0 (some .u8) ht (by kernel_rfl))
        obtain ⟨n1, e1, w1⟩ := LeafOk.int_ (leaf_of_trod 8 _ _ _ _ 1 (some .u8) ht (by kernel_rfl))
        obtain ⟨n2, e2, w2⟩ := LeafOk.int_ (leaf_of_trod 8 _ _ _ _ 2 (some .u8) ht (by kernel_rfl))
        obtain ⟨n3, e3, w3⟩ := LeafOk.int_ (leaf_of_trod 8 _ _ _ _ 3 (some .i16) ht (by kernel_rfl))
        obtain ⟨n4, e4, w4⟩ := LeafOk.int_ (leaf_of_trod 8 _ _ _ _ 4 (some .i32) ht (by kernel_rfl))
        have h0 : w.cell? (a.add (i * 5)) = cs'[0]? := by
          have := hat 0 (by omega)
          unfold Addr.add at this
          simpa [Addr.add] using this
        exact ⟨⟨n0, n1, n2, n3, n4⟩, fun _ => ⟨⟨bounds_u8 w0, bounds_u8 w1, bounds_u8 w2, bounds_i16 w3, bounds_i32 w4⟩, h0.trans e0, (hat 1 (by omega)).trans e1, (hat 2 (by omega)).trans e2, (hat 3 (by omega)).trans e3, (hat 4 (by omega)).trans e4⟩⟩
      · exact ⟨Ins.zero, fun h => absurd h hin⟩
    obtain ⟨f, hf⟩ : ∃ f : Nat → Ins, ∀ i, i < n → (f i).ok ∧ w.cell? (a.add (i * 5)) = some (.int .u8 (f i).op) ∧ w.cell? ((a.add (i * 5)).add 1) = some (.int .u8 (f i).dst) ∧ w.cell? ((a.add (i * 5)).add 2) = some (.int .u8 (f i).src) ∧ w.cell? ((a.add (i * 5)).add 3) = some (.int .i16 (f i).off) ∧ w.cell? ((a.add (i * 5)).add 4) = some (.int .i32 (f i).imm) :=
      ⟨fun i => Classical.choose (hx i), fun i => Classical.choose_spec (hx i)⟩
    clear hx hi
    have hl2 : ((List.range n).map f).length = n := by simp
    have hA : ∀ k, k < n → iAt ((List.range n).map f) k = f k := fun k hk => by
      unfold iAt
      rw [List.getD_eq_getElem?_getD, List.getElem?_map, List.getElem?_range hk]
      rfl
    refine ⟨some a, _, (List.range n).map f, by rw [hl2], fun h0 => ?_, fun k hk => ?_, by rw [hl2]; exact hl, hm⟩
    · rw [hl2] at h0
      obtain ⟨g, o, spot⟩ := a
      have hc0 := (hf 0 h0).2.1
      have hspot : spot = none := by simpa [Addr.add] using World.cell?_spot hc0
      subst hspot
      refine ⟨g, o, rfl, ?_, fun k hk => ?_⟩
      · have := lt_of_cell hc0
        rwa [add_spotless] at this
      · rw [hl2] at hk
        rw [hA k hk]
        have hs := (hf k hk).2
        simp only [add_spotless] at hs
        exact hs
    · rw [hl2] at hk
      rw [hA k hk]
      exact (hf k hk).1
end
end Go.Proofs.YtlbhffdpklbhfaaGreat
namespace Go.Proofs.YtlbhffdpklbhfaaGreat
open Go.ChangeShapes Go.WideShapes Go.ChangeAt Go.RowKit
set_option linter.unusedVariables false
set_option maxRecDepth 100000 in
theorem mtwice_lifted (os : Os) (started : os.Started) (H : Type) (enc : TypeId × Value → H) :
    ReturnsInHanded {} Tryz.checked os 6 .any (Rows.machineTwiceSpec.pre6 enc Tryz.prog Tryz.f6 Rows.machineTwiceRow.domain false) (Rows.machineTwiceSpec.post enc Tryz.prog Tryz.f6 false true false false) := by
  refine law_lifted (C := Tryz.checked) own_none started (by kernel_rfl) Tryz.func6
    (ChangeSpec.witness6 (enc := enc) (C := Tryz.checked) false ⟨#[], #[.slice none 0 0, .agg #[.slice none 0 0, .slice none 0 0, .slice none 0 0, .slice none 0 0], .int .u16 0], []⟩ 8 (by kernel_rfl) (by kernel_rfl) (by kernel_rfl) (by kernel_rfl))
    laid_out rfl rfl Tryz.underlying4 (by kernel_rfl) (fun ds hd => by match ds, hd with | [d1, d2, d3], _ => rfl) ?_
  intro W base args ds p hval hA
  rw [Tryz.params6] at hval hA
  obtain ⟨v0, v1, v2, d0, d1, d2, p0, p1, p2, rfl, rfl, rfl, h0, h1, h2⟩ := trodAll_three hA
  obtain ⟨A, c, l, rfl, hi, ho, hc, hm⟩ := open_insns (hval 0 _ _ rfl rfl) h0
  obtain ⟨E, rfl, hE, hraw⟩ := open_env (hval 1 _ _ rfl rfl) h1
  obtain ⟨f1, rfl, _, _, wf1⟩ := open_int Tryz.underlying29 (hval 2 _ _ rfl rfl) h2
  cases hp : mLaw l E with
  | none => exact l11_Twice_none W l A c E f1 hi ho hc hm hE hraw hp
  | some S => exact l11_Twice_some W l A c E f1 hi ho hc hm hE hraw S hp (bounds_u16 wf1)
theorem mtwice_holds : Rows.MachineTwiceSaid :=
  OpenClaim.holds_of_wide 6 Tryz.f6 rfl rfl rfl rfl rfl rfl rfl ⟨rfl, rfl, rfl, rfl, rfl⟩ rfl rfl rfl rfl rfl (by kernel_rfl) Tryz.func6 (by kernel_rfl)
    (of_decide_eq_true (by kernel_rfl)) (by unfold Func.isWrapper; first | (rw [if_pos (by decide +kernel)]; kernel_rfl) | (rw [if_neg (by decide +kernel)]; exact ⟨rfl, rfl⟩))
    (fun os started H enc _ => mtwice_lifted os started H enc)
#print axioms mtwice_holds
end Go.Proofs.YtlbhffdpklbhfaaGreat
