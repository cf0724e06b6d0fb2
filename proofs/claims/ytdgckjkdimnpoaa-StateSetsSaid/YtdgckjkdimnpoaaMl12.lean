/-
  Texts, one behind the other: StOpen, StYield, StSame, StMade, StMade2, StRight, StOps, StOps2, StStack, FrameSized.
  Conditions: those that each theorem states.
-/
import Derived.Deep.Fields
import Derived.Deep.MidRow
import Derived.Test.YtdgckjkdimnpoaaMl6
import Derived.Test.YtdgckjkdimnpoaaMl8
import Derived.Test.YtdgckjkdimnpoaaMl11
import Derived.Deep.RegionHeld
import Derived.SizedLaws

namespace Go.Proofs.Ytdgckjkdimnpoaa
open Go.ChangeShapes Go.WideShapes Go.RowKit Go.Deep
set_option maxRecDepth 100000
set_option linter.unusedVariables false

def vKind : Nat → IntKind
  | 0 => .u8
  | 1 => .u64
  | 2 => .u64
  | 3 => .u64
  | 4 => .u64
  | 5 => .i64
  | 6 => .i64
  | _ => .u8
def stKind (j : Nat) : IntKind := if j < 77 then vKind (j % 7) else vKind ((j - 77) % 8)
theorem st_leaf : ∀ j, j < 589 → leafAt Try.prog 8 36 j = some (some (stKind j)) := by
  have h : ((List.range 589).all fun j => decide (leafAt Try.prog 8 36 j = some (some (stKind j)))) = true := by kernel_rfl
  intro j hj
  exact of_decide_eq_true (List.all_eq_true.mp h j (List.mem_range.mpr hj))
/-- Seven numbers as a Val. -/
def vlOf (f : Nat → Int) (o : Nat) : Vl := ⟨f o, ((BitVec.ofInt 64 (f (o + 1)), BitVec.ofInt 64 (f (o + 2))), (f (o + 3), f (o + 4))), f (o + 5), f (o + 6)⟩
theorem uV_ofInt {n : Int} (h : 0 ≤ n ∧ n ≤ 18446744073709551615) : (uV (BitVec.ofInt 64 n) : Value) = .int .u64 n := by
  show Value.int .u64 _ = _
  rw [BitVec.toNat_ofInt]
  congr 1
  omega
theorem bV_ofInt {n : Int} (h : 0 ≤ n ∧ n ≤ 255) : (bV (BitVec.ofInt 8 n) : Value) = .int .u8 n := by
  show Value.int .u8 _ = _
  rw [BitVec.toNat_ofInt]
  congr 1
  omega
theorem vlOf_get {f : Nat → Int} {o m : Nat} (hw : ∀ k, k < 7 → (Lit.int (vKind k) (f (o + k))).wf = true) (hm : m < 7) : (vL (vlOf f o))[m]? = some (.int (vKind m) (f (o + m))) := by
  match m, hm with
  | 0, _ => rfl
  | 1, _ => exact congrArg some (uV_ofInt (bounds_u64 (hw 1 (by omega))))
  | 2, _ => exact congrArg some (uV_ofInt (bounds_u64 (hw 2 (by omega))))
  | 3, _ => rfl
  | 4, _ => rfl
  | 5, _ => rfl
  | 6, _ => rfl
theorem vlOf_in {f : Nat → Int} {o : Nat} (hw : ∀ k, k < 7 → (Lit.int (vKind k) (f (o + k))).wf = true) : vIn (vlOf f o) :=
  ⟨bounds_u8 (hw 0 (by omega)), ⟨bounds_u64 (hw 3 (by omega)), bounds_u64 (hw 4 (by omega))⟩, bounds_i64 (hw 5 (by omega)), bounds_i64 (hw 6 (by omega))⟩
theorem st_of_cells {l : List Value} (hl : l.length = 589) (h : ∀ j, j < 589 → ∃ n, l[j]? = some (.int (stKind j) n) ∧ (Lit.int (stKind j) n).wf = true) : ∃ x : St, l = stL x ∧ stIn x := by
  obtain ⟨f, hf⟩ : ∃ f : Nat → Int, ∀ j, j < 589 → l[j]? = some (.int (stKind j) (f j)) ∧ (Lit.int (stKind j) (f j)).wf = true := by
    have h' : ∀ j, ∃ n, j < 589 → l[j]? = some (.int (stKind j) n) ∧ (Lit.int (stKind j) n).wf = true := fun j => by
      by_cases hj : j < 589
      · obtain ⟨n, hn⟩ := h j hj
        exact ⟨n, fun _ => hn⟩
      · exact ⟨0, fun hk => absurd hk hj⟩
    exact ⟨fun j => Classical.choose (h' j), fun j => Classical.choose_spec (h' j)⟩
  have k1 : ∀ i m, i < 11 → m < 7 → stKind (7 * i + m) = vKind m := fun i m hi hm => by
    unfold stKind
    rw [if_pos (by omega), show (7 * i + m) % 7 = m by omega]
  have k2 : ∀ i m, i < 64 → m < 8 → stKind (77 + 8 * i + m) = vKind m := fun i m hi hm => by
    unfold stKind
    rw [if_neg (by omega), show (77 + 8 * i + m - 77) % 8 = m by omega]
  have w1 : ∀ i, i < 11 → ∀ k, k < 7 → (Lit.int (vKind k) (f (7 * i + k))).wf = true := fun i hi k hk => by
    rw [← k1 i k hi hk]
    exact (hf (7 * i + k) (by omega)).2
  have w2 : ∀ i, i < 64 → ∀ k, k < 8 → (Lit.int (vKind k) (f (77 + 8 * i + k))).wf = true := fun i hi k hk => by
    rw [← k2 i k hi hk]
    exact (hf (77 + 8 * i + k) (by omega)).2
  refine ⟨⟨fun i => if i < 11 then vlOf f (7 * i) else vZ, fun i => if i < 64 then ⟨vlOf f (77 + 8 * i), BitVec.ofInt 8 (f (77 + 8 * i + 7))⟩ else slZ⟩, ?_, fun i => ?_, fun i => ?_⟩
  · refine getElem?_ext' hl (stL_len _) fun k hk => ?_
    rw [(hf k hk).1]
    by_cases h7 : k < 77
    · rw [stL_lo _ h7]
      show _ = (vL (if k / 7 < 11 then vlOf f (7 * (k / 7)) else vZ))[k % 7]?
      rw [if_pos (by omega), vlOf_get (w1 (k / 7) (by omega)) (by omega), ← k1 (k / 7) (k % 7) (by omega) (by omega), show 7 * (k / 7) + k % 7 = k by omega]
    · rw [stL_hi _ (by omega) hk]
      show _ = (slL (if (k - 77) / 8 < 64 then (⟨vlOf f (77 + 8 * ((k - 77) / 8)), BitVec.ofInt 8 (f (77 + 8 * ((k - 77) / 8) + 7))⟩ : Sl) else slZ))[(k - 77) % 8]?
      rw [if_pos (by omega), slL_app]
      obtain ⟨i, hi⟩ : ∃ i, i = (k - 77) / 8 := ⟨_, rfl⟩
      obtain ⟨m, hm⟩ : ∃ m, m = (k - 77) % 8 := ⟨_, rfl⟩
      have ek : k = 77 + 8 * i + m := by omega
      rw [← hi, ← hm]
      have hi64 : i < 64 := by omega
      have hm8 : m < 8 := by omega
      rw [ek, k2 i m hi64 hm8]
      by_cases h6 : m < 7
      · rw [List.getElem?_append_left (by rw [vL_len]; exact h6), vlOf_get (fun q hq => w2 i hi64 q (by omega)) h6]
      · have : m = 7 := by omega
        subst this
        rw [List.getElem?_append_right (by rw [vL_len]; omega), vL_len]
        exact congrArg some (bV_ofInt (bounds_u8 (w2 i hi64 7 (by omega)))).symm
  · show vIn (if i < 11 then vlOf f (7 * i) else vZ)
    by_cases hi : i < 11
    · rw [if_pos hi]
      exact vlOf_in (w1 i hi)
    · rw [if_neg hi]
      exact stvZ_in
  · show vIn (if i < 64 then (⟨vlOf f (77 + 8 * i), BitVec.ofInt 8 (f (77 + 8 * i + 7))⟩ : Sl) else slZ).v
    by_cases hi : i < 64
    · rw [if_pos hi]
      exact vlOf_in fun q hq => w2 i hi q (by omega)
    · rw [if_neg hi]
      exact stvZ_in
/-- What is put. -/
structure Sa where
  k : Int
  o : Int
  z : Int
  v : Vl
def Sa.zero : Sa := ⟨0, 0, 0, vZ⟩
def saAt (l : List Sa) (k : Nat) : Sa := l.getD k Sa.zero
abbrev saC (a : Sa) : Array Value := #[.int .u8 a.k, .int .i64 a.o, .int .i64 a.z, .int .u8 a.v.k, uV a.v.n.1.1, uV a.v.n.1.2, .int .u64 a.v.n.2.1, .int .u64 a.v.n.2.2, .int .i64 a.v.i, .int .i64 a.v.o]
abbrev saV (a : Sa) : Value := .agg #[.int .u8 a.k, .int .i64 a.o, .int .i64 a.z, .int .u8 a.v.k, uV a.v.n.1.1, uV a.v.n.1.2, .int .u64 a.v.n.2.1, .int .u64 a.v.n.2.2, .int .i64 a.v.i, .int .i64 a.v.o]
def saL (a : Sa) : List Value := [.int .u8 a.k, .int .i64 a.o, .int .i64 a.z, .int .u8 a.v.k, uV a.v.n.1.1, uV a.v.n.1.2, .int .u64 a.v.n.2.1, .int .u64 a.v.n.2.2, .int .i64 a.v.i, .int .i64 a.v.o]
theorem saL_len (a : Sa) : (saL a).length = 10 := rfl
def saIn (a : Sa) : Prop := (0 ≤ a.k ∧ a.k ≤ 255) ∧ (-9223372036854775808 ≤ a.o ∧ a.o ≤ 9223372036854775807) ∧ (-9223372036854775808 ≤ a.z ∧ a.z ≤ 9223372036854775807) ∧ vIn a.v
theorem saZ_in : saIn Sa.zero := ⟨by decide, by decide, by decide, stvZ_in⟩
def SaS (w : World) (A : Option Addr) (l : List Sa) : Prop :=
  0 < l.length → ∃ g o, A = some ⟨g, o, none⟩ ∧ g < w.heap.size ∧ ∀ k, k < l.length → w.rangeAt g (o + k * 10) (saL (saAt l k))
theorem SaS.none_ (w : World) (A : Option Addr) : SaS w A [] := fun h => absurd h (by simp)
theorem SaS.below {w w' : World} {A : Option Addr} {l : List Sa} (h : SaS w A l) (b : Below w.heap.size w w') : SaS w' A l := fun h0 => by
  obtain ⟨g, o, hA, hg, hr⟩ := h h0
  refine ⟨g, o, hA, Nat.lt_of_lt_of_le hg b.size, fun k hk j v hv => ?_⟩
  rw [b.cell (p := ⟨g, o + k * 10 + j, none⟩) hg]
  exact hr k hk j v hv

section
variable {H : Type} {enc : TypeId × Value → H} {w : World} {base : Nat} {spare : Nat → Bool} {held : Bool}
theorem open_state {r : Reach} {b0 : Nat} {v : Value} {d : DataW H} {p : List MemPlace} (hv : Value.okWide Try.prog w r b0 36 v) (h : DataW.Trod enc Try.prog w base spare held 36 v d p) :
    ∃ x : St, v = stV x ∧ stIn x := by
  obtain ⟨l, rfl, hl⟩ := agg_of_struct Try.underlying36 hv
  have hc : Try.prog.cellsOf 36 = 589 := by kernel_rfl
  rw [hc] at hl
  obtain ⟨x, hx, hi⟩ := st_of_cells hl fun j hj => by
    obtain ⟨n, e, wf⟩ := LeafOk.int_ (leaf_of_Trod h 8 j (st_leaf j hj))
    exact ⟨n, by simpa [Value.cells] using e, wf⟩
  subst hx
  exact ⟨x, rfl, hi⟩
theorem sact_of_trod {fuel : Nat} {cs : List Value} {x : DataW H × List MemPlace} (h : DataW.trod enc Try.prog w base spare held fuel 43 cs = some x) :
    ∃ a : Sa, saIn a ∧ ∀ j, j < 10 → cs[j]? = (saL a)[j]? := by
  obtain ⟨n0, e0, w0⟩ := LeafOk.int_ (leaf_of_trod 8 _ _ _ _ 0 (some .u8) h (by kernel_rfl))
  obtain ⟨n1, e1, w1⟩ := LeafOk.int_ (leaf_of_trod 8 _ _ _ _ 1 (some .i64) h (by kernel_rfl))
  obtain ⟨n2, e2, w2⟩ := LeafOk.int_ (leaf_of_trod 8 _ _ _ _ 2 (some .i64) h (by kernel_rfl))
  obtain ⟨n3, e3, w3⟩ := LeafOk.int_ (leaf_of_trod 8 _ _ _ _ 3 (some .u8) h (by kernel_rfl))
  obtain ⟨n4, e4, w4⟩ := LeafOk.int_ (leaf_of_trod 8 _ _ _ _ 4 (some .u64) h (by kernel_rfl))
  obtain ⟨n5, e5, w5⟩ := LeafOk.int_ (leaf_of_trod 8 _ _ _ _ 5 (some .u64) h (by kernel_rfl))
  obtain ⟨n6, e6, w6⟩ := LeafOk.int_ (leaf_of_trod 8 _ _ _ _ 6 (some .u64) h (by kernel_rfl))
  obtain ⟨n7, e7, w7⟩ := LeafOk.int_ (leaf_of_trod 8 _ _ _ _ 7 (some .u64) h (by kernel_rfl))
  obtain ⟨n8, e8, w8⟩ := LeafOk.int_ (leaf_of_trod 8 _ _ _ _ 8 (some .i64) h (by kernel_rfl))
  obtain ⟨n9, e9, w9⟩ := LeafOk.int_ (leaf_of_trod 8 _ _ _ _ 9 (some .i64) h (by kernel_rfl))
  obtain ⟨x, rfl⟩ := bv_of (bounds_u64 w4)
  obtain ⟨y, rfl⟩ := bv_of (bounds_u64 w5)
  refine ⟨⟨n0, n1, n2, ⟨n3, ((x, y), (n6, n7)), n8, n9⟩⟩, ⟨bounds_u8 w0, bounds_i64 w1, bounds_i64 w2, bounds_u8 w3, ⟨bounds_u64 w6, bounds_u64 w7⟩, bounds_i64 w8, bounds_i64 w9⟩, fun j hj => ?_⟩
  match j, hj with
  | 0, _ => exact e0
  | 1, _ => exact e1
  | 2, _ => exact e2
  | 3, _ => exact e3
  | 4, _ => exact e4
  | 5, _ => exact e5
  | 6, _ => exact e6
  | 7, _ => exact e7
  | 8, _ => exact e8
  | 9, _ => exact e9
theorem open_sact {r : Reach} {b0 : Nat} {v : Value} {d : DataW H} {p : List MemPlace} (hv : Value.okWide Try.prog w r b0 43 v) (h : DataW.Trod enc Try.prog w base spare held 43 v d p) :
    ∃ a : Sa, v = saV a ∧ saIn a := by
  obtain ⟨l, rfl, hl⟩ := agg_of_struct Try.underlying43 hv
  have hc : Try.prog.cellsOf 43 = 10 := by kernel_rfl
  rw [hc] at hl
  obtain ⟨fuel, hf⟩ := h
  obtain ⟨a, ha, hj⟩ := sact_of_trod hf
  have e : l = saL a := getElem?_ext' hl (saL_len a) fun k hk => by simpa [Value.cells] using hj k hk
  subst e
  exact ⟨a, rfl, ha⟩
theorem open_sacts {r : Reach} {b0 : Nat} {v : Value} {d : DataW H} {p : List MemPlace} (hv : Value.okWide Try.prog w r b0 41 v) (h : DataW.Trod enc Try.prog w base (fun _ => true) held 41 v d p) :
    ∃ (A : Option Addr) (c : Nat) (l : List Sa), v = .slice A l.length c ∧ SaS w A l ∧ (∀ k, saIn (saAt l k)) ∧ l.length ≤ c ∧ c ≤ maxLen := by
  obtain ⟨A, n, c, rfl⟩ := okWide_slice Try.underlying41 hv
  obtain ⟨fuel, hf⟩ := h
  rcases open_slice Try.underlying41 hf with ⟨hcs, _⟩ | ⟨a, len, cap, m, n', D, Pl, hcs, hb, hl, hm, hmm, _, hi⟩
  · simp [Value.cells] at hcs
    obtain ⟨rfl, rfl, rfl⟩ := hcs
    exact ⟨none, 0, [], rfl, SaS.none_ _ _, fun k => saZ_in, Nat.le_refl _, Nat.zero_le _⟩
  · simp [Value.cells] at hcs
    obtain ⟨rfl, rfl, rfl⟩ := hcs
    have hC : Try.prog.cellsOf 43 = 10 := by kernel_rfl
    rw [hC] at hi
    simp only [if_true] at hmm
    subst hmm
    have hx : ∀ i, ∃ x : Sa, saIn x ∧ (i < n → ∀ j, j < 10 → w.cell? ((a.add (i * 10)).add j) = (saL x)[j]?) := by
      intro i
      by_cases hin : i < n
      · obtain ⟨cs', hc', ht⟩ := hi i (by omega)
        obtain ⟨_, hlen, hat⟩ := World.cells?_some hc'
        obtain ⟨x, hx, hj⟩ := sact_of_trod ht
        exact ⟨x, hx, fun _ j h5 => (hat j h5).trans (hj j h5)⟩
      · exact ⟨Sa.zero, saZ_in, fun h => absurd h hin⟩
    obtain ⟨f, hf⟩ : ∃ f : Nat → Sa, ∀ i, saIn (f i) ∧ (i < n → ∀ j, j < 10 → w.cell? ((a.add (i * 10)).add j) = (saL (f i))[j]?) :=
      ⟨fun i => Classical.choose (hx i), fun i => Classical.choose_spec (hx i)⟩
    clear hx hi
    have hl2 : ((List.range n).map f).length = n := by simp
    have hA : ∀ k, k < n → saAt ((List.range n).map f) k = f k := fun k hk => by
      unfold saAt
      rw [List.getD_eq_getElem?_getD, List.getElem?_map, List.getElem?_range hk]
      rfl
    refine ⟨some a, _, (List.range n).map f, by rw [hl2], fun h0 => ?_, fun k => ?_, by rw [hl2]; exact hl, hm⟩
    · rw [hl2] at h0
      obtain ⟨g, o, spot⟩ := a
      have hc0 := (hf 0).2 h0 0 (by omega)
      have hspot : spot = none := by simpa [Addr.add] using World.cell?_spot hc0
      subst hspot
      refine ⟨g, o, rfl, ?_, fun k hk j v hv => ?_⟩
      · have := World.block_lt_of_cell? w _ hc0
        rwa [Addr.add_mid] at this
      · rw [hl2] at hk
        rw [hA k hk] at hv
        have hj : j < 10 := by have := lt_of_some hv; rwa [saL_len] at this
        have := (hf k).2 hk j hj
        rw [Addr.add_mid, Addr.add_mid] at this
        rw [this]
        exact hv
    · by_cases hk : k < n
      · rw [hA k hk]
        exact (hf k).1
      · unfold saAt
        rw [List.getD_eq_getElem?_getD, List.getElem?_eq_none (by rw [hl2]; omega)]
        exact saZ_in
end

end Go.Proofs.Ytdgckjkdimnpoaa

namespace Go.Proofs.Ytdgckjkdimnpoaa
open Go Go.RowKit
set_option maxRecDepth 100000
set_option linter.unusedVariables false

section
variable {ops : Array Oper} {S : World → Prop} {op : Oper} {a : Act}
theorem st_yield (hw : Region.wanted op (yielded ops a.tmps) = true) (x : Operand) (ho : op.op = .load 36 x) {g : Nat} {X : St} (hx : a.eval x = .pointer (some ⟨g, 0, none⟩)) (hS : ∀ w, S w → stB g X w) : YieldsIf Try.prog ops S op (stV X) a :=
  yieldsIf_load_mid hw 36 x ho g 0 hx (stL X) _ (fun u hu => st_all (hS u hu)) Try.underlying36 rfl (by rw [stL_len]; kernel_rfl)
theorem rl_yield (hw : Region.wanted op (yielded ops a.tmps) = true) (x : Operand) (ho : op.op = .load 31 x) {g : Nat} {X : St} (hx : a.eval x = .pointer (some ⟨g, 0, none⟩)) (hS : ∀ w, S w → stB g X w) : YieldsIf Try.prog ops S op (rV X) a :=
  yieldsIf_load_mid hw 31 x ho g 0 hx (rL X) _ (fun u hu => st_regs (hS u hu)) Try.underlying31 rfl (by rw [rL_len]; kernel_rfl)
theorem vl_yield (hw : Region.wanted op (yielded ops a.tmps) = true) (x : Operand) (ho : op.op = .load 30 x) {g o : Nat} {v : Vl} (hx : a.eval x = .pointer (some ⟨g, o, none⟩)) (hS : ∀ w, S w → w.rangeAt g o (vL v)) : YieldsIf Try.prog ops S op (vV v) a :=
  yieldsIf_load_mid hw 30 x ho g o hx (vL v) _ hS Try.underlying30 rfl (by rw [vL_len]; kernel_rfl)
theorem sl_yield (hw : Region.wanted op (yielded ops a.tmps) = true) (x : Operand) (ho : op.op = .load 33 x) {g o : Nat} {v : Sl} (hx : a.eval x = .pointer (some ⟨g, o, none⟩)) (hS : ∀ w, S w → w.rangeAt g o (slL v)) : YieldsIf Try.prog ops S op (slV v) a :=
  yieldsIf_load_mid hw 33 x ho g o hx (slL v) _ hS Try.underlying33 rfl (by rw [slL_len]; kernel_rfl)
end

end Go.Proofs.Ytdgckjkdimnpoaa

namespace Go.Proofs.Ytdgckjkdimnpoaa
open Go Go.RowKit
set_option maxRecDepth 100000
set_option linter.unusedVariables false

section
variable {ops : Array Oper} {rest : List Oper} {op : Oper} {a : Act} {w : World} {Q : Exit → Act → World → Prop} {S : World → Prop}
theorem exec_bin {b : BinOp} {t t' : TypeId} {x y : Operand} {xs ys : Array Value} {r : Bool} (ho : op.op = .binOp b t x y t') (hx : a.eval x = .agg xs) (hy : a.eval y = .agg ys)
    (hg : Try.prog.eqGuardType Try.prog.depth t = false) (hb : b = .eql ∨ b = .neq) (hr : ∀ u, (binOp b t (.agg xs) (.agg ys)).run Try.prog u = .ok (.bool r) u) (u : World) : (execOp a.eval op).run Try.prog u = .ok (.value (.bool r)) u := by
  unfold execOp
  rcases hb with rfl | rfl
  · have G := run_eqGuard_agg (P := Try.prog) u .eql t x y xs ys hg
    simp only [ho, hx, hy, Sem.run_bind, G, hr, Result.andThen_ok, Sem.run_pure]
  · have G := run_eqGuard_agg (P := Try.prog) u .neq t x y xs ys hg
    simp only [ho, hx, hy, Sem.run_bind, G, hr, Result.andThen_ok, Sem.run_pure]
theorem wpList_value_w {v : Value} (hw : Region.wanted op (yielded ops a.tmps) = true) (he : ∀ u, (execOp a.eval op).run Try.prog u = .ok (.value v) u) (h : wpList Try.prog ops Q rest (a.put op.dst v) w) : wpList Try.prog ops Q (op :: rest) a w := by
  unfold wpList
  rw [if_pos hw]
  refine .inl ?_
  unfold Oper.wp
  rw [he]
  exact h
theorem yields_value {v : Value} (hw : Region.wanted op (yielded ops a.tmps) = true) (he : ∀ u, (execOp a.eval op).run Try.prog u = .ok (.value v) u) : YieldsIf Try.prog ops S op v a := .inl ⟨hw, fun u _ => he u⟩
theorem x_st_eq {x y : Operand} {X : St} (ho : op.op = .binOp .eql 36 x y 36) (hx : a.eval x = stV X) (hy : a.eval y = stV X) : ∀ u, (execOp a.eval op).run Try.prog u = .ok (.value (.bool true)) u := exec_bin ho hx hy (by kernel_rfl) (.inl rfl) (st_eq X)
theorem x_st_ne {x y : Operand} {X : St} (ho : op.op = .binOp .neq 36 x y 36) (hx : a.eval x = stV X) (hy : a.eval y = stV X) : ∀ u, (execOp a.eval op).run Try.prog u = .ok (.value (.bool false)) u := exec_bin ho hx hy (by kernel_rfl) (.inr rfl) (st_ne X)
theorem x_regs_ne {x y : Operand} {X : St} (ho : op.op = .binOp .neq 31 x y 31) (hx : a.eval x = rV X) (hy : a.eval y = rV X) : ∀ u, (execOp a.eval op).run Try.prog u = .ok (.value (.bool false)) u := exec_bin ho hx hy (by kernel_rfl) (.inr rfl) (regs_ne X)
theorem x_slots_eq {x y : Operand} {X : St} (ho : op.op = .binOp .eql 34 x y 34) (hx : a.eval x = zV X) (hy : a.eval y = zV X) : ∀ u, (execOp a.eval op).run Try.prog u = .ok (.value (.bool true)) u := exec_bin ho hx hy (by kernel_rfl) (.inl rfl) (slots_eq X)
theorem x_slot_ne {x y : Operand} {X : Sl} (ho : op.op = .binOp .neq 33 x y 33) (hx : a.eval x = slV X) (hy : a.eval y = slV X) : ∀ u, (execOp a.eval op).run Try.prog u = .ok (.value (.bool false)) u := exec_bin ho hx hy (by kernel_rfl) (.inr rfl) (slot_ne X)
theorem x_val_ne {x y : Operand} {X : Vl} (ho : op.op = .binOp .neq 30 x y 30) (hx : a.eval x = vV X) (hy : a.eval y = vV X) : ∀ u, (execOp a.eval op).run Try.prog u = .ok (.value (.bool false)) u := exec_bin ho hx hy (by kernel_rfl) (.inr rfl) (val_ne X)
theorem x_val_eq {x y : Operand} {X : Vl} (ho : op.op = .binOp .eql 30 x y 30) (hx : a.eval x = vV X) (hy : a.eval y = vV X) : ∀ u, (execOp a.eval op).run Try.prog u = .ok (.value (.bool true)) u := exec_bin ho hx hy (by kernel_rfl) (.inl rfl) (fun u => by rw [val_eql, vEq_iff.mpr rfl])
end

end Go.Proofs.Ytdgckjkdimnpoaa

namespace Go.Proofs.Ytdgckjkdimnpoaa
open Go Go.RowKit
set_option maxRecDepth 100000
set_option linter.unusedVariables false
set_option linter.unusedSimpArgs false

def isSet (a : Sa) : Bool := a.k % 4 == 3
def saE (s : St) (a : Sa) : Int := if isSet a then setE s a.o a.v else putE s a.o a.z a.v
def saT (s : St) (a : Sa) : St := if isSet a then setX s a.o a.v else putY s a.o a.z a.v
def saN (s : St) (a : Sa) : St := if saE s a = 0 then saT s a else s
def saF (l : List Sa) : Nat → St
  | 0 => stF
  | n + 1 => saN (saF l n) (saAt l n)
def saM (l : List Sa) : St := saF l (min l.length 100)
theorem saN_in {s : St} {a : Sa} (hs : stIn s) (ha : saIn a) : stIn (saN s a) := by
  unfold saN saT
  split
  · split
    · exact setX_in hs a.o ha.2.2.2
    · exact putY_in hs a.o a.z ha.2.2.2
  · exact hs
theorem saF_in {l : List Sa} (h : ∀ k, saIn (saAt l k)) : ∀ n, stIn (saF l n)
  | 0 => stF_in
  | n + 1 => saN_in (saF_in h n) (h n)
theorem saM_in {l : List Sa} (h : ∀ k, saIn (saAt l k)) : stIn (saM l) := saF_in h _
theorem saE_set {s : St} {a : Sa} (h : isSet a = true) : saE s a = setE s a.o a.v ∧ saT s a = setX s a.o a.v := by unfold saE saT; rw [h]; exact ⟨rfl, rfl⟩
theorem saE_put {s : St} {a : Sa} (h : isSet a = false) : saE s a = putE s a.o a.z a.v ∧ saT s a = putY s a.o a.z a.v := by unfold saE saT; rw [h]; exact ⟨rfl, rfl⟩
theorem saN_yes {s : St} {a : Sa} (h : saE s a = 0) : saN s a = saT s a := by unfold saN; rw [if_pos h]
theorem saN_no {s : St} {a : Sa} (h : ¬ saE s a = 0) : saN s a = s := by unfold saN; rw [if_neg h]

theorem Blks.pick {w0 u : World} {l l' : List (Nat × Array Value × TypeId)} (h : Blks w0 l u) (hs : ∀ p ∈ l', p ∈ l) : Blks w0 l' u := ⟨h.1, fun p hp => h.2 p (hs p hp)⟩
theorem Blks.row {w0 u : World} {l : List (Nat × Array Value × TypeId)} {k : Nat} {cs : Array Value} {t : TypeId} (h : Blks w0 ((k, cs, t) :: l) u) (hk : w0.heap.size ≤ k) (hne : ∀ p ∈ l, p.1 ≠ k) (cs' : Array Value) : Blks w0 ((k, cs', t) :: l) (u.setRow k cs') :=
  ⟨below_row h.1 hk cs', fun p hp => by
    rcases List.mem_cons.mp hp with rfl | hp
    · exact setRow_heap u k cs cs' t (0, 0) (h.2 (k, cs, t) (by simp))
    · exact (setRow_other u k p.1 cs' (hne p hp)).trans (h.2 p (by simp [hp]))⟩
section
variable {ops : Array Oper} {rest : List Oper} {op : Oper} {a : Act} {w : World} {Q : Exit → Act → World → Prop}
theorem sa_load (hgd : op.guard = none) (x : Operand) (ho : op.op = .load 43 x) {g o : Nat} {v : Sa} (hx : a.eval x = .pointer (some ⟨g, o, none⟩)) (hc : w.rangeAt g o (saL v))
    (h : wpList Try.prog ops Q rest (a.put op.dst (saV v)) w) : wpList Try.prog ops Q (op :: rest) a w :=
  wpList_load_mid hgd 43 x ho g o hx (saL v) _ hc Try.underlying43 rfl (by rw [saL_len]; kernel_rfl) h
end
theorem saB_cells {g : Nat} {t : TypeId} {y : Sa} {w : World} (h : Blk g (saC y) t w) : w.cell? ⟨g, 0, none⟩ = some (.int .u8 y.k) ∧ w.cell? ⟨g, 1, none⟩ = some (.int .i64 y.o) ∧ w.cell? ⟨g, 2, none⟩ = some (.int .i64 y.z) ∧ w.cell? ⟨g, 3, none⟩ = some (.int .u8 y.v.k) ∧ w.cell? ⟨g, 4, none⟩ = some (uV y.v.n.1.1) ∧ w.cell? ⟨g, 5, none⟩ = some (uV y.v.n.1.2) ∧ w.cell? ⟨g, 6, none⟩ = some (.int .u64 y.v.n.2.1) ∧ w.cell? ⟨g, 7, none⟩ = some (.int .u64 y.v.n.2.2) ∧ w.cell? ⟨g, 8, none⟩ = some (.int .i64 y.v.i) ∧ w.cell? ⟨g, 9, none⟩ = some (.int .i64 y.v.o) :=
  ⟨Blk.cell h 0, Blk.cell h 1, Blk.cell h 2, Blk.cell h 3, Blk.cell h 4, Blk.cell h 5, Blk.cell h 6, Blk.cell h 7, Blk.cell h 8, Blk.cell h 9⟩

end Go.Proofs.Ytdgckjkdimnpoaa

namespace Go.Proofs.Ytdgckjkdimnpoaa
open Go Go.RowKit
set_option maxRecDepth 100000
set_option linter.unusedVariables false
set_option linter.unusedSimpArgs false

set_option maxHeartbeats 8000000 in
theorem l13_made (A : Option Addr) (c : Nat) (l : List Sa) (w0 w : World) (hb : Below w0.heap.size w0 w) (hl : SaS w0 A l) (hv : ∀ k, saIn (saAt l k)) (hc : l.length ≤ c) (hm : c ≤ maxLen) : Calls Try.prog 25 #[.slice A l.length c] w (Gives (stV (saM l)) w) := by
  have FI := Lib.hid sr_first
  have MU : Hid (saM l = saF l (min l.length 100)) := Lib.hid rfl
  have hlen : Hid (l.length ≤ maxLen) := Lib.hid (by omega)
  have hls := Lib.hid (hl.below hb)
  have IN := Lib.hid (saF_in hv)
  have VI := Lib.hid hv
  obtain ⟨n, hn⟩ : ∃ n, n = l.length := ⟨_, rfl⟩
  rw [← hn] at MU hc hlen ⊢
  replace hn := Lib.hid hn
  clear hl hv hb
  by_cases h0 : n = 0
  · subst h0
    have M0 : saM l = saF l 0 := MU.out
    rw [M0]
    clear MU M0
    go_enter Try.func25, Try.ntmps25
    go_wp2_with fail
    refine (FI.out _).mono ?_; rintro e w1 ⟨rfl, b1⟩
    have X1 := Lib.hid (((Blks.start w).new Try.zeroCells36 36).after b1)
    have hl := Lib.hid (Blk.lt (X1.out.get (g := w.heap.size) (cs := Try.zeroCells36) (t := 36) (by simp)))
    have X2 := Lib.hid (X1.out.new Try.zeroCells36 36)
    have X3 := Lib.hid ((X2.out.row (by have := hl.out; omega) (by have := hl.out; simp; omega) (stC stF)))
    have N2 : Hid (stB w1.heap.size stZ (w1.alloc (.cells Try.zeroCells36 36))) := Lib.hid (stB.newz w1 rfl)
    clear X1 X2 b1
    go_upto_region 2 with (refine st_store rfl _ _ rfl rfl rfl N2.out ?_)
    clear N2
    generalize (w1.alloc (.cells Try.zeroCells36 36)).setRow w1.heap.size (stC stF) = w2 at *
    have hRS : Hid (w.heap.size < w1.heap.size) := hl
    clear hl
    generalize w1.heap.size = gS at *
    rw [stZ_cells] at X3
    have X4 : Hid (Blks w [(gS, stC (saF l 0), 36), (w.heap.size, stC stZ, 36)] w2) := X3
    clear X3
    go_wp2_with fail
    go_loopw [11] (fun iv wr => iv = .int .i64 0 ∧ Hid (wr = w2)) (fun iv wr => 0)
    case atStart => exact ⟨rfl, Lib.hid rfl⟩
    case round =>
      obtain ⟨rfl, hw⟩ := hrel
      have hw := hw.out
      subst hw
      have X8 := Lib.hid ((X4.out.pick (l' := [(w.heap.size, stC stZ, 36), (gS, stC (saF l 0), 36)]) (by simp)).row (Nat.le_refl _) (by have := hRS.out; simp; omega) (stC (saF l 0)))
      go_wp2_with (first | (refine st_load rfl _ rfl rfl (X4.out.get (g := gS) (cs := stC (saF l 0)) (t := 36) (by simp)) ?_) | (refine st_store rfl _ _ rfl rfl rfl (X := stZ) (X4.out.get (g := w.heap.size) (cs := stC stZ) (t := 36) (by simp)) ?_) | fail)
      have R8 : stB w.heap.size (saF l 0) (wr.setRow w.heap.size (stC (saF l 0))) := X8.out.get (g := w.heap.size) (cs := stC (saF l 0)) (t := 36) (by simp)
      have B8 := X8.out.1
      generalize wr.setRow w.heap.size (stC (saF l 0)) = w8 at *
      exact bodyPost_ret (v := stV (saF l 0)) (by rw [results_st rfl]; simp [asAddr, Act.put, Result.andThen, st_result R8]) rfl ⟨rfl, B8⟩
  obtain ⟨ga0, oa, rfl, hga, hra⟩ := hls.out (by rw [← hn.out]; omega)
  rw [← hn.out] at hra
  replace hga := Lib.hid hga
  replace hra := Lib.hid hra
  have hn62 : (n : Int) ≤ 9223372036854775807 := by have := hlen.out; unfold maxLen at this; omega
  go_enter Try.func25, Try.ntmps25
  go_wp2_with fail
  refine (FI.out _).mono ?_; rintro e w1 ⟨rfl, b1⟩
  have X1 := Lib.hid (((Blks.start w).new Try.zeroCells36 36).after b1)
  have hl := Lib.hid (Blk.lt (X1.out.get (g := w.heap.size) (cs := Try.zeroCells36) (t := 36) (by simp)))
  have X2 := Lib.hid (X1.out.new Try.zeroCells36 36)
  have X3 := Lib.hid ((X2.out.row (by have := hl.out; omega) (by have := hl.out; simp; omega) (stC stF)))
  have N2 : Hid (stB w1.heap.size stZ (w1.alloc (.cells Try.zeroCells36 36))) := Lib.hid (stB.newz w1 rfl)
  clear X1 X2 b1
  go_upto_region 2 with (refine st_store rfl _ _ rfl rfl rfl N2.out ?_)
  clear N2
  generalize (w1.alloc (.cells Try.zeroCells36 36)).setRow w1.heap.size (stC stF) = w2 at *
  have hRS : Hid (w.heap.size < w1.heap.size) := hl
  clear hl
  generalize w1.heap.size = gS at *
  rw [stZ_cells] at X3
  have X4 : Hid (Blks w [(gS, stC (saF l 0), 36), (w.heap.size, stC stZ, 36)] w2) := X3
  clear X3
  go_wp2_with fail
  go_loopw [11] (fun iv wr => ∃ j : Nat, iv = .int .i64 j ∧ j ≤ n ∧ j ≤ 100 ∧ Hid (Blks w [(gS, stC (saF l j), 36), (w.heap.size, stC stZ, 36)] wr)) (fun iv wr => n - (intOf iv).toNat)
  case atStart => exact ⟨0, rfl, by omega, by omega, X4⟩
  case round =>
    obtain ⟨j, rfl, hj, hj100, V⟩ := hrel
    have j0 : (0 : Int) ≤ (j : Int) := by omega
    have j5 : (j : Int) ≤ 100 := by omega
    by_cases hlt : (j : Int) < (n : Int)
    · have RJ := Lib.hid (hra.out j (by omega))
      have RW : Hid (wr.rangeAt ga0 (oa + j * 10) (saL (saAt l j))) := Lib.hid fun i v hi => by
        rw [V.out.1.cell (p := ⟨ga0, oa + j * 10 + i, none⟩) hga.out]
        exact RJ.out i v hi
      have X5 := Lib.hid (V.out.new (saC (saAt l j)) 43)
      have AJ := Lib.hid (VI.out j)
      have SJ := Lib.hid (IN.out j)
      have NX : Hid (saF l (j + 1) = saN (saF l j) (saAt l j)) := Lib.hid rfl
      clear RJ
      generalize saAt l j = a at *
      by_cases h100 : (100 : Int) ≤ (j : Int)
      · have je : j = 100 := by omega
        have M0 : Hid (saM l = saF l j) := Lib.hid (by rw [MU.out, show min n 100 = j by omega])
        rw [← M0.out] at X5
        clear NX SJ AJ MU M0 je
        go_upto_region 12 with (first | (refine sa_load rfl _ rfl rfl RW.out ?_) | fail)
        clear V RW
        generalize wr.alloc (.cells (saC a) 43) = w3 at *
        have X8 := Lib.hid ((X5.out.pick (l' := [(w.heap.size, stC stZ, 36), (gS, stC (saM l), 36)]) (by simp)).row (Nat.le_refl _) (by have := hRS.out; simp; omega) (stC (saM l)))
        go_wp2_with (first | (refine st_load rfl _ rfl rfl (X5.out.get (g := gS) (cs := stC (saM l)) (t := 36) (by simp)) ?_) | (refine st_store rfl _ _ rfl rfl rfl (X := stZ) (X5.out.get (g := w.heap.size) (cs := stC stZ) (t := 36) (by simp)) ?_) | fail)
        have R8 : stB w.heap.size (saM l) (w3.setRow w.heap.size (stC (saM l))) := X8.out.get (g := w.heap.size) (cs := stC (saM l)) (t := 36) (by simp)
        have B8 := X8.out.1
        generalize w3.setRow w.heap.size (stC (saM l)) = w8 at *
        exact bodyPost_ret (v := stV (saM l)) (by rw [results_st rfl]; simp [asAddr, Act.put, Result.andThen, st_result R8]) rfl ⟨rfl, B8⟩
      · have PU := Lib.hid fun w => sr_Put (saF l j) a.o a.z a.v w SJ.out AJ.out.2.2.2 AJ.out.2.1
        have SE := Lib.hid fun w => sr_set (saF l j) a.o a.v w SJ.out AJ.out.2.2.2
        have ks := isSet a
        obtain ⟨b, hbk⟩ : ∃ b, b = isSet a := ⟨_, rfl⟩
        have hk : (a.k.tmod 4 == 3) = b := by rw [hbk]; unfold isSet; rw [Int.tmod_eq_emod_of_nonneg AJ.out.1.1]
        have P1 : Hid (b = true → saE (saF l j) a = setE (saF l j) a.o a.v ∧ saT (saF l j) a = setX (saF l j) a.o a.v) := Lib.hid fun h => saE_set (by rw [← hbk]; exact h)
        have P2 : Hid (b = false → saE (saF l j) a = putE (saF l j) a.o a.z a.v ∧ saT (saF l j) a = putY (saF l j) a.o a.z a.v) := Lib.hid fun h => saE_put (by rw [← hbk]; exact h)
        have Q1 : Hid (saE (saF l j) a = 0 → saF l (j + 1) = saT (saF l j) a) := Lib.hid fun h => by rw [NX.out]; exact saN_yes h
        have Q2 : Hid (¬ saE (saF l j) a = 0 → saF l (j + 1) = saF l j) := Lib.hid fun h => by rw [NX.out]; exact saN_no h
        clear NX hbk ks SJ AJ
        generalize hS1 : saF l (j + 1) = S1 at *
        replace hS1 := Lib.hid hS1
        generalize saE (saF l j) a = EE at *
        generalize saT (saF l j) a = TT at *
        generalize putE (saF l j) a.o a.z a.v = E1 at *
        generalize putY (saF l j) a.o a.z a.v = T1 at *
        generalize setE (saF l j) a.o a.v = E2 at *
        generalize setX (saF l j) a.o a.v = T2 at *
        generalize saF l j = S0 at *
        go_upto_region 6 with (first | (refine sa_load rfl _ rfl rfl RW.out ?_) | fail)
        have n5 := Lib.hid (Blk.lt (V.out.get (g := gS) (cs := stC S0) (t := 36) (by simp)))
        clear V RW
        generalize wr.alloc (.cells (saC a) 43) = w3 at *
        generalize wr.heap.size = ga at *
        have L3 : Hid (stB gS S0 w3) := Lib.hid (X5.out.get (g := gS) (cs := stC S0) (t := 36) (by simp))
        obtain ⟨c0, c1, c2, c3, c4, c5, c6, c7, c8, c9⟩ := saB_cells (X5.out.get (g := ga) (cs := saC a) (t := 43) (by simp))
        go_wp2_with (first | (refine st_load rfl _ rfl rfl L3.out ?_) | fail)
        refine (PU.out _).mono ?_; rintro e w4 ⟨rfl, b4⟩
        have X6 := Lib.hid (X5.out.after b4)
        clear X5 L3 b4 PU c0 c1 c2 c3 c4 c5 c6 c7 c8 c9
        have n6 := Lib.hid (Blk.lt (X6.out.get (g := ga) (cs := saC a) (t := 43) (by simp)))
        have X7 := Lib.hid ((X6.out.new Try.zeroCells36 36).row (by have := hRS.out; have := n5.out; have := n6.out; omega) (by have := hRS.out; have := n5.out; have := n6.out; simp; omega) (stC T1))
        have N2 : Hid (stB w4.heap.size stZ (w4.alloc (.cells Try.zeroCells36 36))) := Lib.hid (stB.newz w4 rfl)
        clear X6
        go_upto_region 7 with (refine st_store rfl _ _ rfl rfl rfl N2.out ?_)
        clear N2
        generalize (w4.alloc (.cells Try.zeroCells36 36)).setRow w4.heap.size (stC T1) = w5 at *
        generalize w4.heap.size = g6 at *
        obtain ⟨c0, c1, c2, c3, c4, c5, c6, c7, c8, c9⟩ := saB_cells (X7.out.get (g := ga) (cs := saC a) (t := 43) (by simp))
        cases b
        · clear P1 SE
          cases hE : (E1 == 0)
          · have e0 : ¬ E1 = 0 := by simpa using hE
            have X12 : Hid (Blks w [(gS, stC (saF l (j + 1)), 36), (w.heap.size, stC stZ, 36)] w5) := Lib.hid (by
              rw [hS1.out, Q2.out (by rw [(P2.out (by trivial)).1]; exact e0)]
              exact X7.out.pick (by simp))
            clear e0
            go_wp2_with fail
            go_round
            case rel => exact ⟨j + 1, by go_num, by omega, by omega, X12⟩
            case measure => simp [intOf]; omega
          · have e0 : E1 = 0 := by simpa using hE
            have eS : Hid (S1 = T1) := Lib.hid (by rw [Q1.out (by rw [(P2.out (by trivial)).1]; exact e0), (P2.out (by trivial)).2])
            clear e0
            have X11 := Lib.hid ((X7.out.pick (l' := [(gS, stC S0, 36), (g6, stC T1, 36), (w.heap.size, stC stZ, 36)]) (by simp)).row (by have := hRS.out; omega) (by have := hRS.out; have := n5.out; have := n6.out; simp; omega) (stC T1))
            have L6 : Hid (stB g6 T1 w5) := Lib.hid (X7.out.get (g := g6) (cs := stC T1) (t := 36) (by simp))
            have LS : Hid (stB gS S0 w5) := Lib.hid (X7.out.get (g := gS) (cs := stC S0) (t := 36) (by simp))
            go_wp2_with (first | (refine st_load rfl _ rfl rfl L6.out ?_) | (refine st_store rfl _ _ rfl rfl rfl LS.out ?_) | fail)
            generalize w5.setRow gS (stC T1) = w9 at *
            have X12 : Hid (Blks w [(gS, stC (saF l (j + 1)), 36), (w.heap.size, stC stZ, 36)] w9) := Lib.hid (by
              rw [hS1.out, eS.out]
              exact X11.out.pick (by simp))
            go_round
            case rel => exact ⟨j + 1, by go_num, by omega, by omega, X12⟩
            case measure => simp [intOf]; omega
        · clear P2
          have L5 : Hid (stB gS S0 w5) := Lib.hid (X7.out.get (g := gS) (cs := stC S0) (t := 36) (by simp))
          go_wp2_with (first | (refine st_load rfl _ rfl rfl L5.out ?_) | fail)
          refine (SE.out _).mono ?_; rintro e w6 ⟨rfl, b6⟩
          have X8 := Lib.hid (X7.out.after b6)
          clear X7 L5 b6 SE c0 c1 c2 c3 c4 c5 c6 c7 c8 c9
          have X9 := Lib.hid (X8.out.row (by have := hRS.out; have := n5.out; have := n6.out; omega) (by have := hRS.out; have := n5.out; have := n6.out; simp; omega) (stC T2))
          have L6 : Hid (stB g6 T1 w6) := Lib.hid (X8.out.get (g := g6) (cs := stC T1) (t := 36) (by simp))
          go_upto_region 9 with (refine st_store rfl _ _ rfl rfl rfl L6.out ?_)
          clear L6 X8
          generalize w6.setRow g6 (stC T2) = w7 at *
          cases hE : (E2 == 0)
          · have e0 : ¬ E2 = 0 := by simpa using hE
            have X12 : Hid (Blks w [(gS, stC (saF l (j + 1)), 36), (w.heap.size, stC stZ, 36)] w7) := Lib.hid (by
              rw [hS1.out, Q2.out (by rw [(P1.out (by trivial)).1]; exact e0)]
              exact X9.out.pick (by simp))
            clear e0
            go_wp2_with fail
            go_round
            case rel => exact ⟨j + 1, by go_num, by omega, by omega, X12⟩
            case measure => simp [intOf]; omega
          · have e0 : E2 = 0 := by simpa using hE
            have eS : Hid (S1 = T2) := Lib.hid (by rw [Q1.out (by rw [(P1.out (by trivial)).1]; exact e0), (P1.out (by trivial)).2])
            clear e0
            have X11 := Lib.hid ((X9.out.pick (l' := [(gS, stC S0, 36), (g6, stC T2, 36), (w.heap.size, stC stZ, 36)]) (by simp)).row (by have := hRS.out; omega) (by have := hRS.out; have := n5.out; have := n6.out; simp; omega) (stC T2))
            have L6 : Hid (stB g6 T2 w7) := Lib.hid (X9.out.get (g := g6) (cs := stC T2) (t := 36) (by simp))
            have LS : Hid (stB gS S0 w7) := Lib.hid (X9.out.get (g := gS) (cs := stC S0) (t := 36) (by simp))
            go_wp2_with (first | (refine st_load rfl _ rfl rfl L6.out ?_) | (refine st_store rfl _ _ rfl rfl rfl LS.out ?_) | fail)
            generalize w7.setRow gS (stC T2) = w9 at *
            have X12 : Hid (Blks w [(gS, stC (saF l (j + 1)), 36), (w.heap.size, stC stZ, 36)] w9) := Lib.hid (by
              rw [hS1.out, eS.out]
              exact X11.out.pick (by simp))
            go_round
            case rel => exact ⟨j + 1, by go_num, by omega, by omega, X12⟩
            case measure => simp [intOf]; omega
    · have M0 : Hid (saM l = saF l j) := Lib.hid (by rw [MU.out, show min n 100 = j by omega])
      rw [← M0.out] at V
      clear MU M0 VI IN
      have X8 := Lib.hid ((V.out.pick (l' := [(w.heap.size, stC stZ, 36), (gS, stC (saM l), 36)]) (by simp)).row (Nat.le_refl _) (by have := hRS.out; simp; omega) (stC (saM l)))
      go_wp2_with (first | (refine st_load rfl _ rfl rfl (V.out.get (g := gS) (cs := stC (saM l)) (t := 36) (by simp)) ?_) | (refine st_store rfl _ _ rfl rfl rfl (X := stZ) (V.out.get (g := w.heap.size) (cs := stC stZ) (t := 36) (by simp)) ?_) | fail)
      have R8 : stB w.heap.size (saM l) (wr.setRow w.heap.size (stC (saM l))) := X8.out.get (g := w.heap.size) (cs := stC (saM l)) (t := 36) (by simp)
      have B8 := X8.out.1
      generalize wr.setRow w.heap.size (stC (saM l)) = w8 at *
      exact bodyPost_ret (v := stV (saM l)) (by rw [results_st rfl]; simp [asAddr, Act.put, Result.andThen, st_result R8]) rfl ⟨rfl, B8⟩

end Go.Proofs.Ytdgckjkdimnpoaa

namespace Go.Proofs.Ytdgckjkdimnpoaa
open Go Go.RowKit
set_option maxRecDepth 100000
set_option linter.unusedVariables false
set_option linter.unusedSimpArgs false

theorem vR_vZ : vR vZ = true := by decide +kernel
theorem stR_stF : stR stF = true := by decide +kernel
theorem stR_get {x : St} (h : stR x = true) : (∀ i, i < 11 → vR (x.r i) = true) ∧ ∀ i, i < 64 → slR (x.s i) = true := by
  unfold stR at h
  obtain ⟨h1, h2⟩ := Bool.and_eq_true_iff.mp h
  exact ⟨fun i hi => all_get h1 hi, fun i hi => all_get h2 hi⟩
theorem stR_reg {x : St} (h : stR x = true) (i : Nat) {v : Vl} (hv : vR v = true) : stR (x.reg i v) = true := by
  obtain ⟨h1, h2⟩ := stR_get h
  refine stR_yes (fun t ht => ?_) h2
  show vR (if t = i then v else x.r t) = true
  split
  · exact hv
  · exact h1 t ht
theorem stR_slot {x : St} (h : stR x = true) (q : Nat) {y : Sl} (hy : slR y = true) : stR (x.slot q y) = true := by
  obtain ⟨h1, h2⟩ := stR_get h
  refine stR_yes h1 (fun t ht => ?_)
  show slR (if t = q then y else x.s t) = true
  split
  · exact hy
  · exact h2 t ht
theorem mayP_right {size : Int} {v : Vl} (h : mayP size v = true) : (v.k == 0) = false ∧ vR v = true ∧ ((size == 8) = true ∨ (v.k == 1) = true) := by
  unfold mayP at h
  obtain ⟨h1, h2⟩ := Bool.and_eq_true_iff.mp h
  obtain ⟨h3, h4⟩ := Bool.and_eq_true_iff.mp h2
  refine ⟨by simpa using h1, h3, ?_⟩
  rcases Bool.or_eq_true_iff.mp h4 with h | h
  · exact .inl h
  · exact .inr h
theorem putE_zero {x : St} {off size : Int} {v : Vl} (h : putE x off size v = 0) : stR x = true ∧ isSz size = true ∧ mayP size v = true ∧ rch off size = 0 := by
  cases hc : (stR x && (isSz size && mayP size v))
  · rw [(putE_no hc).1] at h
    cases h
  · obtain ⟨h1, h2⟩ := Bool.and_eq_true_iff.mp hc
    obtain ⟨h3, h4⟩ := Bool.and_eq_true_iff.mp h2
    exact ⟨h1, h3, h4, (putE_at hc).symm.trans h⟩
theorem pBits_8 {off : Int} (h : rch off 8 = 0) : pBits off 8 = 255#8 := by
  obtain ⟨k1, k2, k3⟩ := rch_ok rfl h
  unfold pBits
  rw [k3]
  rfl
theorem putS_right {y : Sl} {off size : Int} {v : Vl} (hs : isSz size = true) (hr : rch off size = 0) (hv : vR v = true) : slR (putS y off size v) = true := by
  unfold putS slR
  dsimp only
  cases h8 : (size == 8)
  · rw [if_neg Bool.false_ne_true, vR_vZ]
    rfl
  · rw [if_pos rfl, hv]
    rw [beq_iff_eq] at h8
    subst h8
    rw [pBits_8 hr, show y.p ||| 255#8 = 255#8 from whole_8 y.p]
    simp
theorem putX_right {x : St} {off size : Int} {v : Vl} (h : putE x off size v = 0) : stR (putX x off size v) = true := by
  obtain ⟨h1, h2, h3, h4⟩ := putE_zero h
  exact stR_slot h1 _ (putS_right h2 h4 (mayP_right h3).2.1)
theorem setE_zero {x : St} {i : Int} {v : Vl} (h : setE x i v = 0) : stR x = true ∧ 0 ≤ i ∧ i < 11 ∧ vR v = true := by
  cases hc : (stR x && (decide (0 ≤ i) && decide (i < 11)) && vR v)
  · rw [(setE_no hc).1] at h
    cases h
  · obtain ⟨h1, h2⟩ := Bool.and_eq_true_iff.mp hc
    obtain ⟨h3, h4⟩ := Bool.and_eq_true_iff.mp h1
    obtain ⟨h5, h6⟩ := Bool.and_eq_true_iff.mp h4
    exact ⟨h3, of_decide_eq_true h5, of_decide_eq_true h6, h2⟩
theorem setE_yes' {x : St} {i : Int} {v : Vl} (h1 : stR x = true) (h2 : 0 ≤ i) (h3 : i < 11) (h4 : vR v = true) : setE x i v = 0 ∧ setX x i v = x.reg i.toNat v := setE_yes (by rw [h1, h4, decide_eq_true h2, decide_eq_true h3]; rfl)
theorem saN_right {s : St} {a : Sa} (h : stR s = true) : stR (saN s a) = true := by
  by_cases he : saE s a = 0
  · rw [saN_yes he]
    cases hs : isSet a
    · rw [(saE_put hs).1] at he
      rw [(saE_put hs).2]
      unfold putY
      rw [if_pos he]
      exact putX_right he
    · rw [(saE_set hs).1] at he
      rw [(saE_set hs).2]
      obtain ⟨h1, h2, h3, h4⟩ := setE_zero he
      rw [(setE_yes' h1 h2 h3 h4).2]
      exact stR_reg h1 _ h4
  · rw [saN_no he]; exact h
theorem saF_right (l : List Sa) : ∀ n, stR (saF l n) = true
  | 0 => stR_stF
  | n + 1 => saN_right (saF_right l n)
theorem saM_right (l : List Sa) : stR (saM l) = true := saF_right l _

/-! ### What was put is got -/
theorem rch_bits {off size : Int} (hs : isSz size = true) (hr : rch off size = 0) (p : BitVec 8) : pAll (p ||| pBits off size) (pBits off size) = true := by
  unfold pAll
  rw [beq_iff_eq]
  apply BitVec.eq_of_getLsbD_eq
  intro i hi
  simp [BitVec.getLsbD_and, BitVec.getLsbD_or]
  exact fun h => .inr h
theorem putX_at (x : St) (off size : Int) (v : Vl) : (putX x off size v).s (off / 8).toNat = putS (x.s (off / 8).toNat) off size v := St.slot_at x _ _
theorem bel_k {size : Int} (hs : isSz size = true) : (bel size).k = 1 := by
  rcases isSz_iff.mp hs with rfl | rfl | rfl | rfl <;> decide +kernel
theorem put_get {x : St} {off size : Int} {v : Vl} (h : putE x off size v = 0) : getE (putX x off size v) off size = 0 ∧ ((size == 8) = true → getY (putX x off size v) off size = v) ∧ ((size == 8) = false → (getY (putX x off size v) off size).k = 1) ∧ full (putX x off size v) off size = true := by
  have hr := putX_right h
  obtain ⟨h1, h2, h3, h4⟩ := putE_zero h
  have hp : pAll ((putX x off size v).s (off / 8).toNat).p (pBits off size) = true := by
    rw [putX_at]
    exact rch_bits h2 h4 _
  obtain ⟨e1, e2⟩ := getE_ok (x := putX x off size v) (off := off) (size := size) (by rw [hr, h2]; rfl) h4 hp
  refine ⟨e1, fun h8 => ?_, fun h8 => ?_, ?_⟩
  · have hv : ((putX x off size v).s (off / 8).toNat).v = v := by
      rw [putX_at]
      unfold putS
      dsimp only
      rw [if_pos h8]
    rw [e2, getV_whole h8 (by rw [hv]; exact (mayP_right h3).1), hv]
  · rw [e2, getV_bel1 h8]
    exact bel_k h2
  · rw [full_bits hr h2 h4]
    exact hp

/-! ### The first one -/
theorem getE_first (off size : Int) : ¬ getE stF off size = 0 ∧ getY stF off size = vZ := by
  cases hs : isSz size
  · obtain ⟨e1, e2⟩ := getE_no (x := stF) (off := off) (size := size) (by rw [hs, Bool.and_false])
    exact ⟨by rw [e1]; decide, e2⟩
  · have hgo : (stR stF && isSz size) = true := by rw [stR_stF, hs]; rfl
    by_cases hr : rch off size = 0
    · have hp : pAll (stF.s (off / 8).toNat).p (pBits off size) = false := by
        show pAll 0#8 (pBits off size) = false
        obtain ⟨k1, k2, k3⟩ := rch_ok hs hr
        obtain ⟨r, _, e2, hc⟩ := pBits_cases hs k1
        unfold pBits
        rw [e2]
        rcases isSz_iff.mp hs with rfl | rfl | rfl | rfl <;> rcases hc with rfl | rfl | rfl | rfl | rfl | rfl | rfl | rfl <;> first | rfl | omega
      obtain ⟨e1, e2⟩ := getE_blank hgo hr hp
      exact ⟨by rw [e1]; decide, e2⟩
    · obtain ⟨e1, e2⟩ := getE_err hgo hr
      exact ⟨by rw [e1]; exact hr, e2⟩
theorem full_first {off size : Int} (h : 0 < size) : full stF off size = false := by
  cases ht : there off size
  · exact full_out ht
  · obtain ⟨t1, t2, t3⟩ := there_iff.mp ht
    obtain ⟨o, rfl⟩ : ∃ o : Nat, off = (o : Int) := ⟨off.toNat, by omega⟩
    obtain ⟨n, rfl⟩ : ∃ n : Nat, size = (n : Int) := ⟨size.toNat, by omega⟩
    refine full_miss (j := 0) (by omega) ?_
    show pAll 0#8 (pBits (o : Int) 1) = false
    obtain ⟨r, _, e2, hc⟩ := pBits_cases (off := (o : Int)) (size := 1) rfl t1
    unfold pBits
    rw [e2]
    rcases hc with rfl | rfl | rfl | rfl | rfl | rfl | rfl | rfl <;> rfl
theorem saN_regs {s : St} {a : Sa} (h : isSet a = false) : (saN s a).r = s.r := by
  by_cases he : saE s a = 0
  · rw [saN_yes he, (saE_put h).2]
    rw [(saE_put h).1] at he
    unfold putY
    rw [if_pos he]
    rfl
  · rw [saN_no he]
theorem saF_regs {l : List Sa} (h : ∀ k, k < l.length → isSet (saAt l k) = false) : ∀ n, n ≤ l.length → (saF l n).r = stF.r
  | 0, _ => rfl
  | n + 1, hn => (saN_regs (h n (by omega))).trans (saF_regs h n (by omega))
theorem saM_first {l : List Sa} (h : ∀ k, k < l.length → isSet (saAt l k) = false) : stW (saM l) stF = true := by
  have hr := saF_regs h (min l.length 100) (by omega)
  refine stW_yes (saM_right l) stR_stF (fun t ht => ?_) fun t ht => ?_
  · show vW ((saF l (min l.length 100)).r t) (stF.r t) = true
    rw [hr]
    have := (stR_get stR_stF).1 t ht
    unfold vW
    rw [this, vEq_iff.mpr rfl]
    simp
  · show slW _ slZ = true
    unfold slW
    have e0 : ((slZ.v.k == 0) = true) := rfl
    rw [if_pos e0]
    show (0#8 &&& _ == 0#8) = true
    rw [BitVec.zero_and]
    rfl

end Go.Proofs.Ytdgckjkdimnpoaa

namespace Go.Proofs.Ytdgckjkdimnpoaa
open Go Go.RowKit
set_option maxRecDepth 100000
set_option linter.unusedVariables false

section
variable {ops : Array Oper} {rest : List Oper} {op : Oper} {a : Act} {w : World} {Q : Exit → Act → World → Prop} {K : Act → World → Prop} {S : World → Prop}
theorem st_store_op (x y : Operand) (ho : op.op = .store 36 x y) {g : Nat} {X Y : St} (hx : a.eval x = .pointer (some ⟨g, 0, none⟩)) (hy : a.eval y = stV Y) (hb : stB g X w)
    (h : K (a.put op.dst undef) (w.setRow g (stC Y))) : op.wp Try.prog a w K Q :=
  wp_store_row 36 x y ho g (stC Y) hx hy 36 (stC X) hb (by rw [stC_size]; kernel_rfl) (by rw [stC_size, stC_size]) (by
    show (stL Y).toArray.all _ = true
    exact all_oneCell_toArray (stL_one Y)) h
theorem st_loadz_w (hw : Region.wanted op (yielded ops a.tmps) = true) (x : Operand) (ho : op.op = .load 34 x) {g : Nat} {X : St} (hx : a.eval x = .pointer (some ⟨g, 77, none⟩)) (hb : stB g X w)
    (h : wpList Try.prog ops Q rest (a.put op.dst (zV X)) w) : wpList Try.prog ops Q (op :: rest) a w := by
  unfold wpList
  rw [if_pos hw]
  exact .inl (wp_load_mid 34 x ho g 77 hx (zL X) _ (st_slots hb) Try.underlying34 rfl (by rw [zL_len]; kernel_rfl) h)
theorem st_loadr_w (hw : Region.wanted op (yielded ops a.tmps) = true) (x : Operand) (ho : op.op = .load 31 x) {g : Nat} {X : St} (hx : a.eval x = .pointer (some ⟨g, 0, none⟩)) (hb : stB g X w)
    (h : wpList Try.prog ops Q rest (a.put op.dst (rV X)) w) : wpList Try.prog ops Q (op :: rest) a w := by
  unfold wpList
  rw [if_pos hw]
  exact .inl (wp_load_mid 31 x ho g 0 hx (rL X) _ (st_regs hb) Try.underlying31 rfl (by rw [rL_len]; kernel_rfl) h)
theorem st_loadV_w (hw : Region.wanted op (yielded ops a.tmps) = true) (x : Operand) (ho : op.op = .load 30 x) {g o : Nat} {v : Vl} (hx : a.eval x = .pointer (some ⟨g, o, none⟩)) (hc : w.rangeAt g o (vL v))
    (h : wpList Try.prog ops Q rest (a.put op.dst (vV v)) w) : wpList Try.prog ops Q (op :: rest) a w := by
  unfold wpList
  rw [if_pos hw]
  exact .inl (wp_load_mid 30 x ho g o hx (vL v) _ hc Try.underlying30 rfl (by rw [vL_len]; kernel_rfl) h)
end
theorem vBlk_range {g : Nat} {t : TypeId} {v : Vl} {u : World} (h : Blk g (vCells v) t u) : u.rangeAt g 0 (vL v) := Blk.range h 0 _ fun j c hc => by
  rw [Nat.zero_add, vL_C, List.getElem?_toArray]; exact hc
theorem setE_why {x : St} {i : Int} {v : Vl} (hr : stR x = true) (h : ¬ setE x i v = 0) : setX x i v = stZ ∧ (i < 0 ∨ (0 ≤ i ∧ 10 < i) ∨ (0 ≤ i ∧ i ≤ 10 ∧ vR v = false)) := by
  refine ⟨by unfold setX; rw [if_neg h], ?_⟩
  by_cases h1 : i < 0
  · exact .inl h1
  · by_cases h2 : 10 < i
    · exact .inr (.inl ⟨by omega, h2⟩)
    · refine .inr (.inr ⟨by omega, by omega, ?_⟩)
      cases hv : vR v
      · rfl
      · exact absurd (setE_yes' hr (by omega) (by omega) hv).1 h
theorem reg_back (x : St) (m : Nat) (v : Vl) : (x.reg m v).reg m (x.r m) = x := by
  unfold St.reg
  cases x with
  | mk r s =>
    congr 1
    funext k
    show (if k = m then r m else if k = m then v else r k) = r k
    by_cases h : k = m
    · rw [if_pos h, h]
    · rw [if_neg h, if_neg h]
theorem reg_other (x : St) {m k : Nat} (v : Vl) (h : ¬ k = m) : (x.reg m v).r k = x.r k := if_neg h
theorem reg_same (x : St) (m : Nat) (v : Vl) : (x.reg m v).r m = v := if_pos rfl
theorem slot_other (x : St) {m k : Nat} (y : Sl) (h : ¬ k = m) : (x.slot m y).s k = x.s k := if_neg h
theorem zC_reg (x : St) (m : Nat) (v : Vl) : zC (x.reg m v) = zC x := rfl
theorem rC_slot (x : St) (m : Nat) (y : Sl) : rC (x.slot m y) = rC x := rfl

end Go.Proofs.Ytdgckjkdimnpoaa

namespace Go.Proofs.Ytdgckjkdimnpoaa
open Go Go.RowKit
set_option maxRecDepth 100000
set_option linter.unusedVariables false

section
variable {ops : Array Oper} {op : Oper} {a : Act} {S : World → Prop}
theorem u8_yield (hw : Region.wanted op (yielded ops a.tmps) = true) (x : Operand) (ho : op.op = .load 5 x) {g o : Nat} {v : Value} (hx : a.eval x = .pointer (some ⟨g, o, none⟩)) (hS : ∀ w, S w → w.cell? ⟨g, o, none⟩ = some v) : YieldsIf Try.prog ops S op v a :=
  .inl ⟨hw, fun u hu => by
    have h := hS u hu
    unfold execOp
    simp only [ho, hx]
    simp [go_sem, h]⟩
theorem int_yield (hw : Region.wanted op (yielded ops a.tmps) = true) (x : Operand) (ho : op.op = .load 3 x) {g o : Nat} {v : Value} (hx : a.eval x = .pointer (some ⟨g, o, none⟩)) (hS : ∀ w, S w → w.cell? ⟨g, o, none⟩ = some v) : YieldsIf Try.prog ops S op v a :=
  .inl ⟨hw, fun u hu => by
    have h := hS u hu
    unfold execOp
    simp only [ho, hx]
    simp [go_sem, h]⟩
end
theorem saBlk_range {g : Nat} {t : TypeId} {y : Sa} {u : World} (h : Blk g (saC y) t u) : u.rangeAt g 3 (vL y.v) := Blk.range h 3 _ fun j c hc => by
  have hj := lt_of_some hc
  rw [vL_len] at hj
  rw [← hc]
  match j, hj with
  | 0, _ => rfl
  | 1, _ => rfl
  | 2, _ => rfl
  | 3, _ => rfl
  | 4, _ => rfl
  | 5, _ => rfl
  | 6, _ => rfl
theorem and_not_self (p : BitVec 8) : bits .andNot .u8 (p.toNat : Int) (p.toNat : Int) = 0 := by
  rw [b8_andNot, BitVec.and_not_self]
  rfl
theorem and_not_more (p b : BitVec 8) : bits .andNot .u8 (p.toNat : Int) ((p ||| b).toNat : Int) = 0 := by
  rw [b8_andNot]
  have : p &&& ~~~(p ||| b) = 0#8 := by
    apply BitVec.eq_of_getLsbD_eq
    intro i hi
    simp [hi]
    intro h1 h2
    rw [h1] at h2
    cases h2
  rw [this]
  rfl

end Go.Proofs.Ytdgckjkdimnpoaa

namespace Go.Proofs.Ytdgckjkdimnpoaa
open Go Go.RowKit Go.Deep
set_option maxRecDepth 100000
set_option linter.unusedVariables false

def saCs (l : List Sa) : List Value := l.flatMap saL
theorem saCs_len (l : List Sa) : (saCs l).length = l.length * 10 := by
  induction l with
  | nil => rfl
  | cons x l ih =>
    show (saL x ++ saCs l).length = _
    rw [List.length_append, ih, saL_len, List.length_cons]
    omega
theorem saCs_app (a b : List Sa) : saCs (a ++ b) = saCs a ++ saCs b := by simp [saCs]
theorem saCs_at (L : List Sa) (k r : Nat) (h : k < L.length) (hr : r < 10) : (saCs L)[k * 10 + r]? = (saL (saAt L k))[r]? := by
  induction L generalizing k with
  | nil => simp at h
  | cons x l ih =>
    have e : saCs (x :: l) = saL x ++ saCs l := rfl
    cases k with
    | zero =>
      rw [e, List.getElem?_append_left (by rw [saL_len]; omega)]
      simp [saAt]
    | succ k =>
      rw [e, List.getElem?_append_right (by rw [saL_len]; omega), saL_len]
      have := ih k (by simpa using h)
      rw [show (k + 1) * 10 + r - 10 = k * 10 + r by omega, this]
      simp [saAt]
def stk (l : List Sa) : Nat → List Sa
  | 0 => []
  | j + 1 => if isSet (saAt l j) then stk l j else stk l j ++ [saAt l j]
theorem stk_len (l : List Sa) (j : Nat) : (stk l j).length ≤ j := by
  induction j with
  | zero => simp [stk]
  | succ j ih =>
    unfold stk
    split
    · omega
    · simp only [List.length_append, List.length_singleton]
      omega
theorem stk_mem (l : List Sa) (j : Nat) : ∀ a ∈ stk l j, isSet a = false ∧ ∃ k, a = saAt l k := by
  induction j with
  | zero => intro a ha; simp [stk] at ha
  | succ j ih =>
    intro a ha
    unfold stk at ha
    split at ha
    · exact ih a ha
    · rename_i h
      rcases List.mem_append.mp ha with c | c
      · exact ih a c
      · simp only [List.mem_singleton] at c
        subst c
        exact ⟨by simpa using h, j, rfl⟩
theorem saAt_mem {l : List Sa} {k : Nat} (h : k < l.length) : saAt l k ∈ l := by
  unfold saAt
  rw [List.getD_eq_getElem?_getD, List.getElem?_eq_getElem h]
  exact List.getElem_mem h
theorem stk_in {l : List Sa} (hv : ∀ k, saIn (saAt l k)) (j k : Nat) : saIn (saAt (stk l j) k) := by
  by_cases h : k < (stk l j).length
  · obtain ⟨_, i, e⟩ := stk_mem l j _ (saAt_mem h)
    rw [e]
    exact hv i
  · unfold saAt
    rw [List.getD_eq_getElem?_getD, List.getElem?_eq_none (by omega)]
    exact saZ_in
theorem stk_put (l : List Sa) (j : Nat) : ∀ k, k < (stk l j).length → isSet (saAt (stk l j) k) = false := fun k hk => (stk_mem l j _ (saAt_mem hk)).1
theorem st_own_slice {w : World} {base size n : Nat} {e : TypeId} {v : Value} {xs : List Value} (h : w.ownsRow base e size v n xs) : ∃ A c, v = .slice A n c ∧ n ≤ c ∧ c ≤ maxLen := by
  rcases h.2 with ⟨rfl, rfl⟩ | ⟨g, cap, cur, rfl, _, _, h1, h2, _⟩
  · exact ⟨none, 0, rfl, Nat.le_refl _, Nat.zero_le _⟩
  · exact ⟨_, cap, rfl, h1, h2⟩
theorem st_below_own {w0 w w' : World} {base size n : Nat} {e : TypeId} {v : Value} {xs : List Value} (B : Below base w0 w) (h : w.ownsRow base e size v n xs) (hb : base ≤ w.heap.size) (hg : w.grownBy w' v.ownBlock) : Below base w0 w' :=
  B.grown hg hb (fun k hk => (h.lt k hk).1)
theorem own_SaS {w : World} {base : Nat} {A : Option Addr} {c : Nat} {L : List Sa} (h : w.ownsRow base 43 10 (.slice A L.length c) L.length (saCs L)) : SaS w A L := by
  intro h0
  rcases h.2 with ⟨hv, hn⟩ | ⟨g, cap, cur, hv, hb, hg, h1, h2, h3, h4⟩
  · omega
  · cases hv
    refine ⟨g, 0, rfl, (Array.getElem?_eq_some_iff.1 hg).1, fun k hk j v hj => ?_⟩
    have hj10 : j < 10 := by have := lt_of_some hj; rwa [saL_len] at this
    rw [cell_of_row w g (0 + k * 10 + j) cur _ (0, 0) hg, ← saCs_at L k j hk hj10, ← h4, List.getElem?_take, if_pos (by omega), Nat.zero_add] at *
    rw [← hj]
    simp
theorem acts_room {H : Type} {enc : TypeId × Value → H} {w : World} {base : Nat} {held : Bool} {A : Option Addr} {n c : Nat} {ts : List TypeId} {ds : List (DataW H)} {j : Nat} {d : DataW H} {p : List MemPlace}
    (h : DataW.Trod enc Try.prog w base (fun _ => true) held 41 (.slice A n c) d p) (ht : ts[j]? = some 41) (hd : ds[j]? = some d)
    (hs : (DataW.weightsEach Try.prog ts ds).all (· ≤ reachBytes) = true) : n * 80 ≤ 140737488351232 := by
  obtain ⟨fuel, hf⟩ := h
  rcases open_slice Try.underlying41 hf with ⟨hcs, _⟩ | ⟨a, len, cap, m, n', D, Pl, hcs, hb, hl, hm, hmm, hx, hi⟩
  · simp [Value.cells] at hcs
    obtain ⟨rfl, rfl, rfl⟩ := hcs
    omega
  · simp [Value.cells] at hcs
    obtain ⟨rfl, rfl, rfl⟩ := hcs
    have hd' : d = .slice ((List.range n).map D) ((List.range (m - n)).map fun j => D (n + j)) := (Prod.mk.inj hx).1
    have := sized_slice hs ht (hd.trans (congrArg some hd')) Try.underlying41
    rw [show Try.prog.bytesOf 43 = 80 by kernel_rfl, show reachBytes = 140737488351232 by rfl] at this
    simp only [List.length_map, List.length_range] at this
    omega

end Go.Proofs.Ytdgckjkdimnpoaa

namespace Go.Proofs.Ytdgckjkdimnpoaa
open Go.ChangeShapes Go.WideShapes Go.ChangeAt Go.RowKit

section
variable {H : Type} {enc : TypeId × Value → H}

/-- The row's step, for a law of whatever number of arguments. -/
theorem law_lifted_sized {C : Checked} {os : Os} {f : FuncId} {fn : Func} {s : ChangeSpec} {conds : List PathCond} {b : TypeId}
    (own : ownKnob C.prog.godebug = none) (started : os.Started) (noInit : C.prog.inits.idxOf? f = none) (hfn : C.prog.funcs[f]? = some fn)
    (witness : ∃ (w : World) (tape : Tape) (i : Input), w.os = os ∧ (w.forCall tape i).Shaped C.prog ∧ i.vars = [] ∧ Input.okWide C.prog (w.forCall tape i) .any w.heap.size f i ∧
      s.pre6 enc C.prog fn conds false (w.forCall tape i).memory i.args ∧ ({} : Assume).holds C.prog (lone (Frame.enter C.prog f i.args .normal) [] (w.forCall tape i)))
    (hl : laidOutB C.prog = true) (hvars : s.vars = []) (hres : fn.resultTypes = #[b]) (hb : C.prog.underlying b = some .bool)
    (hread : (fn.params.toList.all fun t => C.prog.readableRec t && decide (t < C.prog.types.size)) = true)
    (hspec : ∀ ds : List (DataW H), ds.length = fn.params.size → s.fn H ds = { results := [.lit (.bool true)], args := ds, vars := [] })
    (walk : ∀ (W : World) (base : Nat) (args : Array Value) (ds : List (DataW H)) (p : List MemPlace),
      (∀ (j : Nat) t v, fn.params[j]? = some t → args[j]? = some v → Value.okWide C.prog W .any base t v) →
      DataW.TrodAll enc C.prog W 0 (fun _ => true) true fn.params.toList args.toList ds p →
      (DataW.weightsEach C.prog fn.params.toList ds).all (· ≤ reachBytes) = true →
      Calls C.prog f args W fun e W' => e = .returned (.bool true) ∧ Below W.heap.size W W') :
    ReturnsInHanded {} C os f .any (s.pre6 enc C.prog fn conds false) (s.post enc C.prog fn false true false false) := by
  refine returnsInHanded_of_change_sized own started noInit hfn witness ?_
  intro W base args ds gs before hval hW _ hsz _
  have hW' := hW
  obtain ⟨p, q, hA, hV, rfl, _, _⟩ := hW
  rw [hvars] at hV
  obtain ⟨rfl, rfl⟩ := trodVars_none hV
  have hsz' : (DataW.weightsEach C.prog fn.params.toList ds).all (· ≤ reachBytes) = true := by
    have e : s.plain.varTypes C.prog = [] := by simp [ChangeSpec.plain, DataSpec.varTypes, hvars]
    rw [e, List.append_nil, List.append_nil] at hsz
    exact hsz
  refine (walk W base args ds p hval hA hsz').mono fun e W' ⟨he, bel⟩ => ?_
  have hlen : ds.length = fn.params.size := by simpa using trodAll_length _ _ _ _ hA
  have hsp := hspec ds hlen
  refine ⟨_, he, ds, [], _, [], p, [], hW', ?_, ?_, ?_, bel.frame _, fun h => by cases h⟩
  · rw [List.append_nil, hsp, hres]
    exact trodAll_mk1 (shut_bool hb _)
  · rw [List.append_nil, hsp]
    exact below_trodAll hl bel _ _ _ _ hread hA
  · rw [List.append_nil, hsp, hvars]
    rfl
end

end Go.Proofs.Ytdgckjkdimnpoaa
