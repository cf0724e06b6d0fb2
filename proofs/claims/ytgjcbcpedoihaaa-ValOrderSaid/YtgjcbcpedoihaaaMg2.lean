/-
  Texts, one behind the other: FactPlain, FactDo, Gives, FactBox, TnumBox, SpanLeaf, Fact1.
  Conditions: those that each theorem states.
-/
import Derived.Test.YtgjcbcpedoihaaaMg1

namespace Go.Proofs.Ytgjcbcpedoihaaa
open Go Go.RowKit
set_option maxRecDepth 100000
set_option linter.unusedVariables false

def fZ : Fc := ((0#64, 0#64), (0, 0))
/-- Is it settled? -/
def fR (f : Fc) : Bool := decide (fS f = some f)
def fOf (n : BitVec 64) : Fc := ((n, 0#64), ((n.toNat : Int), (n.toNat : Int)))
def fAny : Fc := ((0#64, BitVec.allOnes 64), sAll)
/-- What one comes to; nothing, if it comes to none. -/
def fSd (f : Fc) : Fc := (fS f).getD fZ
def fHs (f : Fc) (n : BitVec 64) : Bool := fR f && fHas f n
def fWi (a b : Fc) : Bool := fR a && fR b && fLe a b
def fK (f : Fc) : Bool := fR f && (f.1.2 == 0#64)
def fKv (f : Fc) : BitVec 64 := if fK f then f.1.1 else 0#64
def fJ (a b : Fc) : Fc := if fR a && fR b then fSd (tJ a.1 b.1, sJ a.2 b.2) else fZ
theorem fR_iff {f : Fc} : fR f = true ↔ fFix f := by
  unfold fR
  rw [decide_eq_true_iff]
  exact ⟨fS_fix, fFix_S⟩
theorem fOf_in (n : BitVec 64) : fIn (fOf n) := ⟨bv_rng n, bv_rng n⟩
theorem fOf_RR (n : BitVec 64) : fRR (fOf n) = true := fRR_iff.mpr ⟨of_right n, decide_eq_true (Int.le_refl _)⟩
theorem fOf_has (n : BitVec 64) : fHas (fOf n) n = true := fHas_iff.mpr ⟨of_has n, sH_iff.mpr ⟨Int.le_refl _, Int.le_refl _⟩⟩
theorem sW_eq {a : Sp} {n : Int} (h : sW a (n, n) = true) : a = (n, n) := by
  have k := sW_iff.mp h
  have k1 : n ≤ a.1 := k.2.1
  have k2 : a.2 ≤ n := k.2.2
  have e1 : a.1 = n := by have := k.1.1; omega
  have e2 : a.2 = n := by have := k.1.1; omega
  exact Prod.ext e1 e2
theorem tW_eq {a : Tn} {n : BitVec 64} (h : tW a (n, 0#64) = true) : a = (n, 0#64) := by
  refine tW_same h ?_
  obtain ⟨_, h1⟩ := (tW_iff a _).mp h
  rw [bv_ext]
  intro i hi
  have h2 := (h1 i hi).1
  show a.2.getLsbD i = (0#64).getLsbD i
  rw [zero_bit]
  have h3 : (a.2.getLsbD i && !(0#64).getLsbD i) = false := h2
  rw [zero_bit] at h3
  simpa using h3
theorem fLe_of {a : Fc} {n : BitVec 64} (h : fLe a (fOf n) = true) : a = fOf n := by
  obtain ⟨h1, h2⟩ := fLe_iff.mp h
  exact Prod.ext (tW_eq h1) (sW_eq h2)
theorem fOf_fix (n : BitVec 64) : fFix (fOf n) := by
  obtain ⟨g, hg, hh⟩ := fS_has (fOf_in n) (fOf_RR n) (fOf_has n)
  have e := fLe_of (fS_le hg)
  have hx := fS_fix hg
  rw [e] at hx
  exact hx
theorem all_bit {i : Nat} (hi : i < 64) : (BitVec.allOnes 64).getLsbD i = true := by rw [BitVec.getLsbD_allOnes]; exact decide_eq_true hi
theorem any_right : tR (0#64, BitVec.allOnes 64) = true := zero_right _
theorem tW_any {a : Tn} (ra : tR a = true) : tW a (0#64, BitVec.allOnes 64) = true := by
  rw [tW_iff]
  refine ⟨ra, fun i hi => ?_⟩
  show (a.2.getLsbD i && !(BitVec.allOnes 64).getLsbD i) = false ∧ (a.1.getLsbD i && !(BitVec.allOnes 64).getLsbD i) = (0#64).getLsbD i
  rw [all_bit hi, zero_bit]
  simp
theorem tH_any (n : BitVec 64) : tH (0#64, BitVec.allOnes 64) n = true := within_has (tW_any (of_right n)) (of_has n)
theorem sAll_in : sIn sAll := by unfold sIn In64 sAll; decide
theorem fAny_in : fIn fAny := sAll_in
theorem fAny_RR : fRR fAny = true := fRR_iff.mpr ⟨any_right, by decide⟩
theorem sH_all {n : Int} (h : In64 n) : sH sAll n = true := sH_iff.mpr h
theorem fAny_has (n : BitVec 64) : fHas fAny n = true := fHas_iff.mpr ⟨tH_any n, sH_all (bv_rng n)⟩
theorem tW_anti {a b : Tn} (h1 : tW a b = true) (h2 : tW b a = true) : a = b := by
  obtain ⟨ra, k1⟩ := (tW_iff a b).mp h1
  obtain ⟨rb, k2⟩ := (tW_iff b a).mp h2
  refine tW_same h1 ?_
  rw [bv_ext]
  intro i hi
  have e1 := (k1 i hi).1
  have e2 := (k2 i hi).1
  revert e1 e2
  cases a.2.getLsbD i <;> cases b.2.getLsbD i <;> simp
theorem fLe_anti {a b : Fc} (h1 : fLe a b = true) (h2 : fLe b a = true) : a = b := by
  obtain ⟨a1, a2⟩ := fLe_iff.mp h1
  obtain ⟨b1, b2⟩ := fLe_iff.mp h2
  have k1 := sW_iff.mp a2
  have k2 := sW_iff.mp b2
  refine Prod.ext (tW_anti a1 b1) (Prod.ext ?_ ?_) <;> omega
theorem fAny_fix : fFix fAny := by
  obtain ⟨g, hg, hh⟩ := fS_has fAny_in fAny_RR (fAny_has 0#64)
  have hx := fS_fix hg
  have h0 : ∀ n, fHas g n = true := fun n => by
    obtain ⟨g', hg', hh'⟩ := fS_has fAny_in fAny_RR (fAny_has n)
    rw [hg] at hg'
    cases hg'
    exact hh'
  have e : g = fAny := by
    refine fLe_anti (fS_le hg) ?_
    refine fLe_iff.mpr ⟨?_, ?_⟩
    · rw [tW_iff]
      refine ⟨any_right, fun i hi => ?_⟩
      have z := (tH_iff _ _).mp (fHas_iff.mp (h0 0#64)).1 i hi
      have o := (tH_iff _ _).mp (fHas_iff.mp (h0 (BitVec.allOnes 64))).1 i hi
      rw [zero_bit] at z
      rw [all_bit hi] at o
      show ((BitVec.allOnes 64).getLsbD i && !g.1.2.getLsbD i) = false ∧ ((0#64).getLsbD i && !g.1.2.getLsbD i) = g.1.1.getLsbD i
      rw [all_bit hi, zero_bit]
      revert z o
      cases g.1.1.getLsbD i <;> cases g.1.2.getLsbD i <;> simp
    · have z := sH_iff.mp (fHas_iff.mp (h0 0#64)).2
      have o := sH_iff.mp (fHas_iff.mp (h0 (BitVec.allOnes 64))).2
      have e1 : ((0#64).toNat : Int) = 0 := rfl
      have e2 : ((BitVec.allOnes 64).toNat : Int) = 18446744073709551615 := by decide
      rw [e1] at z
      rw [e2] at o
      exact sW_mk (by decide) (by omega) (by show g.2.1 ≤ 0; omega) (by show (18446744073709551615 : Int) ≤ g.2.2; omega)
  rw [e] at hx
  exact hx
/-- What is settled, and known, is one number. -/
theorem known_of {f : Fc} (hf : fFix f) (hi : fIn f) (h : f.1.2 = 0#64) : f = fOf f.1.1 := by
  obtain ⟨p1, _⟩ := fix_parts hf
  have e : f.1 = (f.1.1, 0#64) := Prod.ext rfl h
  have e2 : bSp f.1 = ((f.1.1.toNat : Int), (f.1.1.toNat : Int)) := by
    unfold bSp
    rw [h]
    simp
  rw [e2] at p1
  exact Prod.ext e (sW_eq p1)
theorem known_has {f : Fc} {n : BitVec 64} (h : fHas f n = true) (e : f.1.2 = 0#64) : n = f.1.1 := by
  have h1 := (fHas_iff.mp h).1
  unfold tH at h1
  rw [beq_iff_eq, e, and_all] at h1
  exact h1

/-! What comes of parts that have a number. -/
theorem sJ_in {a b : Sp} (ha : sIn a) (hb : sIn b) : sIn (sJ a b) := by
  unfold sIn In64 sJ at *
  split <;> (dsimp only; omega)
/-! The lowest 32 bits. -/
end Go.Proofs.Ytgjcbcpedoihaaa

namespace Go.Proofs.Ytgjcbcpedoihaaa
open Go Go.RowKit
set_option maxRecDepth 100000
set_option linter.unusedVariables false

theorem ofInt_eq {x : BitVec 64} {z : Int} (h : (x.toNat : Int) = z) : BitVec.ofInt 64 z = x := by
  apply BitVec.eq_of_toNat_eq
  rw [BitVec.toNat_ofInt]
  have := bv_lt x
  omega
/-- A fact that is settled, and a number that may be it. -/
structure Good (f : Fc) (n : BitVec 64) : Prop where
  fix : fFix f
  inn : fIn f
  has : fHas f n = true
theorem Good.of (n : BitVec 64) : Good (fOf n) n := ⟨fOf_fix n, fOf_in n, fOf_has n⟩
theorem Good.any (n : BitVec 64) : Good fAny n := ⟨fAny_fix, fAny_in, fAny_has n⟩
theorem fK_iff {f : Fc} : fK f = true ↔ fFix f ∧ f.1.2 = 0#64 := by
  unfold fK
  rw [Bool.and_eq_true, fR_iff, beq_iff_eq]
theorem Good.known {f : Fc} {n : BitVec 64} (h : Good f n) (k : fK f = true) : f = fOf n ∧ fKv f = n := by
  obtain ⟨_, e⟩ := fK_iff.mp k
  have e1 := known_has h.has e
  refine ⟨?_, ?_⟩
  · rw [known_of h.fix h.inn e, ← e1]
  · unfold fKv
    rw [if_pos k, e1]

end Go.Proofs.Ytgjcbcpedoihaaa

namespace Go.Proofs.Ytgjcbcpedoihaaa
open Go.RowKit
set_option linter.unusedVariables false

theorem int_lt_or (a b : Int) : a < b ∨ b ≤ a := by omega

/-- One answer, and nothing that was there has turned. -/
def Gives (v : Value) (w : World) (e : Ending) (w' : World) : Prop := e = .returned v ∧ Below w.heap.size w w'
theorem below_alloc {w w' : World} (h : Below w.heap.size w w') (o : Obj) : Below w.heap.size w (w'.alloc o) := h.alloc h.size o

/-- A block that holds these cells. -/
def Blk (g : Nat) (cs : Array Value) (t : TypeId) (w : World) : Prop := w.heap[g]? = some (.cells cs t (0, 0))
theorem Blk.lt {g : Nat} {cs : Array Value} {t : TypeId} {w : World} (h : Blk g cs t w) : g < w.heap.size := by
  rcases Nat.lt_or_ge g w.heap.size with k | k
  · exact k
  · unfold Blk at h; rw [Array.getElem?_eq_none k] at h; cases h
theorem Blk.new (w : World) (cs : Array Value) (t : TypeId) {g : Nat} (hg : g = w.heap.size) : Blk g cs t (w.alloc (.cells cs t)) := by
  subst hg
  show (w.heap.push _)[w.heap.size]? = _
  simp
theorem Blk.below {g : Nat} {cs : Array Value} {t : TypeId} {w w' : World} {B : Nat} (h : Blk g cs t w) (b : Below B w w') (hB : g < B) : Blk g cs t w' := (b.block g hB).trans h
theorem Blk.after {g : Nat} {cs : Array Value} {t : TypeId} {w w' : World} (h : Blk g cs t w) (b : Below w.heap.size w w') : Blk g cs t w' := h.below b h.lt
theorem Blk.cell {g : Nat} {cs : Array Value} {t : TypeId} {w : World} (h : Blk g cs t w) (k : Nat) : w.cell? ⟨g, k, none⟩ = cs[k]? := cell_of_row w g k cs t (0, 0) h
theorem Blk.free {g : Nat} {cs : Array Value} {t : TypeId} {w : World} (h : Blk g cs t w) (k : Nat) : w.frozen? ⟨g, k, none⟩ = false := by
  unfold Blk at h
  simp [World.frozen?, h]
theorem Blk.set {g : Nat} {cs : Array Value} {t : TypeId} {w : World} (h : Blk g cs t w) (k : Nat) (v : Value) : Blk g (cs.setIfInBounds k v) t (w.setCell ⟨g, k, none⟩ v) := by
  unfold Blk at *
  simp [World.setCell, Array.getElem?_modify, h]
theorem Blk.other {g k o : Nat} {cs : Array Value} {t : TypeId} {w : World} (h : Blk g cs t w) (v : Value) (hk : g ≠ k) : Blk g cs t (w.setCell ⟨k, o, none⟩ v) := (Below.heap_setCell w ⟨k, o, none⟩ v g hk).trans h

/-- Blocks, in whatever world has come of w0. -/
def Blks (w0 : World) (l : List (Nat × Array Value × TypeId)) (u : World) : Prop := Below w0.heap.size w0 u ∧ ∀ p ∈ l, Blk p.1 p.2.1 p.2.2 u
theorem Blks.none_ {w u : World} (h : Below w.heap.size w u) : Blks w [] u := ⟨h, fun p hp => by cases hp⟩
theorem Blks.start (w : World) : Blks w [] w := Blks.none_ (Below.refl _ _)
theorem Blks.after {w0 u u' : World} {l : List (Nat × Array Value × TypeId)} (h : Blks w0 l u) (k : Below u.heap.size u u') : Blks w0 l u' := ⟨below_next' h.1 k, fun p hp => (h.2 p hp).after k⟩
theorem Blks.alloc {w0 u : World} {l : List (Nat × Array Value × TypeId)} (h : Blks w0 l u) (o : Obj) : Blks w0 l (u.alloc o) := h.after (below_alloc (Below.refl _ _) o)
theorem Blks.new {w0 u : World} {l : List (Nat × Array Value × TypeId)} (h : Blks w0 l u) (cs : Array Value) (t : TypeId) : Blks w0 ((u.heap.size, cs, t) :: l) (u.alloc (.cells cs t)) :=
  ⟨below_alloc h.1 _, fun p hp => by
    rcases List.mem_cons.mp hp with rfl | hp
    · exact Blk.new u cs t rfl
    · exact (h.2 p hp).after (below_alloc (Below.refl _ _) _)⟩
theorem Blks.one {w0 u : World} {g : Nat} {cs : Array Value} {t : TypeId} {l : List (Nat × Array Value × TypeId)} (h : Blks w0 ((g, cs, t) :: l) u) : Blk g cs t u ∧ Blks w0 l u :=
  ⟨h.2 (g, cs, t) (by simp), h.1, fun p hp => h.2 p (by simp [hp])⟩
theorem Blks.get {w0 u : World} {l : List (Nat × Array Value × TypeId)} (h : Blks w0 l u) {g : Nat} {cs : Array Value} {t : TypeId} (hp : (g, cs, t) ∈ l) : Blk g cs t u := h.2 _ hp

end Go.Proofs.Ytgjcbcpedoihaaa

namespace Go.Proofs.Ytgjcbcpedoihaaa
open Go.RowKit
set_option maxRecDepth 100000
set_option linter.unusedVariables false

/-- A fact, and whether there is one. -/
abbrev fBV (f : Fc) (b : Bool) : Value := .tuple #[fV f, .bool b]
/-- A fact's cells. -/
abbrev fCells (f : Fc) : Array Value := #[uV f.1.1, uV f.1.2, .int .u64 f.2.1, .int .u64 f.2.2]
/-- A block that holds a fact. -/
def fB (g : Nat) (f : Fc) (w : World) : Prop := Blk g (fCells f) 28 w
theorem fB.new (w : World) (f : Fc) {g : Nat} (hg : g = w.heap.size) : fB g f (w.alloc (.cells (fCells f) 28)) := Blk.new w _ _ hg
theorem fB.lt {g : Nat} {f : Fc} {w : World} (h : fB g f w) : g < w.heap.size := Blk.lt h
theorem fB.after {g : Nat} {f : Fc} {w w' : World} (h : fB g f w) (b : Below w.heap.size w w') : fB g f w' := Blk.after h b
theorem fB.alloc {g : Nat} {f : Fc} {w : World} (h : fB g f w) (o : Obj) : fB g f (w.alloc o) := h.after (below_alloc (Below.refl _ _) o)
theorem fB.cells {g : Nat} {f : Fc} {w : World} (h : fB g f w) : w.cell? ⟨g, 0, none⟩ = some (uV f.1.1) ∧ w.cell? ⟨g, 1, none⟩ = some (uV f.1.2) ∧ w.cell? ⟨g, 2, none⟩ = some (.int .u64 f.2.1) ∧ w.cell? ⟨g, 3, none⟩ = some (.int .u64 f.2.2) :=
  ⟨Blk.cell h 0, Blk.cell h 1, Blk.cell h 2, Blk.cell h 3⟩
theorem fB.free {g : Nat} {f : Fc} {w : World} (h : fB g f w) : w.frozen? ⟨g, 0, none⟩ = false ∧ w.frozen? ⟨g, 1, none⟩ = false ∧ w.frozen? ⟨g, 2, none⟩ = false ∧ w.frozen? ⟨g, 3, none⟩ = false := ⟨Blk.free h 0, Blk.free h 1, Blk.free h 2, Blk.free h 3⟩
theorem fB.set {g : Nat} {f : Fc} {w : World} (h : fB g f w) (u : Fc) :
    fB g u ((((w.setCell ⟨g, 0, none⟩ (uV u.1.1)).setCell ⟨g, 1, none⟩ (uV u.1.2)).setCell ⟨g, 2, none⟩ (.int .u64 u.2.1)).setCell ⟨g, 3, none⟩ (.int .u64 u.2.2)) :=
  Blk.set (Blk.set (Blk.set (Blk.set h 0 (uV u.1.1)) 1 (uV u.1.2)) 2 (.int .u64 u.2.1)) 3 (.int .u64 u.2.2)
theorem fB.other {g k o : Nat} {f : Fc} {w : World} (h : fB g f w) (v : Value) (hk : g ≠ k) : fB g f (w.setCell ⟨k, o, none⟩ v) := Blk.other h v hk
theorem fB.others {g k : Nat} {f u : Fc} {w : World} (h : fB g f w) (hk : g ≠ k) :
    fB g f ((((w.setCell ⟨k, 0, none⟩ (uV u.1.1)).setCell ⟨k, 1, none⟩ (uV u.1.2)).setCell ⟨k, 2, none⟩ (.int .u64 u.2.1)).setCell ⟨k, 3, none⟩ (.int .u64 u.2.2)) :=
  (((h.other _ hk).other _ hk).other _ hk).other _ hk
theorem below_four {B k : Nat} {w u : World} (h : Below B w u) (hk : B ≤ k) (x : Fc) :
    Below B w ((((u.setCell ⟨k, 0, none⟩ (uV x.1.1)).setCell ⟨k, 1, none⟩ (uV x.1.2)).setCell ⟨k, 2, none⟩ (.int .u64 x.2.1)).setCell ⟨k, 3, none⟩ (.int .u64 x.2.2)) :=
  (((h.setCell (p := ⟨k, 0, none⟩) hk _).setCell (p := ⟨k, 1, none⟩) hk _).setCell (p := ⟨k, 2, none⟩) hk _).setCell (p := ⟨k, 3, none⟩) hk _

/-- One fact's block, and behind it a result's. -/
def FDuo (f t : Fc) (w u : World) : Prop := Below w.heap.size w u ∧ fB w.heap.size f u ∧ fB (w.heap.size + 1) t u
theorem FDuo.new (f t : Fc) (w : World) : FDuo f t w ((w.alloc (.cells (fCells f) 28)).alloc (.cells (fCells t) 28)) :=
  ⟨below_alloc (below_alloc (Below.refl _ _) _) _, (fB.new w f rfl).alloc _, fB.new _ t (by simp)⟩
theorem FDuo.after {f t : Fc} {w u u' : World} (h : FDuo f t w u) (k : Below u.heap.size u u') : FDuo f t w u' := ⟨below_next' h.1 k, h.2.1.after k, h.2.2.after k⟩
theorem FDuo.alloc {f t : Fc} {w u : World} (h : FDuo f t w u) (o : Obj) : FDuo f t w (u.alloc o) := h.after (below_alloc (Below.refl _ _) o)
theorem FDuo.set {f t : Fc} {w u : World} (h : FDuo f t w u) (s : Fc) :
    FDuo f s w ((((u.setCell ⟨w.heap.size + 1, 0, none⟩ (uV s.1.1)).setCell ⟨w.heap.size + 1, 1, none⟩ (uV s.1.2)).setCell ⟨w.heap.size + 1, 2, none⟩ (.int .u64 s.2.1)).setCell ⟨w.heap.size + 1, 3, none⟩ (.int .u64 s.2.2)) :=
  ⟨below_four h.1 (by omega) s, h.2.1.others (by omega), h.2.2.set s⟩
theorem FDuo.far {f t : Fc} {w u : World} {k : Nat} (h : FDuo f t w u) (hk : w.heap.size + 1 < k) (x y : Value) : FDuo f t w ((u.setCell ⟨k, 0, none⟩ x).setCell ⟨k, 1, none⟩ y) :=
  ⟨(h.1.setCell (p := ⟨k, 0, none⟩) (by dsimp only; omega) _).setCell (p := ⟨k, 1, none⟩) (by dsimp only; omega) _, (h.2.1.other _ (by omega)).other _ (by omega), (h.2.2.other _ (by omega)).other _ (by omega)⟩
theorem FDuo.setA {f t : Fc} {w u : World} (h : FDuo f t w u) (s : Fc) :
    FDuo s t w ((((u.setCell ⟨w.heap.size, 0, none⟩ (uV s.1.1)).setCell ⟨w.heap.size, 1, none⟩ (uV s.1.2)).setCell ⟨w.heap.size, 2, none⟩ (.int .u64 s.2.1)).setCell ⟨w.heap.size, 3, none⟩ (.int .u64 s.2.2)) :=
  ⟨below_four h.1 (Nat.le_refl _) s, h.2.1.set s, h.2.2.others (by omega)⟩

end Go.Proofs.Ytgjcbcpedoihaaa

namespace Go.Proofs.Ytgjcbcpedoihaaa
open Go.RowKit
set_option maxRecDepth 100000
set_option linter.unusedVariables false

/-- A block that holds what may be known. -/
def Box (g : Nat) (t : Tn) (w : World) : Prop := w.heap[g]? = some (.cells #[uV t.1, uV t.2] 24 (0, 0))
theorem Box.lt {g : Nat} {t : Tn} {w : World} (h : Box g t w) : g < w.heap.size := by
  rcases Nat.lt_or_ge g w.heap.size with k | k
  · exact k
  · unfold Box at h; rw [Array.getElem?_eq_none k] at h; cases h
theorem Box.new (w : World) (t : Tn) {g : Nat} (hg : g = w.heap.size) : Box g t (w.alloc (.cells #[uV t.1, uV t.2] 24)) := by
  subst hg
  show (w.heap.push _)[w.heap.size]? = _
  simp
theorem Box.below {g : Nat} {t : Tn} {w w' : World} {B : Nat} (h : Box g t w) (b : Below B w w') (hB : g < B) : Box g t w' := (b.block g hB).trans h
theorem Box.after {g : Nat} {t : Tn} {w w' : World} (h : Box g t w) (b : Below w.heap.size w w') : Box g t w' := h.below b h.lt
theorem Box.alloc {g : Nat} {t : Tn} {w : World} (h : Box g t w) (o : Obj) : Box g t (w.alloc o) := h.after (below_alloc (Below.refl _ _) o)
theorem Box.cells {g : Nat} {t : Tn} {w : World} (h : Box g t w) : w.cell? ⟨g, 0, none⟩ = some (uV t.1) ∧ w.cell? ⟨g, 1, none⟩ = some (uV t.2) :=
  ⟨cell_of_row w g 0 _ _ (0, 0) h, cell_of_row w g 1 _ _ (0, 0) h⟩
theorem Box.free {g : Nat} {t : Tn} {w : World} (h : Box g t w) : w.frozen? ⟨g, 0, none⟩ = false ∧ w.frozen? ⟨g, 1, none⟩ = false := by
  unfold Box at h
  constructor <;> simp [World.frozen?, h]
theorem Box.set0 {g : Nat} {t : Tn} {w : World} (h : Box g t w) (x : BitVec 64) : Box g (x, t.2) (w.setCell ⟨g, 0, none⟩ (uV x)) := by
  unfold Box at *
  simp [World.setCell, Array.getElem?_modify, h]
theorem Box.set1 {g : Nat} {t : Tn} {w : World} (h : Box g t w) (x : BitVec 64) : Box g (t.1, x) (w.setCell ⟨g, 1, none⟩ (uV x)) := by
  unfold Box at *
  simp [World.setCell, Array.getElem?_modify, h]
theorem Box.set {g : Nat} {t : Tn} {w : World} (h : Box g t w) (u : Tn) : Box g u ((w.setCell ⟨g, 0, none⟩ (uV u.1)).setCell ⟨g, 1, none⟩ (uV u.2)) := (h.set0 u.1).set1 u.2
theorem Box.other {g k o : Nat} {t : Tn} {w : World} (h : Box g t w) (v : Value) (hk : g ≠ k) : Box g t (w.setCell ⟨k, o, none⟩ v) := (Below.heap_setCell w ⟨k, o, none⟩ v g hk).trans h
/-- The boxes of two arguments, in whatever world has come of them. -/
def Pair (a b : Tn) (w u : World) : Prop := Below w.heap.size w u ∧ Box w.heap.size a u ∧ Box (w.heap.size + 1) b u
theorem Pair.new (a b : Tn) (w : World) : Pair a b w ((w.alloc (.cells #[uV a.1, uV a.2] 24)).alloc (.cells #[uV b.1, uV b.2] 24)) :=
  ⟨below_alloc (below_alloc (Below.refl _ _) _) _, (Box.new w a rfl).alloc _, Box.new _ b (by simp)⟩
theorem Pair.after {a b : Tn} {w u u' : World} (h : Pair a b w u) (k : Below u.heap.size u u') : Pair a b w u' := ⟨below_next' h.1 k, h.2.1.after k, h.2.2.after k⟩
theorem Pair.alloc {a b : Tn} {w u : World} (h : Pair a b w u) (o : Obj) : Pair a b w (u.alloc o) := h.after (below_alloc (Below.refl _ _) o)
theorem Pair.cells {a b : Tn} {w u : World} (h : Pair a b w u) : u.cell? ⟨w.heap.size, 0, none⟩ = some (uV a.1) ∧ u.cell? ⟨w.heap.size, 1, none⟩ = some (uV a.2) ∧
    u.cell? ⟨w.heap.size + 1, 0, none⟩ = some (uV b.1) ∧ u.cell? ⟨w.heap.size + 1, 1, none⟩ = some (uV b.2) := ⟨h.2.1.cells.1, h.2.1.cells.2, h.2.2.cells.1, h.2.2.cells.2⟩
/-- The same, and behind them a third box, a result's. -/
def Trio (a b t : Tn) (w u : World) : Prop := Pair a b w u ∧ Box (w.heap.size + 1 + 1) t u
theorem Trio.new (a b : Tn) (w : World) : Trio a b (0#64, 0#64) w (((w.alloc (.cells #[uV a.1, uV a.2] 24)).alloc (.cells #[uV b.1, uV b.2] 24)).alloc (.cells #[.int .u64 0, .int .u64 0] 24)) :=
  ⟨(Pair.new a b w).alloc _, Box.new _ (0#64, 0#64) (by simp)⟩
theorem Trio.after {a b t : Tn} {w u u' : World} (h : Trio a b t w u) (k : Below u.heap.size u u') : Trio a b t w u' := ⟨h.1.after k, h.2.after k⟩
theorem Trio.alloc {a b t : Tn} {w u : World} (h : Trio a b t w u) (o : Obj) : Trio a b t w (u.alloc o) := h.after (below_alloc (Below.refl _ _) o)
theorem Trio.set {a b t : Tn} {w u : World} (h : Trio a b t w u) (s : Tn) : Trio a b s w ((u.setCell ⟨w.heap.size + 1 + 1, 0, none⟩ (uV s.1)).setCell ⟨w.heap.size + 1 + 1, 1, none⟩ (uV s.2)) :=
  ⟨⟨(h.1.1.setCell (by simp; omega) _).setCell (by simp; omega) _, (h.1.2.1.other _ (by omega)).other _ (by omega), (h.1.2.2.other _ (by omega)).other _ (by omega)⟩, h.2.set s⟩
theorem bv_add' (x y : BitVec 64) : IntKind.u64.wrap ((x.toNat : Int) + (y.toNat : Int)) = ((x + y).toNat : Int) := by rw [IntKind.wrap_u64, bv_add]
theorem mask_int (k : Nat) (h : k ≤ 63) : IntKind.u64.wrap (IntKind.u64.wrap (2 ^ k) - 1) = 2 ^ k - 1 := by
  have h1 := pow_lt_64 k h
  have h2 := pow_le_64 k (by omega)
  rw [IntKind.wrap_u64, IntKind.wrap_u64, h1]
  omega
/-- The box of one argument, and behind it a result's. -/
def Duo (a t : Tn) (w u : World) : Prop := Below w.heap.size w u ∧ Box w.heap.size a u ∧ Box (w.heap.size + 1) t u
theorem Duo.new (a : Tn) (w : World) : Duo a (0#64, 0#64) w ((w.alloc (.cells #[uV a.1, uV a.2] 24)).alloc (.cells #[.int .u64 0, .int .u64 0] 24)) := Pair.new a (0#64, 0#64) w
theorem Duo.after {a t : Tn} {w u u' : World} (h : Duo a t w u) (k : Below u.heap.size u u') : Duo a t w u' := Pair.after h k
theorem Duo.set {a t : Tn} {w u : World} (h : Duo a t w u) (s : Tn) : Duo a s w ((u.setCell ⟨w.heap.size + 1, 0, none⟩ (uV s.1)).setCell ⟨w.heap.size + 1, 1, none⟩ (uV s.2)) :=
  ⟨(h.1.setCell (by simp) _).setCell (by simp) _, (h.2.1.other _ (by omega)).other _ (by omega), h.2.2.set s⟩
abbrev tBV (t : Tn) (ok : Bool) : Value := .tuple #[tV t, .bool ok]
/-- The boxes of mul: both arguments, the result, and what has come together so far. -/
def Quad (a b t : Tn) (w : World) (g : Nat) (u : World) : Prop := Trio a b (0#64, 0#64) w u ∧ w.heap.size + 1 + 1 < g ∧ Box g t u
theorem Quad.after {a b t : Tn} {w u u' : World} {g : Nat} (h : Quad a b t w g u) (k : Below u.heap.size u u') : Quad a b t w g u' := ⟨h.1.after k, h.2.1, h.2.2.after k⟩
theorem Quad.set {a b t : Tn} {w u : World} {g : Nat} (h : Quad a b t w g u) (s : Tn) : Quad a b s w g ((u.setCell ⟨g, 0, none⟩ (uV s.1)).setCell ⟨g, 1, none⟩ (uV s.2)) := by
  obtain ⟨⟨⟨h1, h2, h3⟩, h4⟩, h5, h6⟩ := h
  exact ⟨⟨⟨(h1.setCell (by simp; omega) _).setCell (by simp; omega) _, (h2.other _ (by omega)).other _ (by omega), (h3.other _ (by omega)).other _ (by omega)⟩, (h4.other _ (by omega)).other _ (by omega)⟩, h5, h6.set s⟩
end Go.Proofs.Ytgjcbcpedoihaaa

namespace Go.Proofs.Ytgjcbcpedoihaaa
open Go.RowKit
set_option maxRecDepth 100000
set_option linter.unusedVariables false

/-- A span, and whether there is one. -/
abbrev sBV (s : Sp) (b : Bool) : Value := .tuple #[sV s, .bool b]
/-- A block that holds a span. -/
def sB (g : Nat) (s : Sp) (w : World) : Prop := Blk g #[.int .u64 s.1, .int .u64 s.2] 26 w
theorem sB.new (w : World) (s : Sp) {g : Nat} (hg : g = w.heap.size) : sB g s (w.alloc (.cells #[.int .u64 s.1, .int .u64 s.2] 26)) := Blk.new w _ _ hg
theorem sB.lt {g : Nat} {s : Sp} {w : World} (h : sB g s w) : g < w.heap.size := Blk.lt h
theorem sB.after {g : Nat} {s : Sp} {w w' : World} (h : sB g s w) (b : Below w.heap.size w w') : sB g s w' := Blk.after h b
theorem sB.alloc {g : Nat} {s : Sp} {w : World} (h : sB g s w) (o : Obj) : sB g s (w.alloc o) := h.after (below_alloc (Below.refl _ _) o)
theorem sB.cells {g : Nat} {s : Sp} {w : World} (h : sB g s w) : w.cell? ⟨g, 0, none⟩ = some (.int .u64 s.1) ∧ w.cell? ⟨g, 1, none⟩ = some (.int .u64 s.2) := ⟨Blk.cell h 0, Blk.cell h 1⟩
theorem sB.free {g : Nat} {s : Sp} {w : World} (h : sB g s w) : w.frozen? ⟨g, 0, none⟩ = false ∧ w.frozen? ⟨g, 1, none⟩ = false := ⟨Blk.free h 0, Blk.free h 1⟩
theorem sB.set {g : Nat} {s : Sp} {w : World} (h : sB g s w) (t : Sp) : sB g t ((w.setCell ⟨g, 0, none⟩ (.int .u64 t.1)).setCell ⟨g, 1, none⟩ (.int .u64 t.2)) :=
  Blk.set (Blk.set h 0 (.int .u64 t.1)) 1 (.int .u64 t.2)
theorem sB.other {g k o : Nat} {s : Sp} {w : World} (h : sB g s w) (v : Value) (hk : g ≠ k) : sB g s (w.setCell ⟨k, o, none⟩ v) := Blk.other h v hk

/-- The blocks of two arguments, in whatever world has come of them; and behind them a result's. -/
def SPair (a b : Sp) (w u : World) : Prop := Below w.heap.size w u ∧ sB w.heap.size a u ∧ sB (w.heap.size + 1) b u
theorem SPair.new (a b : Sp) (w : World) : SPair a b w ((w.alloc (.cells #[.int .u64 a.1, .int .u64 a.2] 26)).alloc (.cells #[.int .u64 b.1, .int .u64 b.2] 26)) :=
  ⟨below_alloc (below_alloc (Below.refl _ _) _) _, (sB.new w a rfl).alloc _, sB.new _ b (by simp)⟩
theorem SPair.after {a b : Sp} {w u u' : World} (h : SPair a b w u) (k : Below u.heap.size u u') : SPair a b w u' := ⟨below_next' h.1 k, h.2.1.after k, h.2.2.after k⟩
theorem SPair.alloc {a b : Sp} {w u : World} (h : SPair a b w u) (o : Obj) : SPair a b w (u.alloc o) := h.after (below_alloc (Below.refl _ _) o)
def STrio (a b t : Sp) (w u : World) : Prop := SPair a b w u ∧ sB (w.heap.size + 1 + 1) t u
theorem STrio.new (a b : Sp) (w : World) : STrio a b (0, 0) w (((w.alloc (.cells #[.int .u64 a.1, .int .u64 a.2] 26)).alloc (.cells #[.int .u64 b.1, .int .u64 b.2] 26)).alloc (.cells #[.int .u64 0, .int .u64 0] 26)) :=
  ⟨(SPair.new a b w).alloc _, sB.new _ (0, 0) (by simp)⟩
theorem STrio.after {a b t : Sp} {w u u' : World} (h : STrio a b t w u) (k : Below u.heap.size u u') : STrio a b t w u' := ⟨h.1.after k, h.2.after k⟩
theorem STrio.set {a b t : Sp} {w u : World} (h : STrio a b t w u) (s : Sp) : STrio a b s w ((u.setCell ⟨w.heap.size + 1 + 1, 0, none⟩ (.int .u64 s.1)).setCell ⟨w.heap.size + 1 + 1, 1, none⟩ (.int .u64 s.2)) :=
  ⟨⟨(h.1.1.setCell (by simp; omega) _).setCell (by simp; omega) _, (h.1.2.1.other _ (by omega)).other _ (by omega), (h.1.2.2.other _ (by omega)).other _ (by omega)⟩, h.2.set s⟩
theorem STrio.setA {a b t : Sp} {w u : World} (h : STrio a b t w u) (v : Int) : STrio (v, a.2) b t w (u.setCell ⟨w.heap.size, 0, none⟩ (.int .u64 v)) :=
  ⟨⟨h.1.1.setCell (by simp) _, Blk.set h.1.2.1 0 (.int .u64 v), h.1.2.2.other _ (by omega)⟩, h.2.other _ (by omega)⟩
theorem sright_says (s : Sp) (w : World) : Calls Try.prog 79 #[sV s] w (Gives (.bool (sR s)) w) := by
  go_enter Try.func79, Try.ntmps79
  go_wp2
  go_ret
  exact ⟨end_bool rfl, below_alloc (Below.refl _ _) _⟩
theorem shas_says (s : Sp) (n : Int) (w : World) : Calls Try.prog 63 #[sV s, .int .u64 n] w (Gives (.bool (sH s n)) w) := by
  unfold sH
  rcases int_lt_or n s.1 with h | h
  · have e1 : decide (s.1 ≤ n) = false := decide_eq_false (by omega)
    rw [e1]
    clear e1
    go_enter Try.func63, Try.ntmps63
    go_wp2
    go_ret
    exact ⟨rfl, below_alloc (Below.refl _ _) _⟩
  · have e1 : decide (s.1 ≤ n) = true := decide_eq_true (by omega)
    rw [e1]
    clear e1
    go_enter Try.func63, Try.ntmps63
    go_wp2
    go_ret
    exact ⟨rfl, below_alloc (Below.refl _ _) _⟩
theorem stold_says (l h : Int) (w : World) : Calls Try.prog 80 #[.int .u64 l, .int .u64 h] w (Gives (sBV (sT l h) (sTok l h)) w) := by
  unfold sT sTok
  rcases int_lt_or h l with k | k
  · rw [if_pos k, decide_eq_false (by omega)]
    go_enter Try.func80, Try.ntmps80
    go_wp2
    exact bodyPost_ret (v := sBV (0, 0) false) (by simp [results, Try.results80, go_sem]) rfl ⟨rfl, below_alloc (Below.refl _ _) _⟩
  · rw [if_neg (by omega), decide_eq_true (by omega)]
    go_enter Try.func80, Try.ntmps80
    go_wp2
    exact bodyPost_ret (v := sBV (l, h) true) (by simp [results, Try.results80, go_sem]) rfl ⟨rfl, below_alloc (Below.refl _ _) _⟩
set_option maxHeartbeats 1000000 in
theorem smeet_says (a b : Sp) (w : World) : Calls Try.prog 76 #[sV a, sV b] w (Gives (sBV (sM a b) (sMok a b)) w) := by
  unfold sM sMok
  have hx := Lib.hid (STrio.new a b w)
  have T := Lib.hid (stold_says (max a.1 b.1) (min a.2 b.2))
  generalize sT (max a.1 b.1) (min a.2 b.2) = t at *
  generalize sTok (max a.1 b.1) (min a.2 b.2) = k at *
  have e1 : max a.1 b.1 = if a.1 < b.1 then b.1 else a.1 := by split <;> omega
  have e2 : min a.2 b.2 = if b.2 < a.2 then b.2 else a.2 := by split <;> omega
  rw [e1, e2] at T
  clear e1 e2
  rcases int_lt_or a.1 b.1 with h1 | h1
  all_goals
    rcases int_lt_or b.2 a.2 with h2 | h2
  all_goals
    first | rw [if_pos h1] at T | rw [if_neg (by omega)] at T
    first | rw [if_pos h2] at T | rw [if_neg (by omega)] at T
    go_enter Try.func76, Try.ntmps76
    go_wp2_with fail
    refine (T.out _).mono ?_; rintro e w1 ⟨rfl, b1⟩
    have x1 := hx.out.after b1
    obtain ⟨c0, c1⟩ := x1.2.cells
    obtain ⟨f0, f1⟩ := x1.2.free
    have X1 := Lib.hid (x1.set t)
    clear x1 hx b1
    go_wp2_with fail
    exact bodyPost_ret (v := sBV t k) (by simp [results, Try.results76, go_sem, c0, c1]) rfl ⟨rfl, X1.out.1.1⟩
theorem sboth_says (a b : Sp) (w : World) : Calls Try.prog 67 #[sV a, sV b] w (Gives (.bool (sRR a b)) w) := by
  have h1 := Lib.hid (sright_says a)
  have h2 := Lib.hid (sright_says b)
  have hx := Lib.hid (SPair.new a b w)
  unfold sRR
  generalize sR b = y at *
  cases ha : sR a
  · rw [ha] at h1
    clear ha
    go_enter Try.func67, Try.ntmps67
    go_wp2_with fail
    refine (h1.out _).mono ?_; rintro e w1 ⟨rfl, b1⟩
    go_wp2_with fail
    go_ret
    exact ⟨rfl, (hx.out.after b1).1⟩
  · rw [ha] at h1
    clear ha
    go_enter Try.func67, Try.ntmps67
    go_wp2_with fail
    refine (h1.out _).mono ?_; rintro e w1 ⟨rfl, b1⟩
    have x1 := hx.out.after b1
    obtain ⟨p0, p1⟩ := x1.2.2.cells
    have X1 := Lib.hid x1
    clear x1 hx b1
    go_wp2_with fail
    refine (h2.out _).mono ?_; rintro e w2 ⟨rfl, b2⟩
    go_wp2_with fail
    go_ret
    exact ⟨rfl, (X1.out.after b2).1⟩
set_option maxHeartbeats 1000000 in
theorem swithin_says (a b : Sp) (w : World) : Calls Try.prog 50 #[sV a, sV b] w (Gives (.bool (sW a b)) w) := by
  have h1 := Lib.hid (sboth_says a b)
  have hx := Lib.hid (SPair.new a b w)
  unfold sW
  cases ha : sRR a b
  · rw [ha] at h1
    clear ha
    go_enter Try.func50, Try.ntmps50
    go_wp2_with fail
    refine (h1.out _).mono ?_; rintro e w1 ⟨rfl, b1⟩
    go_wp2_with fail
    go_ret
    exact ⟨rfl, (hx.out.after b1).1⟩
  · rw [ha] at h1
    clear ha
    rcases int_lt_or a.1 b.1 with h | h
    · rw [decide_eq_false (p := b.1 ≤ a.1) (by omega)]
      go_enter Try.func50, Try.ntmps50
      go_wp2_with fail
      refine (h1.out _).mono ?_; rintro e w1 ⟨rfl, b1⟩
      have x1 := hx.out.after b1
      obtain ⟨p0, p1⟩ := x1.2.2.cells
      obtain ⟨q0, q1⟩ := x1.2.1.cells
      have X1 := Lib.hid x1
      clear x1 hx b1
      go_wp2_with fail
      go_ret
      exact ⟨rfl, X1.out.1⟩
    · rw [decide_eq_true (p := b.1 ≤ a.1) (by omega)]
      go_enter Try.func50, Try.ntmps50
      go_wp2_with fail
      refine (h1.out _).mono ?_; rintro e w1 ⟨rfl, b1⟩
      have x1 := hx.out.after b1
      obtain ⟨p0, p1⟩ := x1.2.2.cells
      obtain ⟨q0, q1⟩ := x1.2.1.cells
      have X1 := Lib.hid x1
      clear x1 hx b1
      go_wp2_with fail
      go_ret
      exact ⟨rfl, X1.out.1⟩
set_option maxHeartbeats 1000000 in
theorem sjoin_says (a b : Sp) (w : World) : Calls Try.prog 54 #[sV a, sV b] w (Gives (sV (sJ a b)) w) := by
  have h1 := Lib.hid (sboth_says a b)
  have hx := Lib.hid (STrio.new a b w)
  unfold sJ
  cases ha : sRR a b
  · rw [ha] at h1
    clear ha
    go_enter Try.func54, Try.ntmps54
    go_wp2_with fail
    refine (h1.out _).mono ?_; rintro e w1 ⟨rfl, b1⟩
    have x1 := hx.out.after b1
    obtain ⟨c0, c1⟩ := x1.2.cells
    obtain ⟨f0, f1⟩ := x1.2.free
    have X1 := Lib.hid (x1.set (0, 0))
    clear x1 hx b1
    go_wp2_with fail
    exact bodyPost_ret (v := sV (0, 0)) (by simp [results, Try.results54, go_sem, c0, c1]) rfl ⟨rfl, X1.out.1.1⟩
  · rw [ha] at h1
    rw [if_pos rfl]
    clear ha
    have e1 : min a.1 b.1 = if b.1 < a.1 then b.1 else a.1 := by split <;> omega
    have e2 : max a.2 b.2 = if a.2 < b.2 then b.2 else a.2 := by split <;> omega
    rw [e1, e2]
    clear e1 e2
    rcases int_lt_or b.1 a.1 with k1 | k1
    all_goals
      rcases int_lt_or a.2 b.2 with k2 | k2
    all_goals
      first | rw [if_pos k1] | rw [if_neg (by omega)]
      first | rw [if_pos k2] | rw [if_neg (by omega)]
      go_enter Try.func54, Try.ntmps54
      go_wp2_with fail
      refine (h1.out _).mono ?_; rintro e w1 ⟨rfl, b1⟩
      have x1 := hx.out.after b1
      obtain ⟨c0, c1⟩ := x1.2.cells
      obtain ⟨p0, p1⟩ := x1.1.2.2.cells
      obtain ⟨q0, q1⟩ := x1.1.2.1.cells
      obtain ⟨f0, f1⟩ := x1.2.free
      have X1 := Lib.hid x1
      clear x1 hx b1
      go_wp2_with fail
      first
        | exact bodyPost_ret (v := sV (a.1, a.2)) (by simp [results, Try.results54, go_sem, c0, c1]) rfl ⟨rfl, (X1.out.set (a.1, a.2)).1.1⟩
        | exact bodyPost_ret (v := sV (a.1, b.2)) (by simp [results, Try.results54, go_sem, c0, c1]) rfl ⟨rfl, (X1.out.set (a.1, b.2)).1.1⟩
        | exact bodyPost_ret (v := sV (b.1, a.2)) (by simp [results, Try.results54, go_sem, c0, c1]) rfl ⟨rfl, (X1.out.set (b.1, a.2)).1.1⟩
        | exact bodyPost_ret (v := sV (b.1, b.2)) (by simp [results, Try.results54, go_sem, c0, c1]) rfl ⟨rfl, (X1.out.set (b.1, b.2)).1.1⟩

end Go.Proofs.Ytgjcbcpedoihaaa

namespace Go.Proofs.Ytgjcbcpedoihaaa
open Go.RowKit
set_option maxRecDepth 100000
set_option linter.unusedVariables false

/-- A range's block, and behind it what it tells. -/
def RD (s : Sp) (t : Tn) (w u : World) : Prop := Below w.heap.size w u ∧ sB w.heap.size s u ∧ Box (w.heap.size + 1) t u
theorem RD.new (s : Sp) (w : World) : RD s (0#64, 0#64) w ((w.alloc (.cells #[.int .u64 s.1, .int .u64 s.2] 26)).alloc (.cells #[.int .u64 0, .int .u64 0] 24)) :=
  ⟨below_alloc (below_alloc (Below.refl _ _) _) _, (sB.new w s rfl).alloc _, Box.new _ (0#64, 0#64) (by simp)⟩
theorem RD.set {s : Sp} {t : Tn} {w u : World} (h : RD s t w u) (x : Tn) : RD s x w ((u.setCell ⟨w.heap.size + 1, 0, none⟩ (uV x.1)).setCell ⟨w.heap.size + 1, 1, none⟩ (uV x.2)) :=
  ⟨(h.1.setCell (by simp) _).setCell (by simp) _, (h.2.1.other _ (by omega)).other _ (by omega), h.2.2.set x⟩

theorem mk_mask (k : Nat) (h : k ≤ 63) : IntKind.u64.wrap (IntKind.u64.wrap (2 ^ k) - 1) = ((mk k).toNat : Int) := by
  rw [mask_int k h]
  unfold mk
  have h1 := Nat.pow_le_pow_right (n := 2) (by decide) h
  have h2 : (2 : Nat) ^ 63 = 9223372036854775808 := by decide
  have h3 := Nat.two_pow_pos k
  rw [BitVec.toNat_ofNat, Nat.mod_eq_of_lt (by omega), Int.natCast_sub (by omega)]
  push_cast
  rfl

set_option maxHeartbeats 1000000 in
theorem fp_told_bv (L H : BitVec 64) (w : World) : Calls Try.prog 78 #[.agg #[uV L, uV H]] w (Gives (tV (rng L H)) w) := by
  have Z := Lib.hid (len64_says (L ^^^ H))
  have hx := Lib.hid (RD.new ((L.toNat : Int), (H.toNat : Int)) w)
  have hk := bl_le (L ^^^ H)
  have hr : rng L H = (L &&& ~~~mk (bl (L ^^^ H)), mk (bl (L ^^^ H))) := rfl
  rw [hr]
  clear hr
  have HX := Lib.hid (bv_xor L H)
  generalize hz : L ^^^ H = z at *
  generalize bl z = k at *
  clear hz
  obtain ⟨c0, c1⟩ := hx.out.2.1.cells
  by_cases h64 : k = 64
  · subst h64
    have ha := bv_andNot L (mk 64)
    have hm : IntKind.u64.wrap (IntKind.u64.wrap 18446744073709551616 - 1) = ((mk 64).toNat : Int) := by rw [IntKind.wrap_u64, IntKind.wrap_u64]; decide
    generalize L &&& ~~~mk 64 = v at *
    generalize mk 64 = m at *
    have HM := Lib.hid hm
    have HA := Lib.hid ha
    clear hm ha
    go_enter Try.func78, Try.ntmps78
    go_wp2_with fail
    rw [HX.out]
    refine (Z.out _).mono ?_; rintro e w1 ⟨rfl, rfl⟩
    go_wp2_with fail
    rw [HM.out, HA.out]
    exact bodyPost_ret (v := tV (v, m)) (by simp [results, Try.results78, go_sem]) rfl ⟨rfl, below_alloc (below_alloc (Below.refl _ _) _) _⟩
  · have hm := mk_mask k (by omega)
    have ha := bv_andNot L (mk k)
    generalize L &&& ~~~mk k = v at *
    generalize mk k = m at *
    have hk' : k ≤ 63 := by omega
    have HM := Lib.hid hm
    have HA := Lib.hid ha
    clear hm ha h64
    go_enter Try.func78, Try.ntmps78
    go_wp2_with fail
    rw [HX.out]
    refine (Z.out _).mono ?_; rintro e w1 ⟨rfl, rfl⟩
    go_wp2_with fail
    rw [HM.out, HA.out]
    exact bodyPost_ret (v := tV (v, m)) (by simp [results, Try.results78, go_sem]) rfl ⟨rfl, below_alloc (below_alloc (Below.refl _ _) _) _⟩

theorem fp_told (s : Sp) (w : World) (hs : sIn s) : Calls Try.prog 78 #[sV s] w (Gives (tV (rS s)) w) := by
  have e1 := ofInt_nat hs.1
  have e2 := ofInt_nat hs.2
  have h := fp_told_bv (BitVec.ofInt 64 s.1) (BitVec.ofInt 64 s.2) w
  have e3 : (.agg #[uV (BitVec.ofInt 64 s.1), uV (BitVec.ofInt 64 s.2)] : Value) = sV s := by
    show (.agg #[.int .u64 ((BitVec.ofInt 64 s.1).toNat : Int), .int .u64 ((BitVec.ofInt 64 s.2).toNat : Int)] : Value) = _
    rw [e1, e2]
  rw [e3] at h
  exact h

end Go.Proofs.Ytgjcbcpedoihaaa
