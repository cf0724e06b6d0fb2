/-
  Plain numbers: what is known of what narrow arithmetic makes is below 2^32; what If tells is of numbers. No program is named here.
-/
import Derived.Test.YtfepokiibdkoeaaAllA3
namespace Go.Proofs.Ytfepokiibdkoeaa
open Go Go.RowKit
set_option linter.unusedVariables false

theorem below_of_bits {x : BitVec 64} {k : Nat} (hk : k ≤ 64) (h : ∀ i, k ≤ i → i < 64 → x.getLsbD i = false) : x.toNat < 2 ^ k := by
  apply Nat.lt_pow_two_of_testBit
  intro i hi
  by_cases h64 : i < 64
  · have := h i hi h64
    rw [BitVec.getLsbD] at this
    exact this
  · apply Nat.testBit_lt_two_pow
    calc x.toNat < 2 ^ 64 := x.isLt
      _ ≤ 2 ^ i := Nat.pow_le_pow_right (by decide) (by omega)
theorem tLow_high (x : BitVec 64) {i : Nat} (h : 32 ≤ i) : (tLow x 32).getLsbD i = false := by
  show (tLow x 32).toNat.testBit i = false
  rw [tLow_nat x 32 (by decide)]
  apply Nat.testBit_lt_two_pow
  calc x.toNat % 2 ^ 32 < 2 ^ 32 := Nat.mod_lt _ (by decide)
    _ ≤ 2 ^ i := Nat.pow_le_pow_right (by decide) h
/-- What is cut is below 2^32: its Range, and its bits. -/
theorem fC_below (f : Fc) : (fC f).2.2 < 4294967296 ∧ ((fC f).1.1 ||| (fC f).1.2).toNat < 4294967296 := by
  unfold fC
  cases hr : fR f
  · rw [if_neg (by decide)]
    exact ⟨by decide, by decide⟩
  rw [if_pos rfl]
  unfold fSd
  cases hs : fS (tC f.1 32, fCs f.2) with
  | none => exact ⟨by decide, by decide⟩
  | some g =>
    show g.2.2 < 4294967296 ∧ (g.1.1 ||| g.1.2).toNat < 4294967296
    obtain ⟨h1, h2⟩ := fLe_iff.mp (fS_le hs)
    have h3 := sW_iff.mp h2
    have r1 : tR f.1 = true := (fRR_iff.mp (fR_iff.mp hr).1).1
    have e : tC f.1 32 = (tLow f.1.1 32, tLow f.1.2 32) := by
      unfold tC
      rw [r1, if_pos rfl, if_neg (by decide)]
      rfl
    refine ⟨?_, ?_⟩
    · have h4 : g.2.2 ≤ (fCs f.2).2 := h3.2.2
      have h5 : (fCs f.2).2 < 4294967296 := by
        unfold fCs
        split
        · decide
        · omega
      omega
    · have h6 := (tW_iff _ _).mp h1
      rw [e] at h6
      refine below_of_bits (k := 32) (by decide) fun i hi h64 => ?_
      obtain ⟨b1, b2⟩ := h6.2 i h64
      have b1' : (g.1.2.getLsbD i && !(tLow f.1.2 32).getLsbD i) = false := b1
      have b2' : (g.1.1.getLsbD i && !(tLow f.1.2 32).getLsbD i) = (tLow f.1.1 32).getLsbD i := b2
      rw [tLow_high _ hi] at b1' b2'
      rw [tLow_high _ hi] at b2'
      rw [BitVec.getLsbD_or]
      simp at b1' b2'
      rw [b1', b2']
      rfl
/-- What narrow arithmetic makes. -/
theorem fDo_below (op off : Int) (a b : Fc) : (fDo op false off a b).2.2 < 4294967296 ∧ ((fDo op false off a b).1.1 ||| (fDo op false off a b).1.2).toNat < 4294967296 := by
  unfold fDo
  split
  · rw [if_neg (by decide)]
    exact fC_below _
  · exact ⟨by decide, by decide⟩
/-- Of numbers that are known what arithmetic makes is known. -/
theorem fDo_of {op off : Int} {wide : Bool} (p q : BitVec 64) (he : aluE wide op off = 0) :
    fDo op wide off (fOf p) (fOf q) = fOf (BitVec.ofInt 64 (aluV wide op off (p.toNat : Int) (q.toNat : Int))) ∧ fDe op wide off (fOf p) (fOf q) = 0 := by
  obtain ⟨G, e⟩ := fDo_good (Good.of p) (Good.of q) he
  refine ⟨?_, e⟩
  have hk : ∀ n, fK (fOf n) = true := fun n => fK_iff.mpr ⟨fOf_fix n, rfl⟩
  have hv : ∀ n, fKv (fOf n) = n := fun n => by unfold fKv; rw [hk]; rfl
  have hc : aluE wide op off = 0 ∧ fR (fOf p) = true ∧ fR (fOf q) = true := ⟨he, fR_iff.mpr (fOf_fix p), fR_iff.mpr (fOf_fix q)⟩
  unfold fDo
  rw [if_pos hc]
  cases wide
  · rw [if_neg (by decide), fC_of, fC_of]
    unfold fW
    rw [hk, hk, hv, hv, Bool.and_self, if_pos rfl, fC_of]
    have hl := narrow_low op off (p.toNat : Int) (q.toNat : Int) ((tLow p 32).toNat : Int) ((tLow q 32).toNat : Int) (by have := low32 p; omega) (by have := low32 q; omega)
    show fOf (tLow (BitVec.ofInt 64 (aluV false op off _ _)) 32) = _
    rw [hl]
    congr 1
    symm
    apply ofInt_eq
    rw [low32]
    have h1 := aluV_ofInt false op off (p.toNat : Int) (q.toNat : Int)
    have h2 := aluV_mod false op off (p.toNat : Int) (q.toNat : Int)
    have h3 : aluV false op off (p.toNat : Int) (q.toNat : Int) % 4294967296 = aluV false op off (p.toNat : Int) (q.toNat : Int) := h2
    omega
  · rw [if_pos rfl]
    unfold fW
    rw [hk, hk, hv, hv, Bool.and_self, if_pos rfl]
    rfl

/-- What If tells has a Range of numbers. -/
theorem fIf_in {op : Int} {wide : Bool} {a b x y : Fc} {p q : BitVec 64} (ha : Good a p) (hb : Good b q) (h : fIf op wide a b = some (x, y)) : fIn x ∧ fIn y := by
  obtain ⟨r1, r2⟩ := fRR_iff.mp ha.fix.1
  obtain ⟨r3, r4⟩ := fRR_iff.mp hb.fix.1
  unfold fIf at h
  rw [fR_iff.mpr ha.fix, fR_iff.mpr hb.fix, Bool.and_self, if_pos rfl] at h
  by_cases hk : (fK a && fK b) = true
  · rw [if_pos hk] at h
    split at h
    · cases h
      exact ⟨ha.inn, hb.inn⟩
    · cases h
  rw [if_neg hk] at h
  by_cases hw : wide = false ∧ (4294967296 ≤ a.2.2 ∨ 4294967296 ≤ b.2.2)
  · rw [if_pos hw] at h
    cases h
    exact ⟨ha.inn, hb.inn⟩
  rw [if_neg hw] at h
  unfold fI at h
  cases b1 : fItok op a b
  · rw [b1] at h; cases h
  rw [b1, if_pos rfl] at h
  cases hx : fIx op a b with
  | none => rw [hx] at h; cases h
  | some x' =>
    cases hy : fIy op a b with
    | none => rw [hx, hy] at h; cases h
    | some y' =>
      rw [hx, hy] at h
      have e : (x', y') = (x, y) := Option.some.inj h
      cases e
      unfold fIx at hx
      unfold fIy at hy
      cases k1 : sIfok op a.2 b.2
      · rw [k1] at hx; cases hx
      rw [k1, if_pos rfl] at hx
      cases c1 : fIrok op a b
      · rw [c1] at hy; cases hy
      rw [c1, if_pos rfl] at hy
      have hr : sIn (fIr op a b) := by
        unfold fIr
        unfold fIrok at c1
        cases ht : turns op
        · exact hb.inn
        · rw [ht, if_pos rfl] at c1
          rw [if_pos rfl]
          exact sIf_in hb.inn r4 c1
      exact ⟨fS_in (f := (fIt1 op a b, sIf op a.2 b.2)) (sIf_in ha.inn r2 k1) hx, fS_in (f := (fIt2 op a b, fIr op a b)) hr hy⟩

end Go.Proofs.Ytfepokiibdkoeaa
