/-
  Plain rows: what was encoded is decoded, and the other way about; how many begin; another number of an instruction. No program is named here.
-/
import Derived.Test.YtplndcjmbgkcjaaCodeRun
namespace Go.Proofs.Ytplndcjmbgkcjaa
open Go Go.RowKit
set_option linter.unusedVariables false
set_option linter.unusedSimpArgs false

theorem ins_ext {l m : List Ins} (h : l.length = m.length) (ha : ∀ k, k < l.length → iAt l k = iAt m k) : l = m := by
  apply List.ext_getElem h
  intro k h1 h2
  have := ha k h1
  unfold iAt at this
  rw [List.getD_eq_getElem?_getD, List.getD_eq_getElem?_getD, List.getElem?_eq_getElem h1, List.getElem?_eq_getElem h2] at this
  exact this
theorem byt_ext {l m : List Int} (h : l.length = m.length) (ha : ∀ k, k < l.length → bAt l k = bAt m k) : l = m := by
  apply List.ext_getElem h
  intro k h1 h2
  have := ha k h1
  unfold bAt at this
  rw [List.getD_eq_getElem?_getD, List.getD_eq_getElem?_getD, List.getElem?_eq_getElem h1, List.getElem?_eq_getElem h2] at this
  exact this
theorem dec_enc {l : List Ins} (hx : ∀ k, k < l.length → (iAt l k).ok) (hr : ∀ k, k < l.length → (iAt l k).dst ≤ 15 ∧ (iAt l k).src ≤ 15) : decL (encL l) = l := by
  have hl : (decL (encL l)).length = l.length := by rw [decL_len, encL_len]; omega
  apply ins_ext hl
  intro k hk
  rw [hl] at hk
  rw [decL_at _ (by rw [encL_len]; omega)]
  have e : ∀ r, r < 8 → bAt (encL l) (k * 8 + r) = bAt (encI (iAt l k)) r := fun r hr => encL_at l k r hk hr
  unfold decI
  rw [show k * 8 = k * 8 + 0 from rfl, e 0 (by omega), show k * 8 + 0 + 1 = k * 8 + 1 from rfl, e 1 (by omega), show k * 8 + 0 + 2 = k * 8 + 2 from rfl, e 2 (by omega), show k * 8 + 0 + 3 = k * 8 + 3 from rfl, e 3 (by omega), show k * 8 + 0 + 4 = k * 8 + 4 from rfl, e 4 (by omega),
    show k * 8 + 0 + 5 = k * 8 + 5 from rfl, e 5 (by omega), show k * 8 + 0 + 6 = k * 8 + 6 from rfl, e 6 (by omega), show k * 8 + 0 + 7 = k * 8 + 7 from rfl, e 7 (by omega)]
  obtain ⟨h0, h1, h2, h3, h4⟩ := hx k hk
  obtain ⟨r1, r2⟩ := hr k hk
  generalize iAt l k = x at *
  obtain ⟨op, dst, src, off, imm⟩ := x
  simp only at *
  show Ins.mk op ((dst + 16 * src) % 16) ((dst + 16 * src) / 16) (IntKind.i16.wrap (off % 256 + 256 * (off / 256 % 256))) (wrap32 (imm % 256 + 256 * (imm / 256 % 256) + 65536 * (imm / 65536 % 256) + 16777216 * (imm / 16777216 % 256))) = _
  rw [i16_bytes off h3.1 h3.2, i32_bytes imm h4.1 h4.2, show (dst + 16 * src) % 16 = dst by omega, show (dst + 16 * src) / 16 = src by omega]
theorem enc_dec {b : List Int} (hb : OkB b) (h8 : b.length % 8 = 0) : encL (decL b) = b := by
  have hl : (encL (decL b)).length = b.length := by rw [encL_len, decL_len]; omega
  apply byt_ext hl
  intro j hj
  rw [hl] at hj
  have e1 : j = (j / 8) * 8 + j % 8 := by omega
  have hk : j / 8 < b.length / 8 := by omega
  have e := encL_at (decL b) (j / 8) (j % 8) (by rw [decL_len]; exact hk) (by omega)
  rw [← e1] at e
  rw [e, decL_at b hk]
  have l : ∀ r, r < 8 → 0 ≤ bAt b (j / 8 * 8 + r) ∧ bAt b (j / 8 * 8 + r) ≤ 255 := fun r hr => hb _ (by omega)
  have l0 := l 0 (by omega)
  have l1 := l 1 (by omega)
  have l2 := l 2 (by omega)
  have l3 := l 3 (by omega)
  have l4 := l 4 (by omega)
  have l5 := l 5 (by omega)
  have l6 := l 6 (by omega)
  have l7 := l 7 (by omega)
  have e2 : bAt b j = bAt b (j / 8 * 8 + j % 8) := by rw [← e1]
  rw [e2]
  generalize j / 8 = k at *
  have hr : j % 8 = 0 ∨ j % 8 = 1 ∨ j % 8 = 2 ∨ j % 8 = 3 ∨ j % 8 = 4 ∨ j % 8 = 5 ∨ j % 8 = 6 ∨ j % 8 = 7 := by omega
  rcases hr with hr | hr | hr | hr | hr | hr | hr | hr <;> rw [hr]
  · rfl
  · show bAt b (k * 8 + 1) % 16 + 16 * (bAt b (k * 8 + 1) / 16) = _
    omega
  · show IntKind.i16.wrap (bAt b (k * 8 + 2) + 256 * bAt b (k * 8 + 3)) % 256 = _
    rw [i16_low]; omega
  · show IntKind.i16.wrap (bAt b (k * 8 + 2) + 256 * bAt b (k * 8 + 3)) / 256 % 256 = _
    rw [i16_high]; omega
  · show wrap32 (bAt b (k * 8 + 4) + 256 * bAt b (k * 8 + 5) + 65536 * bAt b (k * 8 + 6) + 16777216 * bAt b (k * 8 + 7)) % 256 = _
    rw [i32_b0]; omega
  · show wrap32 (bAt b (k * 8 + 4) + 256 * bAt b (k * 8 + 5) + 65536 * bAt b (k * 8 + 6) + 16777216 * bAt b (k * 8 + 7)) / 256 % 256 = _
    rw [i32_b1]; omega
  · show wrap32 (bAt b (k * 8 + 4) + 256 * bAt b (k * 8 + 5) + 65536 * bAt b (k * 8 + 6) + 16777216 * bAt b (k * 8 + 7)) / 65536 % 256 = _
    rw [i32_b2]; omega
  · show wrap32 (bAt b (k * 8 + 4) + 256 * bAt b (k * 8 + 5) + 65536 * bAt b (k * 8 + 6) + 16777216 * bAt b (k * 8 + 7)) / 16777216 % 256 = _
    rw [i32_b3]; omega
/-- What was encoded is decoded. -/
theorem decR_enc {l : List Ins} (hx : ∀ k, k < l.length → (iAt l k).ok) (h : (chk l).2 = 0) : decR (encL l) = (l, 0, 0) := by
  have hd := dec_enc hx (chk_regs h)
  obtain ⟨hf, _⟩ := chk_ok h
  unfold decR
  have e8 : (encL l).length / 8 = l.length := by rw [encL_len]; omega
  rw [hd, h, e8, if_neg (by rw [hf, encL_len]; simp), if_pos rfl]
/-- What was decoded is encoded. -/
theorem decR_ok {b : List Int} (hb : OkB b) (h : (decR b).2.2 = 0) : (decR b).1 = decL b ∧ (decR b).2.1 = 0 ∧ b.length % 8 = 0 ∧ (chk (decL b)).2 = 0 ∧ encR (decL b) = (b, 0, 0) := by
  unfold decR at h ⊢
  by_cases hn : b.length % 8 ≠ 0 ∨ fitsB (b.length / 8 : Nat) = false
  · rw [if_pos hn] at h; cases h
  · rw [if_neg hn] at h ⊢
    have h8 : b.length % 8 = 0 := by omega
    by_cases hc : (chk (decL b)).2 = 0
    · rw [if_pos hc]
      refine ⟨rfl, rfl, h8, hc, ?_⟩
      unfold encR
      rw [if_pos hc, enc_dec hb h8]
    · rw [if_neg hc] at h
      exact absurd h hc
theorem decR_no {b : List Int} (h : ¬ (decR b).2.2 = 0) : (decR b).1 = [] := by
  unfold decR at h ⊢
  split
  · rfl
  · rename_i hn
    rw [if_neg hn] at h
    split
    · rename_i hc
      rw [if_pos hc] at h
      exact absurd rfl h
    · rfl
theorem encL_ok {l : List Ins} (hx : ∀ k, k < l.length → (iAt l k).ok) (hr : ∀ k, k < l.length → (iAt l k).dst ≤ 15 ∧ (iAt l k).src ≤ 15) : OkB (encL l) := by
  intro j hj
  rw [encL_len] at hj
  have e := encL_at l (j / 8) (j % 8) (by omega) (by omega)
  rw [show j / 8 * 8 + j % 8 = j by omega] at e
  rw [e]
  obtain ⟨h0, h1, h2, h3, h4⟩ := hx (j / 8) (by omega)
  obtain ⟨r1, r2⟩ := hr (j / 8) (by omega)
  generalize iAt l (j / 8) = x at *
  have hr : j % 8 = 0 ∨ j % 8 = 1 ∨ j % 8 = 2 ∨ j % 8 = 3 ∨ j % 8 = 4 ∨ j % 8 = 5 ∨ j % 8 = 6 ∨ j % 8 = 7 := by omega
  rcases hr with hr | hr | hr | hr | hr | hr | hr | hr <;> rw [hr]
  · exact h0
  · show 0 ≤ x.dst + 16 * x.src ∧ x.dst + 16 * x.src ≤ 255; omega
  · show 0 ≤ x.off % 256 ∧ x.off % 256 ≤ 255; omega
  · show 0 ≤ x.off / 256 % 256 ∧ x.off / 256 % 256 ≤ 255; omega
  · show 0 ≤ x.imm % 256 ∧ x.imm % 256 ≤ 255; omega
  · show 0 ≤ x.imm / 256 % 256 ∧ x.imm / 256 % 256 ≤ 255; omega
  · show 0 ≤ x.imm / 65536 % 256 ∧ x.imm / 65536 % 256 ≤ 255; omega
  · show 0 ≤ x.imm / 16777216 % 256 ∧ x.imm / 16777216 % 256 ≤ 255; omega

end Go.Proofs.Ytplndcjmbgkcjaa
