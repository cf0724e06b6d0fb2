/-
  Layer 9, the program's isWrong.
  Conditions: none.
-/
import Derived.Test.YtempkpfcjonaaaaTab2
namespace Go.Proofs.Ytempkpfcjonaaaa
open Go.RowKit
set_option maxRecDepth 100000
set_option linter.unusedVariables false
set_option linter.unusedSimpArgs false

def gK (d : Df) : Bool := d.key == 4 || (d.hash && decide (1 ≤ d.key) && decide (d.key ≤ 16))
def gV (d : Df) : Bool := decide (8 ≤ d.val) && decide (d.val ≤ 64) && (d.val % 8 == 0)
def gM (d : Df) : Bool := decide (1 ≤ d.max) && decide (d.max ≤ 16)
theorem good_is (d : Df) : d.good = (gK d && gV d && gM d) := by
  unfold Df.good gK gV gM
  cases d.hash
  · simp only [Bool.false_eq_true, if_false, Bool.false_and, Bool.or_false, Bool.and_assoc]
  · simp only [if_true, Bool.true_and, Bool.and_assoc]
    by_cases h : d.key = 4
    · rw [h]; rfl
    · have : (d.key == 4) = false := by simpa using h
      rw [this]; simp [Bool.and_assoc]

set_option maxHeartbeats 8000000 in
theorem q9_isWrong (d : Df) (w : World) : Calls Try.prog 33 #[.agg #[.bool d.hash, .int .i64 d.key, .int .i64 d.val, .int .i64 d.max]] w (Gives (.bool (!d.good)) w) := by
  obtain ⟨h, k, v, m⟩ := d
  have HG : Hid ((!(Df.good ⟨h, k, v, m⟩)) = !(gK ⟨h, k, v, m⟩ && gV ⟨h, k, v, m⟩ && gM ⟨h, k, v, m⟩)) := Lib.hid (by rw [good_is])
  have KC : ((k == 4) = true ∧ Hid (gK ⟨h, k, v, m⟩ = true)) ∨ ((k == 4) = false ∧ h = false ∧ Hid (gK ⟨h, k, v, m⟩ = false)) ∨ ((k == 4) = false ∧ h = true ∧ k < 1 ∧ Hid (gK ⟨h, k, v, m⟩ = false)) ∨ ((k == 4) = false ∧ h = true ∧ (1 ≤ k ∧ k ≤ 16) ∧ Hid (gK ⟨h, k, v, m⟩ = true)) ∨ ((k == 4) = false ∧ h = true ∧ (1 ≤ k ∧ 16 < k) ∧ Hid (gK ⟨h, k, v, m⟩ = false)) := by
    unfold gK
    cases h4 : (k == 4)
    · cases h
      · exact .inr (.inl ⟨rfl, rfl, Lib.hid (by simp [h4])⟩)
      · rcases int_lt_or k 1 with a | a
        · exact .inr (.inr (.inl ⟨rfl, rfl, a, Lib.hid (by simp [h4]; omega)⟩))
        · rcases int_lt_or 16 k with b | b
          · exact .inr (.inr (.inr (.inr ⟨rfl, rfl, ⟨a, b⟩, Lib.hid (by simp [h4]; omega)⟩)))
          · exact .inr (.inr (.inr (.inl ⟨rfl, rfl, ⟨a, b⟩, Lib.hid (by simp [h4]; omega)⟩)))
    · exact .inl ⟨rfl, Lib.hid (by simp [h4])⟩
  have htm : v.tmod 8 = 0 ∨ True := .inr trivial
  have VC : (v < 8 ∧ Hid (gV ⟨h, k, v, m⟩ = false)) ∨ ((8 ≤ v ∧ 64 < v) ∧ Hid (gV ⟨h, k, v, m⟩ = false)) ∨ ((8 ≤ v ∧ v ≤ 64) ∧ (v.tmod 8 = v % 8 ∧ (v % 8 == 0) = false) ∧ Hid (gV ⟨h, k, v, m⟩ = false)) ∨ ((8 ≤ v ∧ v ≤ 64) ∧ (v.tmod 8 = v % 8 ∧ (v % 8 == 0) = true) ∧ Hid (gV ⟨h, k, v, m⟩ = true)) := by
    unfold gV
    rcases int_lt_or v 8 with a | a
    · exact .inl ⟨a, Lib.hid (by simp; omega)⟩
    · rcases int_lt_or 64 v with b | b
      · exact .inr (.inl ⟨⟨a, b⟩, Lib.hid (by simp; omega)⟩)
      · have ht : v.tmod 8 = v % 8 := Int.tmod_eq_emod_of_nonneg (by omega)
        cases h8 : (v % 8 == 0)
        · exact .inr (.inr (.inl ⟨⟨a, b⟩, ⟨ht, rfl⟩, Lib.hid (by simp [h8])⟩))
        · exact .inr (.inr (.inr ⟨⟨a, b⟩, ⟨ht, rfl⟩, Lib.hid (by simp [h8]; omega)⟩))
  have MC : (m < 1 ∧ Hid (gM ⟨h, k, v, m⟩ = false)) ∨ ((1 ≤ m ∧ 16 < m) ∧ Hid (gM ⟨h, k, v, m⟩ = false)) ∨ ((1 ≤ m ∧ m ≤ 16) ∧ Hid (gM ⟨h, k, v, m⟩ = true)) := by
    unfold gM
    rcases int_lt_or m 1 with a | a
    · exact .inl ⟨a, Lib.hid (by simp; omega)⟩
    · rcases int_lt_or 16 m with b | b
      · exact .inr (.inl ⟨⟨a, b⟩, Lib.hid (by simp; omega)⟩)
      · exact .inr (.inr ⟨⟨a, b⟩, Lib.hid (by simp; omega)⟩)
  clear htm
  generalize (!(Df.good ⟨h, k, v, m⟩)) = ans at *
  generalize gK ⟨h, k, v, m⟩ = bk at *
  generalize gV ⟨h, k, v, m⟩ = bv at *
  generalize gM ⟨h, k, v, m⟩ = bm at *
  rcases KC with ⟨k1, K⟩ | ⟨k1, rfl, K⟩ | ⟨k1, rfl, k2, K⟩ | ⟨k1, rfl, ⟨k2, k3⟩, K⟩ | ⟨k1, rfl, ⟨k2, k3⟩, K⟩ <;>
  rcases VC with ⟨v1, V⟩ | ⟨⟨v1, v2⟩, V⟩ | ⟨⟨v1, v2⟩, ⟨v3, v4⟩, V⟩ | ⟨⟨v1, v2⟩, ⟨v3, v4⟩, V⟩ <;>
  rcases MC with ⟨m1, MM⟩ | ⟨⟨m1, m2⟩, MM⟩ | ⟨⟨m1, m2⟩, MM⟩ <;>
  (go_enter Try.func33, Try.ntmps33
   go_wp2_with fail
   go_ret
   exact ⟨end_bool (by rw [HG.out, K.out, V.out, MM.out]; first | rfl | (simp; omega)), below_alloc (Below.refl _ _) _⟩)

end Go.Proofs.Ytempkpfcjonaaaa
