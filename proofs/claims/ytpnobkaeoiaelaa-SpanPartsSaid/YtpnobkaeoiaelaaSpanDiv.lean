/-
  span.Do: division, remainder, common bits, and bits moved lower.
  Conditions: the numbers fit their kinds.
-/
import Derived.Test.YtpnobkaeoiaelaaSpanDo
import Derived.StillTailTactics
namespace Go.Proofs.Ytpnobkaeoiaelaa
open Go.RowKit
set_option linter.unusedVariables false

set_option maxHeartbeats 2000000 in
theorem sdo_div (a b : Sp) (w : World) (ha : sIn a) (hb : sIn b) (h : sRR a b = true) (hz : b.1 ≠ 0) :
    Calls Try.prog 23 #[.int .u8 48, sV a, sV b] w (Gives (sV (a.1 / b.2, a.2 / b.1)) w) := by
  have h1 := Lib.hid (sboth_says a b)
  rw [h] at h1
  obtain ⟨ra, rb⟩ := sRR_true h
  have hx := Lib.hid (STrio.new a b w)
  unfold sIn In64 at ha hb
  obtain ⟨⟨a1, a2⟩, a3, a4⟩ := ha
  obtain ⟨⟨b1, b2⟩, b3, b4⟩ := hb
  have z1 : (b.1 == 0) = false := eq_false' hz
  have z2 : (b.2 == 0) = false := eq_false' (by omega)
  have z3 : (b.1 != 0) = true := ne_true' hz
  have z4 : ¬ b.2 = 0 := by omega
  have v1 : IntKind.u64.wrap (a.1 / b.2) = a.1 / b.2 := by
    have h1 := Int.ediv_le_self b.2 a1
    have h2 := Int.ediv_nonneg a1 b3
    rw [IntKind.wrap_u64]; omega
  have v2 : IntKind.u64.wrap (a.2 / b.1) = a.2 / b.1 := by
    have h1 := Int.ediv_le_self b.1 a3
    have h2 := Int.ediv_nonneg a3 b1
    rw [IntKind.wrap_u64]; omega
  have d1 : a.1.tdiv b.2 = a.1 / b.2 := Int.tdiv_eq_ediv_of_nonneg a1
  have d2 : a.2.tdiv b.1 = a.2 / b.1 := Int.tdiv_eq_ediv_of_nonneg a3
  go_enter Try.func23, Try.ntmps23
  go_wp2_with fail
  refine (h1.out _).mono ?_; rintro e w1 ⟨rfl, b1⟩
  have x1 := hx.out.after b1
  obtain ⟨p0, p1⟩ := x1.1.2.1.cells
  obtain ⟨q0, q1⟩ := x1.1.2.2.cells
  obtain ⟨c0, c1⟩ := x1.2.cells
  obtain ⟨f0, f1⟩ := x1.2.free
  have X1 := Lib.hid x1
  clear x1 hx b1
  go_wp2_with fail
  go_still_tail 11, (by kernel_rfl)
  change wpList _ _ _ _ _ w1.drew
  have X2 := Lib.hid (X1.out.after (Below.drew (Below.refl _ _)))
  clear X1 p0 p1 q0 q1 f0 f1 c0 c1
  generalize w1.drew = w2 at *
  obtain ⟨c0, c1⟩ := X2.out.2.cells
  obtain ⟨f0, f1⟩ := X2.out.2.free
  generalize a.1 / b.2 = q at *
  generalize a.2 / b.1 = r at *
  have X3 := Lib.hid (X2.out.set (q, r))
  go_wp2_with fail
  exact bodyPost_ret (v := sV (q, r)) (by simp [results, Try.results23, go_sem, c0, c1]) rfl ⟨rfl, X3.out.1.1⟩

set_option maxHeartbeats 2000000 in
theorem sdo_mod (a b : Sp) (w : World) (ha : sIn a) (hb : sIn b) (h : sRR a b = true) (hz : b.1 ≠ 0) :
    Calls Try.prog 23 #[.int .u8 144, sV a, sV b] w (Gives (sV (0, min a.2 (b.2 - 1))) w) := by
  have h1 := Lib.hid (sboth_says a b)
  rw [h] at h1
  obtain ⟨ra, rb⟩ := sRR_true h
  have hx := Lib.hid (STrio.new a b w)
  unfold sIn In64 at ha hb
  obtain ⟨⟨a1, a2⟩, a3, a4⟩ := ha
  obtain ⟨⟨b1, b2⟩, b3, b4⟩ := hb
  have z3 : (b.1 != 0) = true := ne_true' hz
  have k1 : 0 ≤ b.2 - 1 := by omega
  have k2 : b.2 - 1 ≤ 18446744073709551615 := by omega
  have e2 : min a.2 (b.2 - 1) = if b.2 - 1 < a.2 then b.2 - 1 else a.2 := by split <;> omega
  rw [e2]
  clear e2
  rcases int_lt_or (b.2 - 1) a.2 with k3 | k3
  all_goals
    first | rw [if_pos k3] | rw [if_neg (by omega)]
    go_enter Try.func23, Try.ntmps23
    go_wp2_with fail
    refine (h1.out _).mono ?_; rintro e w1 ⟨rfl, b1⟩
    have x1 := hx.out.after b1
    obtain ⟨p0, p1⟩ := x1.1.2.1.cells
    obtain ⟨q0, q1⟩ := x1.1.2.2.cells
    obtain ⟨c0, c1⟩ := x1.2.cells
    obtain ⟨f0, f1⟩ := x1.2.free
    have X1 := Lib.hid x1
    clear x1 hx b1
    go_wp2_with fail
    first
      | exact bodyPost_ret (v := sV (0, b.2 - 1)) (by simp [results, Try.results23, go_sem, c0, c1]) rfl ⟨rfl, (X1.out.set (0, b.2 - 1)).1.1⟩
      | exact bodyPost_ret (v := sV (0, a.2)) (by simp [results, Try.results23, go_sem, c0, c1]) rfl ⟨rfl, (X1.out.set (0, a.2)).1.1⟩

set_option maxHeartbeats 2000000 in
theorem sdo_and (a b : Sp) (w : World) (h : sRR a b = true) :
    Calls Try.prog 23 #[.int .u8 80, sV a, sV b] w (Gives (sV (0, min a.2 b.2)) w) := by
  have h1 := Lib.hid (sboth_says a b)
  rw [h] at h1
  have hx := Lib.hid (STrio.new a b w)
  have e2 : min a.2 b.2 = if b.2 < a.2 then b.2 else a.2 := by split <;> omega
  rw [e2]
  clear e2
  rcases int_lt_or b.2 a.2 with k3 | k3
  all_goals
    first | rw [if_pos k3] | rw [if_neg (by omega)]
    go_enter Try.func23, Try.ntmps23
    go_wp2_with fail
    refine (h1.out _).mono ?_; rintro e w1 ⟨rfl, b1⟩
    have x1 := hx.out.after b1
    obtain ⟨p0, p1⟩ := x1.1.2.1.cells
    obtain ⟨q0, q1⟩ := x1.1.2.2.cells
    obtain ⟨c0, c1⟩ := x1.2.cells
    obtain ⟨f0, f1⟩ := x1.2.free
    have X1 := Lib.hid x1
    clear x1 hx b1
    go_wp2_with fail
    first
      | exact bodyPost_ret (v := sV (0, b.2)) (by simp [results, Try.results23, go_sem, c0, c1]) rfl ⟨rfl, (X1.out.set (0, b.2)).1.1⟩
      | exact bodyPost_ret (v := sV (0, a.2)) (by simp [results, Try.results23, go_sem, c0, c1]) rfl ⟨rfl, (X1.out.set (0, a.2)).1.1⟩

set_option maxHeartbeats 2000000 in
theorem sdo_rsh (a b : Sp) (w : World) (ha : sIn a) (hb : sIn b) (h : sRR a b = true) (hz : b.2 < 64) :
    Calls Try.prog 23 #[.int .u8 112, sV a, sV b] w (Gives (sV (a.1 / 2 ^ b.2.toNat, a.2 / 2 ^ b.1.toNat)) w) := by
  have h1 := Lib.hid (sboth_says a b)
  rw [h] at h1
  obtain ⟨ra, rb⟩ := sRR_true h
  have hx := Lib.hid (STrio.new a b w)
  unfold sIn In64 at ha hb
  obtain ⟨⟨a1, a2⟩, a3, a4⟩ := ha
  obtain ⟨⟨b1, b2⟩, b3, b4⟩ := hb
  go_enter Try.func23, Try.ntmps23
  go_wp2_with fail
  refine (h1.out _).mono ?_; rintro e w1 ⟨rfl, b1⟩
  have x1 := hx.out.after b1
  obtain ⟨p0, p1⟩ := x1.1.2.1.cells
  obtain ⟨q0, q1⟩ := x1.1.2.2.cells
  obtain ⟨c0, c1⟩ := x1.2.cells
  obtain ⟨f0, f1⟩ := x1.2.free
  have X1 := Lib.hid x1
  clear x1 hx b1
  go_wp2_with fail
  exact bodyPost_ret (v := sV (a.1 / 2 ^ b.2.toNat, a.2 / 2 ^ b.1.toNat)) (by simp [results, Try.results23, go_sem, c0, c1]) rfl ⟨rfl, (X1.out.set (a.1 / 2 ^ b.2.toNat, a.2 / 2 ^ b.1.toNat)).1.1⟩

end Go.Proofs.Ytpnobkaeoiaelaa
