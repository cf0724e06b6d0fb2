/-
  The document's own Do of layer 6.
  Conditions: those that each theorem states.
-/
import Derived.Test.YtfepokiibdkoeaaAllB1
import Derived.StillTailTactics
import Derived.Deep.RegionWith
import Derived.Deep.RegionHeld3

/-
  The document's own Do of layer 5.
  Conditions: the numbers fit their kinds.
-/
namespace Go.Proofs.Ytfepokiibdkoeaa
open Go.RowKit
set_option linter.unusedVariables false

theorem rneb_t {a b : Int} (h : ¬ a = b) : (a != b) = true := bne_iff_ne.mpr h
theorem reqb_f {a b : Int} (h : ¬ a = b) : (a == b) = false := beq_eq_false_iff_ne.mpr h

theorem rfits_says (x y : Int) (w : World) (hx : In64 x) (hy : In64 y) : Calls Try.prog 112 #[.int .u64 x, .int .u64 y] w fun e w' => e = .returned (.bool (decide (x * y ≤ 18446744073709551615))) ∧ w = w' := by
  unfold In64 at hx hy
  by_cases h0 : x = 0
  · subst h0
    have e : decide ((0 : Int) * y ≤ 18446744073709551615) = true := by rw [Int.zero_mul]; rfl
    rw [e]
    go_enter Try.func112, Try.ntmps112
    go_wp2_with fail
    go_ret
    exact ⟨rfl, rfl⟩
  · have h1 := reqb_f h0
    have hp : 0 < x := by omega
    have e : decide (x * y ≤ 18446744073709551615) = decide (y ≤ 18446744073709551615 / x) := by
      apply decide_eq_decide.mpr
      rw [Int.le_ediv_iff_mul_le hp, Int.mul_comm]
    have d1 : (18446744073709551615 : Int).tdiv x = 18446744073709551615 / x := Int.tdiv_eq_ediv_of_nonneg (by decide)
    have q0 := Int.ediv_nonneg (a := 18446744073709551615) (b := x) (by decide) (by omega)
    have q1 := Int.ediv_le_self x (a := 18446744073709551615) (by decide)
    have d2 : IntKind.u64.wrap (18446744073709551615 / x) = 18446744073709551615 / x := by rw [IntKind.wrap_u64]; omega
    rw [e]
    clear e
    generalize (18446744073709551615 : Int) / x = q at *
    go_enter Try.func112, Try.ntmps112
    go_wp2_with fail
    go_ret
    exact ⟨rfl, rfl⟩

set_option maxHeartbeats 2000000 in
theorem rsdo_add (a b : Sp) (w : World) (ha : sIn a) (hb : sIn b) (h : sRR a b = true) (hz : a.2 ≤ 18446744073709551615 - b.2) :
    Calls Try.prog 96 #[.int .u8 0, sV a, sV b] w (Gives (sV (a.1 + b.1, a.2 + b.2)) w) := by
  have h1 := Lib.hid (rs_both a b)
  rw [h] at h1
  obtain ⟨ra, rb⟩ := sRR_true h
  have hx := Lib.hid (STrio.new a b w)
  unfold sIn In64 at ha hb
  obtain ⟨⟨a1, a2⟩, a3, a4⟩ := ha
  obtain ⟨⟨b1, b2⟩, b3, b4⟩ := hb
  have k1 : 0 ≤ 18446744073709551615 - b.2 := by omega
  have k2 : 18446744073709551615 - b.2 ≤ 18446744073709551615 := by omega
  have k3 : 0 ≤ a.1 + b.1 := by omega
  have k4 : a.1 + b.1 ≤ 18446744073709551615 := by omega
  have k5 : 0 ≤ a.2 + b.2 := by omega
  have k6 : a.2 + b.2 ≤ 18446744073709551615 := by omega
  go_enter Try.func96, Try.ntmps96
  go_wp2_with fail
  refine (h1.out _).mono ?_; rintro e w1 ⟨rfl, b1⟩
  have x1 := hx.out.after b1
  obtain ⟨p0, p1⟩ := x1.1.2.1.cells
  obtain ⟨q0, q1⟩ := x1.1.2.2.cells
  obtain ⟨c0, c1⟩ := x1.2.cells
  obtain ⟨f0, f1⟩ := x1.2.free
  have X1 := Lib.hid x1
  clear x1 hx b1
  go_wp2_with fail
  exact bodyPost_ret (v := sV (a.1 + b.1, a.2 + b.2)) (by simp [results, Try.results96, go_sem, c0, c1]) rfl ⟨rfl, (X1.out.set (a.1 + b.1, a.2 + b.2)).1.1⟩

set_option maxHeartbeats 2000000 in
theorem rsdo_add_no (a b : Sp) (w : World) (ha : sIn a) (hb : sIn b) (h : sRR a b = true) (hz : 18446744073709551615 - b.2 < a.2) :
    Calls Try.prog 96 #[.int .u8 0, sV a, sV b] w (Gives (sV sAll) w) := by
  have h1 := Lib.hid (rs_both a b)
  rw [h] at h1
  obtain ⟨ra, rb⟩ := sRR_true h
  have hx := Lib.hid (STrio.new a b w)
  unfold sIn In64 at ha hb
  obtain ⟨⟨a1, a2⟩, a3, a4⟩ := ha
  obtain ⟨⟨b1, b2⟩, b3, b4⟩ := hb
  have k1 : 0 ≤ 18446744073709551615 - b.2 := by omega
  have k2 : 18446744073709551615 - b.2 ≤ 18446744073709551615 := by omega
  have A := Lib.hid rs_all
  generalize sAll = t at *
  go_enter Try.func96, Try.ntmps96
  go_wp2_with fail
  refine (h1.out _).mono ?_; rintro e w1 ⟨rfl, b1⟩
  have x1 := hx.out.after b1
  obtain ⟨p0, p1⟩ := x1.1.2.1.cells
  obtain ⟨q0, q1⟩ := x1.1.2.2.cells
  obtain ⟨c0, c1⟩ := x1.2.cells
  obtain ⟨f0, f1⟩ := x1.2.free
  have X1 := Lib.hid x1
  clear x1 hx b1
  go_wp2_with fail
  refine (A.out _).mono ?_; rintro e w2 ⟨rfl, b2⟩
  have x2 := X1.out.after b2
  clear c0 c1 f0 f1
  obtain ⟨c0, c1⟩ := x2.2.cells
  obtain ⟨f0, f1⟩ := x2.2.free
  have X2 := Lib.hid (x2.set t)
  clear x2 X1 b2 p0 p1 q0 q1
  go_wp2_with fail
  exact bodyPost_ret (v := sV t) (by simp [results, Try.results96, go_sem, c0, c1]) rfl ⟨rfl, X2.out.1.1⟩

set_option maxHeartbeats 2000000 in
theorem rsdo_sub (a b : Sp) (w : World) (ha : sIn a) (hb : sIn b) (h : sRR a b = true) (hz : b.2 ≤ a.1) :
    Calls Try.prog 96 #[.int .u8 16, sV a, sV b] w (Gives (sV (a.1 - b.2, a.2 - b.1)) w) := by
  have h1 := Lib.hid (rs_both a b)
  rw [h] at h1
  obtain ⟨ra, rb⟩ := sRR_true h
  have hx := Lib.hid (STrio.new a b w)
  unfold sIn In64 at ha hb
  obtain ⟨⟨a1, a2⟩, a3, a4⟩ := ha
  obtain ⟨⟨b1, b2⟩, b3, b4⟩ := hb
  have k3 : 0 ≤ a.1 - b.2 := by omega
  have k4 : a.1 - b.2 ≤ 18446744073709551615 := by omega
  have k5 : 0 ≤ a.2 - b.1 := by omega
  have k6 : a.2 - b.1 ≤ 18446744073709551615 := by omega
  go_enter Try.func96, Try.ntmps96
  go_wp2_with fail
  refine (h1.out _).mono ?_; rintro e w1 ⟨rfl, b1⟩
  have x1 := hx.out.after b1
  obtain ⟨p0, p1⟩ := x1.1.2.1.cells
  obtain ⟨q0, q1⟩ := x1.1.2.2.cells
  obtain ⟨c0, c1⟩ := x1.2.cells
  obtain ⟨f0, f1⟩ := x1.2.free
  have X1 := Lib.hid x1
  clear x1 hx b1
  go_wp2_with fail
  exact bodyPost_ret (v := sV (a.1 - b.2, a.2 - b.1)) (by simp [results, Try.results96, go_sem, c0, c1]) rfl ⟨rfl, (X1.out.set (a.1 - b.2, a.2 - b.1)).1.1⟩

set_option maxHeartbeats 2000000 in
theorem rsdo_sub_no (a b : Sp) (w : World) (ha : sIn a) (hb : sIn b) (h : sRR a b = true) (hz : a.1 < b.2) :
    Calls Try.prog 96 #[.int .u8 16, sV a, sV b] w (Gives (sV sAll) w) := by
  have h1 := Lib.hid (rs_both a b)
  rw [h] at h1
  obtain ⟨ra, rb⟩ := sRR_true h
  have hx := Lib.hid (STrio.new a b w)
  unfold sIn In64 at ha hb
  obtain ⟨⟨a1, a2⟩, a3, a4⟩ := ha
  obtain ⟨⟨b1, b2⟩, b3, b4⟩ := hb
  have A := Lib.hid rs_all
  generalize sAll = t at *
  go_enter Try.func96, Try.ntmps96
  go_wp2_with fail
  refine (h1.out _).mono ?_; rintro e w1 ⟨rfl, b1⟩
  have x1 := hx.out.after b1
  obtain ⟨p0, p1⟩ := x1.1.2.1.cells
  obtain ⟨q0, q1⟩ := x1.1.2.2.cells
  obtain ⟨c0, c1⟩ := x1.2.cells
  obtain ⟨f0, f1⟩ := x1.2.free
  have X1 := Lib.hid x1
  clear x1 hx b1
  go_wp2_with fail
  refine (A.out _).mono ?_; rintro e w2 ⟨rfl, b2⟩
  have x2 := X1.out.after b2
  clear c0 c1 f0 f1
  obtain ⟨c0, c1⟩ := x2.2.cells
  obtain ⟨f0, f1⟩ := x2.2.free
  have X2 := Lib.hid (x2.set t)
  clear x2 X1 b2 p0 p1 q0 q1
  go_wp2_with fail
  exact bodyPost_ret (v := sV t) (by simp [results, Try.results96, go_sem, c0, c1]) rfl ⟨rfl, X2.out.1.1⟩

set_option maxHeartbeats 2000000 in
theorem rsdo_div0 (a b : Sp) (w : World) (ha : sIn a) (hb : sIn b) (h : sRR a b = true) (hz : b.1 = 0) :
    Calls Try.prog 96 #[.int .u8 48, sV a, sV b] w (Gives (sV sAll) w) := by
  have h1 := Lib.hid (rs_both a b)
  rw [h] at h1
  obtain ⟨ra, rb⟩ := sRR_true h
  have hx := Lib.hid (STrio.new a b w)
  unfold sIn In64 at ha hb
  obtain ⟨⟨a1, a2⟩, a3, a4⟩ := ha
  obtain ⟨⟨b1, b2⟩, b3, b4⟩ := hb
  have z1 : decide (0 < b.1) = false := decide_eq_false (by omega)
  clear hz
  have A := Lib.hid rs_all
  generalize sAll = t at *
  go_enter Try.func96, Try.ntmps96
  go_wp2_with fail
  refine (h1.out _).mono ?_; rintro e w1 ⟨rfl, b1⟩
  have x1 := hx.out.after b1
  obtain ⟨p0, p1⟩ := x1.1.2.1.cells
  obtain ⟨q0, q1⟩ := x1.1.2.2.cells
  obtain ⟨c0, c1⟩ := x1.2.cells
  obtain ⟨f0, f1⟩ := x1.2.free
  have X1 := Lib.hid x1
  clear x1 hx b1
  go_wp2_with fail
  refine (A.out _).mono ?_; rintro e w2 ⟨rfl, b2⟩
  have x2 := X1.out.after b2
  clear c0 c1 f0 f1
  obtain ⟨c0, c1⟩ := x2.2.cells
  obtain ⟨f0, f1⟩ := x2.2.free
  have X2 := Lib.hid (x2.set t)
  clear x2 X1 b2 p0 p1 q0 q1
  go_wp2_with fail
  exact bodyPost_ret (v := sV t) (by simp [results, Try.results96, go_sem, c0, c1]) rfl ⟨rfl, X2.out.1.1⟩

set_option maxHeartbeats 2000000 in
theorem rsdo_mod0 (a b : Sp) (w : World) (ha : sIn a) (hb : sIn b) (h : sRR a b = true) (hz : b.1 = 0) :
    Calls Try.prog 96 #[.int .u8 144, sV a, sV b] w (Gives (sV sAll) w) := by
  have h1 := Lib.hid (rs_both a b)
  rw [h] at h1
  obtain ⟨ra, rb⟩ := sRR_true h
  have hx := Lib.hid (STrio.new a b w)
  unfold sIn In64 at ha hb
  obtain ⟨⟨a1, a2⟩, a3, a4⟩ := ha
  obtain ⟨⟨b1, b2⟩, b3, b4⟩ := hb
  have z1 : decide (0 < b.1) = false := decide_eq_false (by omega)
  clear hz
  have A := Lib.hid rs_all
  generalize sAll = t at *
  go_enter Try.func96, Try.ntmps96
  go_wp2_with fail
  refine (h1.out _).mono ?_; rintro e w1 ⟨rfl, b1⟩
  have x1 := hx.out.after b1
  obtain ⟨p0, p1⟩ := x1.1.2.1.cells
  obtain ⟨q0, q1⟩ := x1.1.2.2.cells
  obtain ⟨c0, c1⟩ := x1.2.cells
  obtain ⟨f0, f1⟩ := x1.2.free
  have X1 := Lib.hid x1
  clear x1 hx b1
  go_wp2_with fail
  refine (A.out _).mono ?_; rintro e w2 ⟨rfl, b2⟩
  have x2 := X1.out.after b2
  clear c0 c1 f0 f1
  obtain ⟨c0, c1⟩ := x2.2.cells
  obtain ⟨f0, f1⟩ := x2.2.free
  have X2 := Lib.hid (x2.set t)
  clear x2 X1 b2 p0 p1 q0 q1
  go_wp2_with fail
  exact bodyPost_ret (v := sV t) (by simp [results, Try.results96, go_sem, c0, c1]) rfl ⟨rfl, X2.out.1.1⟩

set_option maxHeartbeats 2000000 in
theorem rsdo_rsh64 (a b : Sp) (w : World) (ha : sIn a) (hb : sIn b) (h : sRR a b = true) (hz : 64 ≤ b.2) :
    Calls Try.prog 96 #[.int .u8 112, sV a, sV b] w (Gives (sV sAll) w) := by
  have h1 := Lib.hid (rs_both a b)
  rw [h] at h1
  obtain ⟨ra, rb⟩ := sRR_true h
  have hx := Lib.hid (STrio.new a b w)
  unfold sIn In64 at ha hb
  obtain ⟨⟨a1, a2⟩, a3, a4⟩ := ha
  obtain ⟨⟨b1, b2⟩, b3, b4⟩ := hb
  have A := Lib.hid rs_all
  generalize sAll = t at *
  go_enter Try.func96, Try.ntmps96
  go_wp2_with fail
  refine (h1.out _).mono ?_; rintro e w1 ⟨rfl, b1⟩
  have x1 := hx.out.after b1
  obtain ⟨p0, p1⟩ := x1.1.2.1.cells
  obtain ⟨q0, q1⟩ := x1.1.2.2.cells
  obtain ⟨c0, c1⟩ := x1.2.cells
  obtain ⟨f0, f1⟩ := x1.2.free
  have X1 := Lib.hid x1
  clear x1 hx b1
  go_wp2_with fail
  refine (A.out _).mono ?_; rintro e w2 ⟨rfl, b2⟩
  have x2 := X1.out.after b2
  clear c0 c1 f0 f1
  obtain ⟨c0, c1⟩ := x2.2.cells
  obtain ⟨f0, f1⟩ := x2.2.free
  have X2 := Lib.hid (x2.set t)
  clear x2 X1 b2 p0 p1 q0 q1
  go_wp2_with fail
  exact bodyPost_ret (v := sV t) (by simp [results, Try.results96, go_sem, c0, c1]) rfl ⟨rfl, X2.out.1.1⟩

set_option maxHeartbeats 2000000 in
theorem rsdo_rsh (a b : Sp) (w : World) (ha : sIn a) (hb : sIn b) (h : sRR a b = true) (hz : b.2 < 64) :
    Calls Try.prog 96 #[.int .u8 112, sV a, sV b] w (Gives (sV (a.1 / 2 ^ b.2.toNat, a.2 / 2 ^ b.1.toNat)) w) := by
  have h1 := Lib.hid (rs_both a b)
  rw [h] at h1
  obtain ⟨ra, rb⟩ := sRR_true h
  have hx := Lib.hid (STrio.new a b w)
  unfold sIn In64 at ha hb
  obtain ⟨⟨a1, a2⟩, a3, a4⟩ := ha
  obtain ⟨⟨b1, b2⟩, b3, b4⟩ := hb
  go_enter Try.func96, Try.ntmps96
  go_wp2_with fail
  refine (h1.out _).mono ?_; rintro e w1 ⟨rfl, b1⟩
  have x1 := hx.out.after b1
  obtain ⟨p0, p1⟩ := x1.1.2.1.cells
  obtain ⟨q0, q1⟩ := x1.1.2.2.cells
  obtain ⟨c0, c1⟩ := x1.2.cells
  obtain ⟨f0, f1⟩ := x1.2.free
  have X1 := Lib.hid x1
  clear x1 hx b1
  go_wp2_with fail
  exact bodyPost_ret (v := sV (a.1 / 2 ^ b.2.toNat, a.2 / 2 ^ b.1.toNat)) (by simp [results, Try.results96, go_sem, c0, c1]) rfl ⟨rfl, (X1.out.set (a.1 / 2 ^ b.2.toNat, a.2 / 2 ^ b.1.toNat)).1.1⟩

set_option maxHeartbeats 2000000 in
theorem rsdo_mul (a b : Sp) (w : World) (ha : sIn a) (hb : sIn b) (h : sRR a b = true) (hz : a.2 * b.2 ≤ 18446744073709551615) :
    Calls Try.prog 96 #[.int .u8 32, sV a, sV b] w (Gives (sV (a.1 * b.1, a.2 * b.2)) w) := by
  have h1 := Lib.hid (rs_both a b)
  rw [h] at h1
  obtain ⟨ra, rb⟩ := sRR_true h
  have hx := Lib.hid (STrio.new a b w)
  unfold sIn In64 at ha hb
  obtain ⟨⟨a1, a2⟩, a3, a4⟩ := ha
  obtain ⟨⟨b1, b2⟩, b3, b4⟩ := hb
  have M := Lib.hid fun w => rfits_says a.2 b.2 w ⟨a3, a4⟩ ⟨b3, b4⟩
  rw [decide_eq_true hz] at M
  have k1 : 0 ≤ a.1 * b.1 := Int.mul_nonneg a1 b1
  have k2 : a.1 * b.1 ≤ 18446744073709551615 := Int.le_trans (Int.mul_le_mul ra rb b1 a3) hz
  have k3 : IntKind.u64.wrap (a.1 * b.1) = a.1 * b.1 := by rw [IntKind.wrap_u64, Int.emod_eq_of_lt k1 (by omega)]
  have m0 : 0 ≤ a.2 * b.2 := Int.mul_nonneg a3 b3
  have k4 : IntKind.u64.wrap (a.2 * b.2) = a.2 * b.2 := by rw [IntKind.wrap_u64, Int.emod_eq_of_lt m0 (by omega)]
  go_enter Try.func96, Try.ntmps96
  go_wp2_with fail
  refine (h1.out _).mono ?_; rintro e w1 ⟨rfl, b1⟩
  have x1 := hx.out.after b1
  obtain ⟨p0, p1⟩ := x1.1.2.1.cells
  obtain ⟨q0, q1⟩ := x1.1.2.2.cells
  obtain ⟨c0, c1⟩ := x1.2.cells
  obtain ⟨f0, f1⟩ := x1.2.free
  have X1 := Lib.hid x1
  clear x1 hx b1
  go_wp2_with fail
  refine (M.out _).mono ?_; rintro e w2 ⟨rfl, rfl⟩
  go_wp2_with fail
  exact bodyPost_ret (v := sV (a.1 * b.1, a.2 * b.2)) (by simp [results, Try.results96, go_sem, c0, c1]) rfl ⟨rfl, (X1.out.set (a.1 * b.1, a.2 * b.2)).1.1⟩

set_option maxHeartbeats 2000000 in
theorem rsdo_mul_no (a b : Sp) (w : World) (ha : sIn a) (hb : sIn b) (h : sRR a b = true) (hz : ¬ a.2 * b.2 ≤ 18446744073709551615) :
    Calls Try.prog 96 #[.int .u8 32, sV a, sV b] w (Gives (sV sAll) w) := by
  have h1 := Lib.hid (rs_both a b)
  rw [h] at h1
  obtain ⟨ra, rb⟩ := sRR_true h
  have hx := Lib.hid (STrio.new a b w)
  unfold sIn In64 at ha hb
  obtain ⟨⟨a1, a2⟩, a3, a4⟩ := ha
  obtain ⟨⟨b1, b2⟩, b3, b4⟩ := hb
  have M := Lib.hid fun w => rfits_says a.2 b.2 w ⟨a3, a4⟩ ⟨b3, b4⟩
  rw [decide_eq_false hz] at M
  have A := Lib.hid rs_all
  generalize sAll = t at *
  go_enter Try.func96, Try.ntmps96
  go_wp2_with fail
  refine (h1.out _).mono ?_; rintro e w1 ⟨rfl, b1⟩
  have x1 := hx.out.after b1
  obtain ⟨p0, p1⟩ := x1.1.2.1.cells
  obtain ⟨q0, q1⟩ := x1.1.2.2.cells
  obtain ⟨c0, c1⟩ := x1.2.cells
  obtain ⟨f0, f1⟩ := x1.2.free
  have X1 := Lib.hid x1
  clear x1 hx b1
  go_wp2_with fail
  refine (M.out _).mono ?_; rintro e w2 ⟨rfl, rfl⟩
  go_wp2_with fail
  refine (A.out _).mono ?_; rintro e w2 ⟨rfl, b2⟩
  have x2 := X1.out.after b2
  clear c0 c1 f0 f1
  obtain ⟨c0, c1⟩ := x2.2.cells
  obtain ⟨f0, f1⟩ := x2.2.free
  have X2 := Lib.hid (x2.set t)
  clear x2 X1 b2 p0 p1 q0 q1
  go_wp2_with fail
  exact bodyPost_ret (v := sV t) (by simp [results, Try.results96, go_sem, c0, c1]) rfl ⟨rfl, X2.out.1.1⟩

set_option maxRecDepth 100000 in
set_option maxHeartbeats 2000000 in
theorem rsdo_div (a b : Sp) (w : World) (ha : sIn a) (hb : sIn b) (h : sRR a b = true) (hz : b.1 ≠ 0) :
    Calls Try.prog 96 #[.int .u8 48, sV a, sV b] w (Gives (sV (a.1 / b.2, a.2 / b.1)) w) := by
  have h1 := Lib.hid (rs_both a b)
  rw [h] at h1
  obtain ⟨ra, rb⟩ := sRR_true h
  have hx := Lib.hid (STrio.new a b w)
  unfold sIn In64 at ha hb
  obtain ⟨⟨a1, a2⟩, a3, a4⟩ := ha
  obtain ⟨⟨b1, b2⟩, b3, b4⟩ := hb
  have z1 : (b.1 == 0) = false := reqb_f hz
  have z2 : (b.2 == 0) = false := reqb_f (by omega)
  have z3 : decide (0 < b.1) = true := decide_eq_true (by omega)
  have z4 : ¬ b.2 = 0 := by omega
  have v1 : IntKind.u64.wrap (a.1 / b.2) = a.1 / b.2 := by
    have h1 := Int.ediv_le_self b.2 a1
    have h2 := Int.ediv_nonneg a1 b3
    rw [IntKind.wrap_u64]; omega
  have v2 : IntKind.u64.wrap (a.2 / b.1) = a.2 / b.1 := by
    have h1 := Int.ediv_le_self b.1 a3
    have h2 := Int.ediv_nonneg a3 b1
    rw [IntKind.wrap_u64]; omega
  have d1 : a.1.tdiv b.2 = a.1 / b.2 := Int.tdiv_eq_ediv_of_nonneg a1
  have d2 : a.2.tdiv b.1 = a.2 / b.1 := Int.tdiv_eq_ediv_of_nonneg a3
  go_enter Try.func96, Try.ntmps96
  go_wp2_with fail
  refine (h1.out _).mono ?_; rintro e w1 ⟨rfl, b1⟩
  have x1 := hx.out.after b1
  obtain ⟨p0, p1⟩ := x1.1.2.1.cells
  obtain ⟨q0, q1⟩ := x1.1.2.2.cells
  obtain ⟨c0, c1⟩ := x1.2.cells
  obtain ⟨f0, f1⟩ := x1.2.free
  have X1 := Lib.hid x1
  clear x1 hx b1
  go_wp2_with fail
  go_still_tail 11, (by kernel_rfl)
  change wpList _ _ _ _ _ w1.drew
  have X2 := Lib.hid (X1.out.after (Below.drew (Below.refl _ _)))
  clear X1 p0 p1 q0 q1 f0 f1 c0 c1
  generalize w1.drew = w2 at *
  obtain ⟨c0, c1⟩ := X2.out.2.cells
  obtain ⟨f0, f1⟩ := X2.out.2.free
  generalize a.1 / b.2 = q at *
  generalize a.2 / b.1 = r at *
  have X3 := Lib.hid (X2.out.set (q, r))
  go_wp2_with fail
  exact bodyPost_ret (v := sV (q, r)) (by simp [results, Try.results96, go_sem, c0, c1]) rfl ⟨rfl, X3.out.1.1⟩

set_option maxHeartbeats 2000000 in
theorem rsdo_mod (a b : Sp) (w : World) (ha : sIn a) (hb : sIn b) (h : sRR a b = true) (hz : b.1 ≠ 0) :
    Calls Try.prog 96 #[.int .u8 144, sV a, sV b] w (Gives (sV (0, min a.2 (b.2 - 1))) w) := by
  have h1 := Lib.hid (rs_both a b)
  rw [h] at h1
  obtain ⟨ra, rb⟩ := sRR_true h
  have hx := Lib.hid (STrio.new a b w)
  unfold sIn In64 at ha hb
  obtain ⟨⟨a1, a2⟩, a3, a4⟩ := ha
  obtain ⟨⟨b1, b2⟩, b3, b4⟩ := hb
  have z3 : decide (0 < b.1) = true := decide_eq_true (by omega)
  have k1 : 0 ≤ b.2 - 1 := by omega
  have k2 : b.2 - 1 ≤ 18446744073709551615 := by omega
  have e2 : min a.2 ((b.2 - 1)) = if (b.2 - 1) < a.2 then (b.2 - 1) else a.2 := by split <;> omega
  rw [e2]
  clear e2
  rcases int_lt_or ((b.2 - 1)) (a.2) with k3 | k3
  all_goals
    first | rw [if_pos k3] | rw [if_neg (by omega)]
    go_enter Try.func96, Try.ntmps96
    go_wp2_with fail
    refine (h1.out _).mono ?_; rintro e w1 ⟨rfl, b1⟩
    have x1 := hx.out.after b1
    obtain ⟨p0, p1⟩ := x1.1.2.1.cells
    obtain ⟨q0, q1⟩ := x1.1.2.2.cells
    obtain ⟨c0, c1⟩ := x1.2.cells
    obtain ⟨f0, f1⟩ := x1.2.free
    have X1 := Lib.hid x1
    clear x1 hx b1
    go_wp2_with fail
    first
      | exact bodyPost_ret (v := sV (0, (b.2 - 1))) (by simp [results, Try.results96, go_sem, c0, c1]) rfl ⟨rfl, (X1.out.set (0, (b.2 - 1))).1.1⟩
      | exact bodyPost_ret (v := sV (0, a.2)) (by simp [results, Try.results96, go_sem, c0, c1]) rfl ⟨rfl, (X1.out.set (0, a.2)).1.1⟩

set_option maxHeartbeats 2000000 in
theorem rsdo_and (a b : Sp) (w : World) (ha : sIn a) (hb : sIn b) (h : sRR a b = true) :
    Calls Try.prog 96 #[.int .u8 80, sV a, sV b] w (Gives (sV (0, min a.2 b.2)) w) := by
  have h1 := Lib.hid (rs_both a b)
  rw [h] at h1
  obtain ⟨ra, rb⟩ := sRR_true h
  have hx := Lib.hid (STrio.new a b w)
  unfold sIn In64 at ha hb
  obtain ⟨⟨a1, a2⟩, a3, a4⟩ := ha
  obtain ⟨⟨b1, b2⟩, b3, b4⟩ := hb
  have e2 : min a.2 (b.2) = if b.2 < a.2 then b.2 else a.2 := by split <;> omega
  rw [e2]
  clear e2
  rcases int_lt_or (b.2) (a.2) with k3 | k3
  all_goals
    first | rw [if_pos k3] | rw [if_neg (by omega)]
    go_enter Try.func96, Try.ntmps96
    go_wp2_with fail
    refine (h1.out _).mono ?_; rintro e w1 ⟨rfl, b1⟩
    have x1 := hx.out.after b1
    obtain ⟨p0, p1⟩ := x1.1.2.1.cells
    obtain ⟨q0, q1⟩ := x1.1.2.2.cells
    obtain ⟨c0, c1⟩ := x1.2.cells
    obtain ⟨f0, f1⟩ := x1.2.free
    have X1 := Lib.hid x1
    clear x1 hx b1
    go_wp2_with fail
    first
      | exact bodyPost_ret (v := sV (0, b.2)) (by simp [results, Try.results96, go_sem, c0, c1]) rfl ⟨rfl, (X1.out.set (0, b.2)).1.1⟩
      | exact bodyPost_ret (v := sV (0, a.2)) (by simp [results, Try.results96, go_sem, c0, c1]) rfl ⟨rfl, (X1.out.set (0, a.2)).1.1⟩

set_option maxHeartbeats 2000000 in
theorem rsdo_none (op : Int) (o1 : op ≠ 0) (o2 : op ≠ 16) (o3 : op ≠ 32) (o4 : op ≠ 48) (o5 : op ≠ 144) (o6 : op ≠ 80) (o7 : op ≠ 112) (a b : Sp) (w : World) (ha : sIn a) (hb : sIn b) (h : sRR a b = true) :
    Calls Try.prog 96 #[.int .u8 op, sV a, sV b] w (Gives (sV sAll) w) := by
  have h1 := Lib.hid (rs_both a b)
  rw [h] at h1
  obtain ⟨ra, rb⟩ := sRR_true h
  have hx := Lib.hid (STrio.new a b w)
  unfold sIn In64 at ha hb
  obtain ⟨⟨a1, a2⟩, a3, a4⟩ := ha
  obtain ⟨⟨b1, b2⟩, b3, b4⟩ := hb
  replace o1 := reqb_f o1
  replace o2 := reqb_f o2
  replace o3 := reqb_f o3
  replace o4 := reqb_f o4
  replace o5 := reqb_f o5
  replace o6 := reqb_f o6
  replace o7 := reqb_f o7
  have A := Lib.hid rs_all
  generalize sAll = t at *
  go_enter Try.func96, Try.ntmps96
  go_wp2_with fail
  refine (h1.out _).mono ?_; rintro e w1 ⟨rfl, b1⟩
  have x1 := hx.out.after b1
  obtain ⟨p0, p1⟩ := x1.1.2.1.cells
  obtain ⟨q0, q1⟩ := x1.1.2.2.cells
  obtain ⟨c0, c1⟩ := x1.2.cells
  obtain ⟨f0, f1⟩ := x1.2.free
  have X1 := Lib.hid x1
  clear x1 hx b1
  go_wp2_with fail
  refine (A.out _).mono ?_; rintro e w2 ⟨rfl, b2⟩
  have x2 := X1.out.after b2
  clear c0 c1 f0 f1
  obtain ⟨c0, c1⟩ := x2.2.cells
  obtain ⟨f0, f1⟩ := x2.2.free
  have X2 := Lib.hid (x2.set t)
  clear x2 X1 b2 p0 p1 q0 q1
  go_wp2_with fail
  exact bodyPost_ret (v := sV t) (by simp [results, Try.results96, go_sem, c0, c1]) rfl ⟨rfl, X2.out.1.1⟩

theorem rsdo_bad (op : Int) (a b : Sp) (w : World) (h : sRR a b = false) : Calls Try.prog 96 #[.int .u8 op, sV a, sV b] w (Gives (sV (0, 0)) w) := by
  have h1 := Lib.hid (rs_both a b)
  rw [h] at h1
  clear h
  have hx := Lib.hid (STrio.new a b w)
  go_enter Try.func96, Try.ntmps96
  go_wp2_with fail
  refine (h1.out _).mono ?_; rintro e w1 ⟨rfl, b1⟩
  have x1 := hx.out.after b1
  obtain ⟨c0, c1⟩ := x1.2.cells
  obtain ⟨f0, f1⟩ := x1.2.free
  have X1 := Lib.hid (x1.set (0, 0))
  clear x1 hx b1
  go_wp2_with fail
  exact bodyPost_ret (v := sV (0, 0)) (by simp [results, Try.results96, go_sem, c0, c1]) rfl ⟨rfl, X1.out.1.1⟩

theorem rsdo_says (op : Int) (a b : Sp) (w : World) (ha : sIn a) (hb : sIn b) : Calls Try.prog 96 #[.int .u8 op, sV a, sV b] w (Gives (sV (sDo op a b)) w) := by
  unfold sDo
  cases h : sRR a b
  · exact rsdo_bad op a b w h
  rw [if_pos rfl]
  have ha' := ha
  have hb' := hb
  unfold sIn In64 at ha' hb'
  unfold sDo'
  by_cases o0 : op = 0
  · subst o0
    rw [if_pos rfl]
    unfold sAdd
    by_cases hz : a.2 + b.2 ≤ 18446744073709551615
    · rw [if_pos hz]; exact rsdo_add a b w ha hb h (by omega)
    · rw [if_neg hz]; exact rsdo_add_no a b w ha hb h (by omega)
  rw [if_neg o0]
  by_cases o1 : op = 16
  · subst o1
    rw [if_pos rfl]
    unfold sSub
    by_cases hz : b.2 ≤ a.1
    · rw [if_pos hz]; exact rsdo_sub a b w ha hb h hz
    · rw [if_neg hz]; exact rsdo_sub_no a b w ha hb h (by omega)
  rw [if_neg o1]
  by_cases o2 : op = 32
  · subst o2
    rw [if_pos rfl]
    unfold sMul
    by_cases hz : a.2 * b.2 ≤ 18446744073709551615
    · rw [if_pos hz]; exact rsdo_mul a b w ha hb h hz
    · rw [if_neg hz]; exact rsdo_mul_no a b w ha hb h hz
  rw [if_neg o2]
  by_cases o3 : op = 48
  · subst o3
    by_cases hz : b.1 = 0
    · rw [if_neg (by omega), if_neg (by omega), if_neg (by omega), if_neg (by omega)]; exact rsdo_div0 a b w ha hb h hz
    · rw [if_pos ⟨rfl, hz⟩]; exact rsdo_div a b w ha hb h hz
  rw [if_neg (fun hq => o3 hq.1)]
  by_cases o4 : op = 144
  · subst o4
    by_cases hz : b.1 = 0
    · rw [if_neg (by omega), if_neg (by omega), if_neg (by omega)]; exact rsdo_mod0 a b w ha hb h hz
    · rw [if_pos ⟨rfl, hz⟩]; exact rsdo_mod a b w ha hb h hz
  rw [if_neg (fun hq => o4 hq.1)]
  by_cases o5 : op = 80
  · subst o5
    rw [if_pos rfl]; exact rsdo_and a b w ha hb h
  rw [if_neg o5]
  by_cases o6 : op = 112
  · subst o6
    by_cases hz : b.2 < 64
    · rw [if_pos ⟨rfl, hz⟩]; exact rsdo_rsh a b w ha hb h hz
    · rw [if_neg (fun hq => hz hq.2)]; exact rsdo_rsh64 a b w ha hb h (by omega)
  rw [if_neg (fun hq => o6 hq.1)]
  exact rsdo_none op o0 o1 o2 o3 o4 o5 o6 a b w ha hb h

end Go.Proofs.Ytfepokiibdkoeaa


/-
  The document's own And and Mul of layer 4.
  Conditions: none.
-/
namespace Go.Proofs.Ytfepokiibdkoeaa
open Go.RowKit
set_option linter.unusedVariables false

/-- The boxes of and, mul: both arguments, the result, what has come together so far. -/
theorem Quad.new (a b : Tn) (w : World) : Quad a b (0#64, 0#64) w (w.heap.size + 1 + 1 + 1) ((((w.alloc (.cells #[uV a.1, uV a.2] 24)).alloc (.cells #[uV b.1, uV b.2] 24)).alloc (.cells #[.int .u64 0, .int .u64 0] 24)).alloc (.cells #[.int .u64 0, .int .u64 0] 24)) :=
  ⟨(Trio.new a b w).alloc _, by omega, Box.new _ (0#64, 0#64) (by simp)⟩

set_option maxRecDepth 100000 in
set_option maxHeartbeats 2000000 in
theorem rmul_says (a b : Tn) (w : World) : Calls Try.prog 110 #[tV a, tV b] w (Gives (tV (tMulTo a b 64)) w) := by
  have hx := Lib.hid (Quad.new a b w)
  go_enter Try.func110, Try.ntmps110
  go_wp2_with fail
  go_loopw [6] (fun i wr => ∃ j : Nat, j ≤ 64 ∧ i = .int .i64 j ∧ Hid (Quad a b (tMulTo a b j) w (w.heap.size + 1 + 1 + 1) wr)) (fun i _ => 64 - (intOf i).toNat)
  case atStart => exact ⟨0, by omega, rfl, hx⟩
  case round =>
    obtain ⟨j, hj, rfl, X⟩ := hrel
    by_cases hlt : (j : Int) < 64
    · have ES := Lib.hid (show tMulTo a b (j + 1) = tStep a b j (tMulTo a b j) from rfl)
      unfold tStep at ES
      obtain ⟨p0, p1, p2, p3⟩ := X.out.1.1.cells
      obtain ⟨q0, q1⟩ := X.out.2.2.cells
      obtain ⟨f0, f1⟩ := X.out.2.2.free
      generalize tMulTo a b j = t at *
      have hb : (b.1.getLsbD j = true) ∨ (b.1.getLsbD j = false ∧ b.2.getLsbD j = true) ∨ (b.1.getLsbD j = false ∧ b.2.getLsbD j = false) := by
        cases b.1.getLsbD j <;> cases b.2.getLsbD j <;> simp
      rcases hb with h1 | ⟨h1, h2⟩ | ⟨h1, h2⟩
      · have C1 := Lib.hid h1
        have HA := Lib.hid (radd_says t (a.1 <<< j, a.2 <<< j))
        have ES2 := Lib.hid (show tMulTo a b (j + 1) = tAdd t (a.1 <<< j, a.2 <<< j) by rw [ES.out, if_pos h1])
        clear h1 ES hx
        have m1 := bv_shl' a.1 j
        have m2 := bv_shl' a.2 j
        generalize a.1 <<< j = s1 at *
        generalize a.2 <<< j = s2 at *
        go_wp2_with (go_at_call 80; refine (bit_says _ j (by omega) _).mono ?_; rintro e w' ⟨rfl, rfl⟩; rw [C1.out])
        go_still_tail 10, (by kernel_rfl)
        change wpList _ _ _ _ _ wr.drew
        have X2 := Lib.hid (X.out.after (Below.drew (Below.refl _ _)))
        clear X p0 p1 p2 p3 q0 q1 f0 f1
        generalize wr.drew = w2 at *
        go_wp2_with fail
        refine (HA.out _).mono ?_; rintro e w3 ⟨rfl, b3⟩
        have x3 := X2.out.after b3
        clear X2 b3 HA
        generalize tAdd t (s1, s2) = r at *
        obtain ⟨q0, q1⟩ := x3.2.2.cells
        obtain ⟨f0, f1⟩ := x3.2.2.free
        have X3 := Lib.hid (show Quad a b (tMulTo a b (j + 1)) w (w.heap.size + 1 + 1 + 1) ((w3.setCell ⟨w.heap.size + 1 + 1 + 1, 0, none⟩ (uV r.1)).setCell ⟨w.heap.size + 1 + 1 + 1, 1, none⟩ (uV r.2)) by rw [ES2.out]; exact x3.set r)
        clear x3 ES2
        go_wp2_with fail
        go_round
        case rel => exact ⟨j + 1, by omega, by go_num, X3⟩
        case measure => simp [intOf]; omega
      · have C1 := Lib.hid h1
        have C2 := Lib.hid h2
        have HA : Hid (∀ w, Calls Try.prog 109 #[tV t, .agg #[.int .u64 0, uV ((a.1 ||| a.2) <<< j)]] w (Gives (tV (tAdd t (0#64, (a.1 ||| a.2) <<< j))) w)) := Lib.hid (radd_says t (0#64, (a.1 ||| a.2) <<< j))
        have ES2 := Lib.hid (show tMulTo a b (j + 1) = tAdd t (0#64, (a.1 ||| a.2) <<< j) by rw [ES.out, if_neg (by rw [h1]; decide), if_pos h2])
        clear h1 h2 ES hx
        have m0 := bv_or a.1 a.2
        generalize a.1 ||| a.2 = m at *
        have m1 := bv_shl' m j
        generalize m <<< j = s1 at *
        go_wp2_with (go_at_call 80; refine (bit_says _ j (by omega) _).mono ?_; rintro e w' ⟨rfl, rfl⟩; (first | rw [C1.out] | rw [C2.out]))
        go_still_tail 9, (by kernel_rfl)
        change wpList _ _ _ _ _ wr.drew
        have X2 := Lib.hid (X.out.after (Below.drew (Below.refl _ _)))
        clear X p0 p1 p2 p3 q0 q1 f0 f1
        generalize wr.drew = w2 at *
        go_wp2_with fail
        refine (HA.out _).mono ?_; rintro e w3 ⟨rfl, b3⟩
        have x3 := X2.out.after b3
        clear X2 b3 HA
        generalize tAdd t (0#64, s1) = r at *
        obtain ⟨q0, q1⟩ := x3.2.2.cells
        obtain ⟨f0, f1⟩ := x3.2.2.free
        have X3 := Lib.hid (show Quad a b (tMulTo a b (j + 1)) w (w.heap.size + 1 + 1 + 1) ((w3.setCell ⟨w.heap.size + 1 + 1 + 1, 0, none⟩ (uV r.1)).setCell ⟨w.heap.size + 1 + 1 + 1, 1, none⟩ (uV r.2)) by rw [ES2.out]; exact x3.set r)
        clear x3 ES2
        go_wp2_with fail
        go_round
        case rel => exact ⟨j + 1, by omega, by go_num, X3⟩
        case measure => simp [intOf]; omega
      · have C1 := Lib.hid h1
        have C2 := Lib.hid h2
        have XN := Lib.hid (show Quad a b (tMulTo a b (j + 1)) w (w.heap.size + 1 + 1 + 1) wr by rw [ES.out, if_neg (by rw [h1]; decide), if_neg (by rw [h2]; decide)]; exact X.out)
        clear h1 h2 ES hx
        go_wp2_with (go_at_call 80; refine (bit_says _ j (by omega) _).mono ?_; rintro e w' ⟨rfl, rfl⟩; (first | rw [C1.out] | rw [C2.out]))
        go_round
        case rel => exact ⟨j + 1, by omega, by go_num, XN⟩
        case measure => simp [intOf]; omega
    · have hj2 : j = 64 := by omega
      subst hj2
      clear hx
      generalize tMulTo a b 64 = t at *
      obtain ⟨q0, q1⟩ := X.out.2.2.cells
      obtain ⟨c0, c1⟩ := X.out.1.2.cells
      obtain ⟨f0, f1⟩ := X.out.1.2.free
      have X2 := Lib.hid (X.out.1.set t)
      go_wp2_with fail
      exact bodyPost_ret (v := tV t) (by simp [results, Try.results110, go_sem, c0, c1]) rfl ⟨rfl, X2.out.1.1⟩

theorem Quad.set0 {a b t : Tn} {w u : World} {g : Nat} (h : Quad a b t w g u) (x : BitVec 64) : Quad a b (x, t.2) w g (u.setCell ⟨g, 0, none⟩ (uV x)) := by
  obtain ⟨⟨⟨h1, h2, h3⟩, h4⟩, h5, h6⟩ := h
  exact ⟨⟨⟨h1.setCell (by simp; omega) _, h2.other _ (by omega), h3.other _ (by omega)⟩, h4.other _ (by omega)⟩, h5, h6.set0 x⟩
theorem Quad.set1 {a b t : Tn} {w u : World} {g : Nat} (h : Quad a b t w g u) (x : BitVec 64) : Quad a b (t.1, x) w g (u.setCell ⟨g, 1, none⟩ (uV x)) := by
  obtain ⟨⟨⟨h1, h2, h3⟩, h4⟩, h5, h6⟩ := h
  exact ⟨⟨⟨h1.setCell (by simp; omega) _, h2.other _ (by omega), h3.other _ (by omega)⟩, h4.other _ (by omega)⟩, h5, h6.set1 x⟩
theorem tand_bit (a b : Tn) {i : Nat} (hi : i < 64) : (tAnd a b).1.getLsbD i = (a.1.getLsbD i && b.1.getLsbD i) ∧ (tAnd a b).2.getLsbD i = (((a.1.getLsbD i || a.2.getLsbD i) && (b.1.getLsbD i || b.2.getLsbD i)) && !(a.1.getLsbD i && b.1.getLsbD i)) := by
  unfold tAnd
  simp only [BitVec.getLsbD_and, BitVec.getLsbD_or, BitVec.getLsbD_not, hi, decide_true, Bool.true_and]
  exact ⟨trivial, trivial⟩

/-- What has come together of And, up to a place. -/
def andTo (a b : Tn) (j : Nat) : Tn := (low (tAnd a b).1 j, low (tAnd a b).2 j)

set_option maxRecDepth 100000 in
set_option maxHeartbeats 4000000 in
theorem rand_says (a b : Tn) (w : World) : Calls Try.prog 111 #[tV a, tV b] w (Gives (tV (tAnd a b)) w) := by
  have hx := Lib.hid (show Quad a b (andTo a b 0) w (w.heap.size + 1 + 1 + 1) _ by unfold andTo; rw [low_none, low_none]; exact Quad.new a b w)
  go_enter Try.func111, Try.ntmps111
  go_wp2_with fail
  go_loopw [6] (fun i wr => ∃ j : Nat, j ≤ 64 ∧ i = .int .i64 j ∧ Hid (Quad a b (andTo a b j) w (w.heap.size + 1 + 1 + 1) wr)) (fun i _ => 64 - (intOf i).toNat)
  case atStart => exact ⟨0, by omega, rfl, hx⟩
  case round =>
    obtain ⟨j, hj, rfl, X⟩ := hrel
    clear hx
    obtain ⟨p0, p1, p2, p3⟩ := X.out.1.1.cells
    obtain ⟨q0, q1⟩ := X.out.2.2.cells
    obtain ⟨f0, f1⟩ := X.out.2.2.free
    by_cases hlt : (j : Int) < 64
    · obtain ⟨y1, y2⟩ := tand_bit a b (i := j) (by omega)
      have hs : andTo a b (j + 1) = (low (tAnd a b).1 (j + 1), low (tAnd a b).2 (j + 1)) := rfl
      have hb : (a.1.getLsbD j = true ∧ b.1.getLsbD j = true) ∨ (a.1.getLsbD j = true ∧ b.1.getLsbD j = false ∧ b.2.getLsbD j = true) ∨ (a.1.getLsbD j = true ∧ b.1.getLsbD j = false ∧ b.2.getLsbD j = false) ∨
          (a.1.getLsbD j = false ∧ a.2.getLsbD j = true ∧ b.1.getLsbD j = true) ∨ (a.1.getLsbD j = false ∧ a.2.getLsbD j = true ∧ b.1.getLsbD j = false ∧ b.2.getLsbD j = true) ∨
          (a.1.getLsbD j = false ∧ a.2.getLsbD j = true ∧ b.1.getLsbD j = false ∧ b.2.getLsbD j = false) ∨ (a.1.getLsbD j = false ∧ a.2.getLsbD j = false) := by
        cases a.1.getLsbD j <;> cases a.2.getLsbD j <;> cases b.1.getLsbD j <;> cases b.2.getLsbD j <;> simp
      rcases hb with ⟨h1, h2⟩ | ⟨h1, h2, h3⟩ | ⟨h1, h2, h3⟩ | ⟨h1, h2, h3⟩ | ⟨h1, h2, h3, h4⟩ | ⟨h1, h2, h3, h4⟩ | ⟨h1, h2⟩
      · have hh := And.intro h1 h2
        have hv := low_add (tAnd a b).1 j (by rw [y1]; revert hh; cases a.1.getLsbD j <;> cases a.2.getLsbD j <;> cases b.1.getLsbD j <;> cases b.2.getLsbD j <;> simp)
        have hm := low_same (tAnd a b).2 j (by rw [y2]; revert hh; cases a.1.getLsbD j <;> cases a.2.getLsbD j <;> cases b.1.getLsbD j <;> cases b.2.getLsbD j <;> simp)
        rw [hm] at hs
        have e1 : (andTo a b j).1 = low (tAnd a b).1 j := rfl
        have e2 : (andTo a b j).2 = low (tAnd a b).2 j := rfl
        rw [← e1] at hv
        rw [← e2] at hs
        generalize low (tAnd a b).1 (j + 1) = l1 at *
        have HS := Lib.hid hs
        have C1 := Lib.hid h1
        have C2 := Lib.hid h2
        clear hm hs e1 e2 y1 y2 hh h1 h2
        generalize andTo a b j = t at *
        go_wp2_with (go_at_call 80; refine (bit_says _ j (by omega) _).mono ?_; rintro e w' ⟨rfl, rfl⟩; (first | rw [C1.out] | rw [C2.out]))
        go_still_tail 6, (by kernel_rfl)
        change wpList _ _ _ _ _ wr.drew
        have X2 := Lib.hid (X.out.after (Below.drew (Below.refl _ _)))
        clear X p0 p1 p2 p3 q0 q1 f0 f1
        generalize wr.drew = w2 at *
        obtain ⟨q0, q1⟩ := X2.out.2.2.cells
        obtain ⟨f0, f1⟩ := X2.out.2.2.free
        have X3 := Lib.hid (show Quad a b (andTo a b (j + 1)) w (w.heap.size + 1 + 1 + 1) (w2.setCell ⟨w.heap.size + 1 + 1 + 1, 0, none⟩ (uV l1)) by rw [HS.out]; exact X2.out.set0 l1)
        clear X2 HS
        go_wp2_with fail
        go_round
        case rel => exact ⟨j + 1, by omega, by go_num, X3⟩
        case measure => simp [intOf]; omega
      · have hh := And.intro h1 (And.intro h2 h3)
        have hv := low_same (tAnd a b).1 j (by rw [y1]; revert hh; cases a.1.getLsbD j <;> cases a.2.getLsbD j <;> cases b.1.getLsbD j <;> cases b.2.getLsbD j <;> simp)
        have hm := low_add (tAnd a b).2 j (by rw [y2]; revert hh; cases a.1.getLsbD j <;> cases a.2.getLsbD j <;> cases b.1.getLsbD j <;> cases b.2.getLsbD j <;> simp)
        rw [hv] at hs
        have e1 : (andTo a b j).1 = low (tAnd a b).1 j := rfl
        have e2 : (andTo a b j).2 = low (tAnd a b).2 j := rfl
        rw [← e2] at hm
        rw [← e1] at hs
        generalize low (tAnd a b).2 (j + 1) = l1 at *
        have HS := Lib.hid hs
        have C1 := Lib.hid h1
        have C2 := Lib.hid h2
        have C3 := Lib.hid h3
        clear hv hs e1 e2 y1 y2 hh h1 h2 h3
        generalize andTo a b j = t at *
        go_wp2_with (go_at_call 80; refine (bit_says _ j (by omega) _).mono ?_; rintro e w' ⟨rfl, rfl⟩; (first | rw [C1.out] | rw [C2.out] | rw [C3.out]))
        go_still_tail 6, (by kernel_rfl)
        change wpList _ _ _ _ _ wr.drew
        have X2 := Lib.hid (X.out.after (Below.drew (Below.refl _ _)))
        clear X p0 p1 p2 p3 q0 q1 f0 f1
        generalize wr.drew = w2 at *
        obtain ⟨q0, q1⟩ := X2.out.2.2.cells
        obtain ⟨f0, f1⟩ := X2.out.2.2.free
        have X3 := Lib.hid (show Quad a b (andTo a b (j + 1)) w (w.heap.size + 1 + 1 + 1) (w2.setCell ⟨w.heap.size + 1 + 1 + 1, 1, none⟩ (uV l1)) by rw [HS.out]; exact X2.out.set1 l1)
        clear X2 HS
        go_wp2_with fail
        go_round
        case rel => exact ⟨j + 1, by omega, by go_num, X3⟩
        case measure => simp [intOf]; omega
      · have hh := And.intro h1 (And.intro h2 h3)
        have hv := low_same (tAnd a b).1 j (by rw [y1]; revert hh; cases a.1.getLsbD j <;> cases a.2.getLsbD j <;> cases b.1.getLsbD j <;> cases b.2.getLsbD j <;> simp)
        have hm := low_same (tAnd a b).2 j (by rw [y2]; revert hh; cases a.1.getLsbD j <;> cases a.2.getLsbD j <;> cases b.1.getLsbD j <;> cases b.2.getLsbD j <;> simp)
        rw [hv, hm] at hs
        have XN := Lib.hid (show Quad a b (andTo a b (j + 1)) w (w.heap.size + 1 + 1 + 1) wr by rw [hs]; exact X.out)
        have C1 := Lib.hid h1
        have C2 := Lib.hid h2
        have C3 := Lib.hid h3
        clear hv hm hs y1 y2 hh h1 h2 h3
        generalize andTo a b j = t at *
        go_wp2_with (go_at_call 80; refine (bit_says _ j (by omega) _).mono ?_; rintro e w' ⟨rfl, rfl⟩; (first | rw [C1.out] | rw [C2.out] | rw [C3.out]))
        go_round
        case rel => exact ⟨j + 1, by omega, by go_num, XN⟩
        case measure => simp [intOf]; omega
      · have hh := And.intro h1 (And.intro h2 h3)
        have hv := low_same (tAnd a b).1 j (by rw [y1]; revert hh; cases a.1.getLsbD j <;> cases a.2.getLsbD j <;> cases b.1.getLsbD j <;> cases b.2.getLsbD j <;> simp)
        have hm := low_add (tAnd a b).2 j (by rw [y2]; revert hh; cases a.1.getLsbD j <;> cases a.2.getLsbD j <;> cases b.1.getLsbD j <;> cases b.2.getLsbD j <;> simp)
        rw [hv] at hs
        have e1 : (andTo a b j).1 = low (tAnd a b).1 j := rfl
        have e2 : (andTo a b j).2 = low (tAnd a b).2 j := rfl
        rw [← e2] at hm
        rw [← e1] at hs
        generalize low (tAnd a b).2 (j + 1) = l1 at *
        have HS := Lib.hid hs
        have C1 := Lib.hid h1
        have C2 := Lib.hid h2
        have C3 := Lib.hid h3
        clear hv hs e1 e2 y1 y2 hh h1 h2 h3
        generalize andTo a b j = t at *
        go_wp2_with (go_at_call 80; refine (bit_says _ j (by omega) _).mono ?_; rintro e w' ⟨rfl, rfl⟩; (first | rw [C1.out] | rw [C2.out] | rw [C3.out]))
        go_still_tail 6, (by kernel_rfl)
        change wpList _ _ _ _ _ wr.drew
        have X2 := Lib.hid (X.out.after (Below.drew (Below.refl _ _)))
        clear X p0 p1 p2 p3 q0 q1 f0 f1
        generalize wr.drew = w2 at *
        obtain ⟨q0, q1⟩ := X2.out.2.2.cells
        obtain ⟨f0, f1⟩ := X2.out.2.2.free
        have X3 := Lib.hid (show Quad a b (andTo a b (j + 1)) w (w.heap.size + 1 + 1 + 1) (w2.setCell ⟨w.heap.size + 1 + 1 + 1, 1, none⟩ (uV l1)) by rw [HS.out]; exact X2.out.set1 l1)
        clear X2 HS
        go_wp2_with fail
        go_round
        case rel => exact ⟨j + 1, by omega, by go_num, X3⟩
        case measure => simp [intOf]; omega
      · have hh := And.intro h1 (And.intro h2 (And.intro h3 h4))
        have hv := low_same (tAnd a b).1 j (by rw [y1]; revert hh; cases a.1.getLsbD j <;> cases a.2.getLsbD j <;> cases b.1.getLsbD j <;> cases b.2.getLsbD j <;> simp)
        have hm := low_add (tAnd a b).2 j (by rw [y2]; revert hh; cases a.1.getLsbD j <;> cases a.2.getLsbD j <;> cases b.1.getLsbD j <;> cases b.2.getLsbD j <;> simp)
        rw [hv] at hs
        have e1 : (andTo a b j).1 = low (tAnd a b).1 j := rfl
        have e2 : (andTo a b j).2 = low (tAnd a b).2 j := rfl
        rw [← e2] at hm
        rw [← e1] at hs
        generalize low (tAnd a b).2 (j + 1) = l1 at *
        have HS := Lib.hid hs
        have C1 := Lib.hid h1
        have C2 := Lib.hid h2
        have C3 := Lib.hid h3
        have C4 := Lib.hid h4
        clear hv hs e1 e2 y1 y2 hh h1 h2 h3 h4
        generalize andTo a b j = t at *
        go_wp2_with (go_at_call 80; refine (bit_says _ j (by omega) _).mono ?_; rintro e w' ⟨rfl, rfl⟩; (first | rw [C1.out] | rw [C2.out] | rw [C3.out] | rw [C4.out]))
        go_still_tail 6, (by kernel_rfl)
        change wpList _ _ _ _ _ wr.drew
        have X2 := Lib.hid (X.out.after (Below.drew (Below.refl _ _)))
        clear X p0 p1 p2 p3 q0 q1 f0 f1
        generalize wr.drew = w2 at *
        obtain ⟨q0, q1⟩ := X2.out.2.2.cells
        obtain ⟨f0, f1⟩ := X2.out.2.2.free
        have X3 := Lib.hid (show Quad a b (andTo a b (j + 1)) w (w.heap.size + 1 + 1 + 1) (w2.setCell ⟨w.heap.size + 1 + 1 + 1, 1, none⟩ (uV l1)) by rw [HS.out]; exact X2.out.set1 l1)
        clear X2 HS
        go_wp2_with fail
        go_round
        case rel => exact ⟨j + 1, by omega, by go_num, X3⟩
        case measure => simp [intOf]; omega
      · have hh := And.intro h1 (And.intro h2 (And.intro h3 h4))
        have hv := low_same (tAnd a b).1 j (by rw [y1]; revert hh; cases a.1.getLsbD j <;> cases a.2.getLsbD j <;> cases b.1.getLsbD j <;> cases b.2.getLsbD j <;> simp)
        have hm := low_same (tAnd a b).2 j (by rw [y2]; revert hh; cases a.1.getLsbD j <;> cases a.2.getLsbD j <;> cases b.1.getLsbD j <;> cases b.2.getLsbD j <;> simp)
        rw [hv, hm] at hs
        have XN := Lib.hid (show Quad a b (andTo a b (j + 1)) w (w.heap.size + 1 + 1 + 1) wr by rw [hs]; exact X.out)
        have C1 := Lib.hid h1
        have C2 := Lib.hid h2
        have C3 := Lib.hid h3
        have C4 := Lib.hid h4
        clear hv hm hs y1 y2 hh h1 h2 h3 h4
        generalize andTo a b j = t at *
        go_wp2_with (go_at_call 80; refine (bit_says _ j (by omega) _).mono ?_; rintro e w' ⟨rfl, rfl⟩; (first | rw [C1.out] | rw [C2.out] | rw [C3.out] | rw [C4.out]))
        go_round
        case rel => exact ⟨j + 1, by omega, by go_num, XN⟩
        case measure => simp [intOf]; omega
      · have hh := And.intro h1 h2
        have hv := low_same (tAnd a b).1 j (by rw [y1]; revert hh; cases a.1.getLsbD j <;> cases a.2.getLsbD j <;> cases b.1.getLsbD j <;> cases b.2.getLsbD j <;> simp)
        have hm := low_same (tAnd a b).2 j (by rw [y2]; revert hh; cases a.1.getLsbD j <;> cases a.2.getLsbD j <;> cases b.1.getLsbD j <;> cases b.2.getLsbD j <;> simp)
        rw [hv, hm] at hs
        have XN := Lib.hid (show Quad a b (andTo a b (j + 1)) w (w.heap.size + 1 + 1 + 1) wr by rw [hs]; exact X.out)
        have C1 := Lib.hid h1
        have C2 := Lib.hid h2
        clear hv hm hs y1 y2 hh h1 h2
        generalize andTo a b j = t at *
        go_wp2_with (go_at_call 80; refine (bit_says _ j (by omega) _).mono ?_; rintro e w' ⟨rfl, rfl⟩; (first | rw [C1.out] | rw [C2.out]))
        go_round
        case rel => exact ⟨j + 1, by omega, by go_num, XN⟩
        case measure => simp [intOf]; omega
    · have hj2 : j = 64 := by omega
      subst hj2
      have hs : andTo a b 64 = tAnd a b := by unfold andTo; rw [low_all, low_all]
      have X' : Hid (Quad a b (tAnd a b) w (w.heap.size + 1 + 1 + 1) wr) := by rw [← hs]; exact X
      clear hs X q0 q1 f0 f1
      generalize tAnd a b = t at *
      have X := X'
      obtain ⟨q0, q1⟩ := X.out.2.2.cells
      obtain ⟨c0, c1⟩ := X.out.1.2.cells
      obtain ⟨f0, f1⟩ := X.out.1.2.free
      have X2 := Lib.hid (X.out.1.set t)
      go_wp2_with fail
      exact bodyPost_ret (v := tV t) (by simp [results, Try.results111, go_sem, c0, c1]) rfl ⟨rfl, X2.out.1.1⟩

end Go.Proofs.Ytfepokiibdkoeaa


/-
  The document's own Do of layer 4, op by op, and whole.
  Conditions: none.
-/
namespace Go.Proofs.Ytfepokiibdkoeaa
open Go.RowKit
set_option linter.unusedVariables false

/-- Whether the second one is a number below 64, as it is asked. -/
def Kn (b : Tn) (k : Bool) : Prop := ((b.2.toNat : Int) == 0) = false ∧ k = false ∨ ((b.2.toNat : Int) == 0) = true ∧ (64 : Int) ≤ (b.1.toNat : Int) ∧ k = false ∨ ((b.2.toNat : Int) == 0) = true ∧ (b.1.toNat : Int) < 64 ∧ k = true
theorem kn_is (b : Tn) : Kn b (tKnown b) := by
  unfold Kn tKnown
  rw [bv_eq0]
  cases h : (b.2 == 0#64)
  · exact .inl ⟨rfl, rfl⟩
  · by_cases h2 : b.1.toNat < 64
    · exact .inr (.inr ⟨rfl, by omega, by simp [h2]⟩)
    · exact .inr (.inl ⟨rfl, by omega, by simp [h2]⟩)

set_option maxRecDepth 100000 in
set_option maxHeartbeats 2000000 in
theorem rdo_wrong (op : Int) (a b : Tn) (w : World) (hr : tRR a b = false) : Calls Try.prog 95 #[.int .u8 op, tV a, tV b] w (Gives (tBV (0#64, 0#64) false) w) := by
  have hx := Lib.hid (Trio.new a b w)
  have h0 := Lib.hid (rboth_says a b)
  rw [hr] at h0
  clear hr
  go_enter Try.func95, Try.ntmps95
  go_wp2_with fail
  refine (h0.out _).mono ?_; rintro e w1 ⟨rfl, b1⟩
  have x1 := hx.out.after b1
  obtain ⟨p0, p1, p2, p3⟩ := x1.1.cells
  obtain ⟨c0, c1⟩ := x1.2.cells
  obtain ⟨f0, f1⟩ := x1.2.free
  have X1 := Lib.hid x1
  clear x1 b1 hx h0
  go_wp2_with fail
  have X2 := Lib.hid (X1.out.set (0#64, 0#64))
  exact bodyPost_ret (v := tBV (0#64, 0#64) false) (by simp [results, Try.results95, go_sem, c0, c1]) rfl ⟨rfl, X2.out.1.1⟩

set_option maxRecDepth 100000 in
set_option maxHeartbeats 2000000 in
theorem rdo_other (op : Int) (a b : Tn) (w : World) (hr : tRR a b = true) (k : Bool) (hkn : Kn b k) (h1 : ¬ op = 0) (h2 : ¬ op = 16) (h3 : ¬ op = 32) (h4 : ¬ op = 80) (h5 : ¬ op = 64) (h6 : ¬ op = 160) (h7 : ¬ op = 96) (h8 : ¬ op = 112) : Calls Try.prog 95 #[.int .u8 op, tV a, tV b] w (Gives (tBV (0#64, 0#64) false) w) := by
  have hx := Lib.hid (Trio.new a b w)
  have h0 := Lib.hid (rboth_says a b)
  rw [hr] at h0
  clear hr
  rcases hkn with ⟨k1, k3⟩ | ⟨k1, k2, k3⟩ | ⟨k1, k2, k3⟩
  all_goals
    go_enter Try.func95, Try.ntmps95
    go_wp2_with fail
    refine (h0.out _).mono ?_; rintro e w1 ⟨rfl, b1⟩
    have x1 := hx.out.after b1
    obtain ⟨p0, p1, p2, p3⟩ := x1.1.cells
    obtain ⟨c0, c1⟩ := x1.2.cells
    obtain ⟨f0, f1⟩ := x1.2.free
    have X1 := Lib.hid x1
    clear x1 b1 hx h0
    go_wp2_with fail
    have X2 := Lib.hid (X1.out.set (0#64, 0#64))
    exact bodyPost_ret (v := tBV (0#64, 0#64) false) (by simp [results, Try.results95, go_sem, c0, c1]) rfl ⟨rfl, X2.out.1.1⟩

set_option maxRecDepth 100000 in
set_option maxHeartbeats 2000000 in
theorem rdo_add (a b : Tn) (w : World) (hr : tRR a b = true) (k : Bool) (hkn : Kn b k) : Calls Try.prog 95 #[.int .u8 0, tV a, tV b] w (Gives (tBV (tAdd a b) true) w) := by
  have hx := Lib.hid (Trio.new a b w)
  have h0 := Lib.hid (rboth_says a b)
  rw [hr] at h0
  clear hr
  have hc : Hid (∀ w, Calls _ _ _ _ _) := Lib.hid (radd_says a b)
  generalize tAdd a b = t at *
  rcases hkn with ⟨k1, k3⟩ | ⟨k1, k2, k3⟩ | ⟨k1, k2, k3⟩
  all_goals
    go_enter Try.func95, Try.ntmps95
    go_wp2_with fail
    refine (h0.out _).mono ?_; rintro e w1 ⟨rfl, b1⟩
    have x1 := hx.out.after b1
    obtain ⟨p0, p1, p2, p3⟩ := x1.1.cells
    obtain ⟨c0, c1⟩ := x1.2.cells
    obtain ⟨f0, f1⟩ := x1.2.free
    have X1 := Lib.hid x1
    clear x1 b1 hx h0
    go_wp2_with fail
    refine (hc.out _).mono ?_; rintro e w2 ⟨rfl, b2⟩
    have x2 := X1.out.after b2
    clear p0 p1 p2 p3 c0 c1 f0 f1 X1 b2
    obtain ⟨c0, c1⟩ := x2.2.cells
    obtain ⟨f0, f1⟩ := x2.2.free
    have X2 := Lib.hid (x2.set t)
    clear x2
    go_wp2_with fail
    exact bodyPost_ret (v := tBV t true) (by simp [results, Try.results95, go_sem, c0, c1]) rfl ⟨rfl, X2.out.1.1⟩

set_option maxRecDepth 100000 in
set_option maxHeartbeats 2000000 in
theorem rdo_mul (a b : Tn) (w : World) (hr : tRR a b = true) (k : Bool) (hkn : Kn b k) : Calls Try.prog 95 #[.int .u8 32, tV a, tV b] w (Gives (tBV (tMulTo a b 64) true) w) := by
  have hx := Lib.hid (Trio.new a b w)
  have h0 := Lib.hid (rboth_says a b)
  rw [hr] at h0
  clear hr
  have hc : Hid (∀ w, Calls _ _ _ _ _) := Lib.hid (rmul_says a b)
  generalize tMulTo a b 64 = t at *
  rcases hkn with ⟨k1, k3⟩ | ⟨k1, k2, k3⟩ | ⟨k1, k2, k3⟩
  all_goals
    go_enter Try.func95, Try.ntmps95
    go_wp2_with fail
    refine (h0.out _).mono ?_; rintro e w1 ⟨rfl, b1⟩
    have x1 := hx.out.after b1
    obtain ⟨p0, p1, p2, p3⟩ := x1.1.cells
    obtain ⟨c0, c1⟩ := x1.2.cells
    obtain ⟨f0, f1⟩ := x1.2.free
    have X1 := Lib.hid x1
    clear x1 b1 hx h0
    go_wp2_with fail
    refine (hc.out _).mono ?_; rintro e w2 ⟨rfl, b2⟩
    have x2 := X1.out.after b2
    clear p0 p1 p2 p3 c0 c1 f0 f1 X1 b2
    obtain ⟨c0, c1⟩ := x2.2.cells
    obtain ⟨f0, f1⟩ := x2.2.free
    have X2 := Lib.hid (x2.set t)
    clear x2
    go_wp2_with fail
    exact bodyPost_ret (v := tBV t true) (by simp [results, Try.results95, go_sem, c0, c1]) rfl ⟨rfl, X2.out.1.1⟩

set_option maxRecDepth 100000 in
set_option maxHeartbeats 2000000 in
theorem rdo_and (a b : Tn) (w : World) (hr : tRR a b = true) (k : Bool) (hkn : Kn b k) : Calls Try.prog 95 #[.int .u8 80, tV a, tV b] w (Gives (tBV (tAnd a b) true) w) := by
  have hx := Lib.hid (Trio.new a b w)
  have h0 := Lib.hid (rboth_says a b)
  rw [hr] at h0
  clear hr
  have hc : Hid (∀ w, Calls _ _ _ _ _) := Lib.hid (rand_says a b)
  generalize tAnd a b = t at *
  rcases hkn with ⟨k1, k3⟩ | ⟨k1, k2, k3⟩ | ⟨k1, k2, k3⟩
  all_goals
    go_enter Try.func95, Try.ntmps95
    go_wp2_with fail
    refine (h0.out _).mono ?_; rintro e w1 ⟨rfl, b1⟩
    have x1 := hx.out.after b1
    obtain ⟨p0, p1, p2, p3⟩ := x1.1.cells
    obtain ⟨c0, c1⟩ := x1.2.cells
    obtain ⟨f0, f1⟩ := x1.2.free
    have X1 := Lib.hid x1
    clear x1 b1 hx h0
    go_wp2_with fail
    refine (hc.out _).mono ?_; rintro e w2 ⟨rfl, b2⟩
    have x2 := X1.out.after b2
    clear p0 p1 p2 p3 c0 c1 f0 f1 X1 b2
    obtain ⟨c0, c1⟩ := x2.2.cells
    obtain ⟨f0, f1⟩ := x2.2.free
    have X2 := Lib.hid (x2.set t)
    clear x2
    go_wp2_with fail
    exact bodyPost_ret (v := tBV t true) (by simp [results, Try.results95, go_sem, c0, c1]) rfl ⟨rfl, X2.out.1.1⟩

set_option maxRecDepth 100000 in
set_option maxHeartbeats 2000000 in
theorem rdo_xor (a b : Tn) (w : World) (hr : tRR a b = true) (k : Bool) (hkn : Kn b k) : Calls Try.prog 95 #[.int .u8 160, tV a, tV b] w (Gives (tBV (tXor a b) true) w) := by
  have hx := Lib.hid (Trio.new a b w)
  have h0 := Lib.hid (rboth_says a b)
  rw [hr] at h0
  clear hr
  have hc : Hid (∀ w, Calls _ _ _ _ _) := Lib.hid (rmade_says (a.1 ^^^ b.1) (a.2 ||| b.2))
  have hv : tMade (a.1 ^^^ b.1) (a.2 ||| b.2) = tXor a b := rfl
  rw [hv] at hc
  clear hv
  generalize tXor a b = t at *
  rcases hkn with ⟨k1, k3⟩ | ⟨k1, k2, k3⟩ | ⟨k1, k2, k3⟩
  all_goals
    go_enter Try.func95, Try.ntmps95
    go_wp2_with fail
    refine (h0.out _).mono ?_; rintro e w1 ⟨rfl, b1⟩
    have x1 := hx.out.after b1
    obtain ⟨p0, p1, p2, p3⟩ := x1.1.cells
    obtain ⟨c0, c1⟩ := x1.2.cells
    obtain ⟨f0, f1⟩ := x1.2.free
    have X1 := Lib.hid x1
    clear x1 b1 hx h0
    go_wp2_with fail
    simp only [bv_xor, bv_or]
    refine (hc.out _).mono ?_; rintro e w2 ⟨rfl, b2⟩
    have x2 := X1.out.after b2
    clear p0 p1 p2 p3 c0 c1 f0 f1 X1 b2
    obtain ⟨c0, c1⟩ := x2.2.cells
    obtain ⟨f0, f1⟩ := x2.2.free
    have X2 := Lib.hid (x2.set t)
    clear x2
    go_wp2_with fail
    exact bodyPost_ret (v := tBV t true) (by simp [results, Try.results95, go_sem, c0, c1]) rfl ⟨rfl, X2.out.1.1⟩

set_option maxRecDepth 100000 in
set_option maxHeartbeats 2000000 in
theorem rdo_sub (a b : Tn) (w : World) (hr : tRR a b = true) (k : Bool) (hkn : Kn b k) : Calls Try.prog 95 #[.int .u8 16, tV a, tV b] w (Gives (tBV (tSub a b) true) w) := by
  have hx := Lib.hid (Trio.new a b w)
  have h0 := Lib.hid (rboth_says a b)
  rw [hr] at h0
  clear hr
  have e1 := bv_sub' a.1 b.1
  have e2 := bv_add' (a.1 - b.1) a.2
  have e3 := bv_sub' (a.1 - b.1) b.2
  have ht := Lib.hid (show tMade (a.1 - b.1) (((a.1 - b.1 + a.2) ^^^ (a.1 - b.1 - b.2)) ||| a.2 ||| b.2) = tSub a b from rfl)
  generalize a.1 - b.1 = v at *
  generalize v + a.2 = p at *
  generalize v - b.2 = q at *
  rcases hkn with ⟨k1, k3⟩ | ⟨k1, k2, k3⟩ | ⟨k1, k2, k3⟩
  all_goals
    go_enter Try.func95, Try.ntmps95
    go_wp2_with fail
    refine (h0.out _).mono ?_; rintro e w1 ⟨rfl, b1⟩
    have x1 := hx.out.after b1
    obtain ⟨p0, p1, p2, p3⟩ := x1.1.cells
    obtain ⟨c0, c1⟩ := x1.2.cells
    obtain ⟨f0, f1⟩ := x1.2.free
    have X1 := Lib.hid x1
    clear x1 b1 hx h0
    go_wp2_with fail
    simp only [bv_xor, bv_or]
    refine (rmade_says _ _ _).mono ?_; rintro e w2 ⟨rfl, b2⟩
    rw [ht.out]
    generalize tSub a b = t at *
    have x2 := X1.out.after b2
    clear p0 p1 p2 p3 c0 c1 f0 f1 X1 b2
    obtain ⟨c0, c1⟩ := x2.2.cells
    obtain ⟨f0, f1⟩ := x2.2.free
    have X2 := Lib.hid (x2.set t)
    clear x2
    go_wp2_with fail
    exact bodyPost_ret (v := tBV t true) (by simp [results, Try.results95, go_sem, c0, c1]) rfl ⟨rfl, X2.out.1.1⟩

set_option maxRecDepth 100000 in
set_option maxHeartbeats 2000000 in
theorem rdo_or (a b : Tn) (w : World) (hr : tRR a b = true) (k : Bool) (hkn : Kn b k) : Calls Try.prog 95 #[.int .u8 64, tV a, tV b] w (Gives (tBV (tOr a b) true) w) := by
  have hx := Lib.hid (Trio.new a b w)
  have h0 := Lib.hid (rboth_says a b)
  rw [hr] at h0
  clear hr
  have hv : (a.1 ||| b.1, (a.2 ||| b.2) &&& ~~~(a.1 ||| b.1)) = tOr a b := rfl
  have E := Lib.hid (show bits .andNot .u64 (bits .or .u64 (a.2.toNat : Int) (b.2.toNat : Int)) (bits .or .u64 (a.1.toNat : Int) (b.1.toNat : Int)) = (((a.2 ||| b.2) &&& ~~~(a.1 ||| b.1)).toNat : Int) by rw [bv_or, bv_or, bv_andNot])
  have E2 := Lib.hid (bv_or a.1 b.1)
  generalize (a.2 ||| b.2) &&& ~~~(a.1 ||| b.1) = m at *
  generalize a.1 ||| b.1 = v at *
  rw [← hv]
  clear hv
  rcases hkn with ⟨k1, k3⟩ | ⟨k1, k2, k3⟩ | ⟨k1, k2, k3⟩
  all_goals
    go_enter Try.func95, Try.ntmps95
    go_wp2_with fail
    refine (h0.out _).mono ?_; rintro e w1 ⟨rfl, b1⟩
    have x1 := hx.out.after b1
    obtain ⟨p0, p1, p2, p3⟩ := x1.1.cells
    obtain ⟨c0, c1⟩ := x1.2.cells
    obtain ⟨f0, f1⟩ := x1.2.free
    have X1 := Lib.hid x1
    clear x1 b1 hx h0
    go_wp2_with fail
    rw [E.out, E2.out]
    have X2 := Lib.hid (X1.out.set (v, m))
    exact bodyPost_ret (v := tBV (v, m) true) (by simp [results, Try.results95, go_sem, c0, c1]) rfl ⟨rfl, X2.out.1.1⟩

set_option maxRecDepth 100000 in
set_option maxHeartbeats 2000000 in
theorem rdo_lsh (a b : Tn) (w : World) (hr : tRR a b = true) (k1 : ((b.2.toNat : Int) == 0) = true) (k2 : (b.1.toNat : Int) < 64) : Calls Try.prog 95 #[.int .u8 96, tV a, tV b] w (Gives (tBV (tLsh a b.1.toNat) true) w) := by
  have hx := Lib.hid (Trio.new a b w)
  have h0 := Lib.hid (rboth_says a b)
  rw [hr] at h0
  clear hr
  have hv : (a.1 <<< b.1.toNat, a.2 <<< b.1.toNat) = tLsh a b.1.toNat := rfl
  have e1 := bv_shl' a.1 b.1.toNat
  have e2 := bv_shl' a.2 b.1.toNat
  generalize a.1 <<< b.1.toNat = v at *
  generalize a.2 <<< b.1.toNat = m at *
  rw [← hv]
  clear hv
  go_enter Try.func95, Try.ntmps95
  go_wp2_with fail
  refine (h0.out _).mono ?_; rintro e w1 ⟨rfl, b1⟩
  have x1 := hx.out.after b1
  obtain ⟨p0, p1, p2, p3⟩ := x1.1.cells
  obtain ⟨c0, c1⟩ := x1.2.cells
  obtain ⟨f0, f1⟩ := x1.2.free
  have X1 := Lib.hid x1
  clear x1 b1 hx h0
  go_wp2_with fail
  have X2 := Lib.hid (X1.out.set (v, m))
  exact bodyPost_ret (v := tBV (v, m) true) (by simp [results, Try.results95, go_sem, c0, c1]) rfl ⟨rfl, X2.out.1.1⟩

set_option maxRecDepth 100000 in
set_option maxHeartbeats 2000000 in
theorem rdo_no_lsh (a b : Tn) (w : World) (hr : tRR a b = true) (hk : ((b.2.toNat : Int) == 0) = false ∨ ((b.2.toNat : Int) == 0) = true ∧ (64 : Int) ≤ (b.1.toNat : Int)) : Calls Try.prog 95 #[.int .u8 96, tV a, tV b] w (Gives (tBV (0#64, 0#64) false) w) := by
  have hx := Lib.hid (Trio.new a b w)
  have h0 := Lib.hid (rboth_says a b)
  rw [hr] at h0
  clear hr
  rcases hk with k1 | ⟨k1, k2⟩
  all_goals
    go_enter Try.func95, Try.ntmps95
    go_wp2_with fail
    refine (h0.out _).mono ?_; rintro e w1 ⟨rfl, b1⟩
    have x1 := hx.out.after b1
    obtain ⟨p0, p1, p2, p3⟩ := x1.1.cells
    obtain ⟨c0, c1⟩ := x1.2.cells
    obtain ⟨f0, f1⟩ := x1.2.free
    have X1 := Lib.hid x1
    clear x1 b1 hx h0
    go_wp2_with fail
    have X2 := Lib.hid (X1.out.set (0#64, 0#64))
    exact bodyPost_ret (v := tBV (0#64, 0#64) false) (by simp [results, Try.results95, go_sem, c0, c1]) rfl ⟨rfl, X2.out.1.1⟩

set_option maxRecDepth 100000 in
set_option maxHeartbeats 2000000 in
theorem rdo_rsh (a b : Tn) (w : World) (hr : tRR a b = true) (k1 : ((b.2.toNat : Int) == 0) = true) (k2 : (b.1.toNat : Int) < 64) : Calls Try.prog 95 #[.int .u8 112, tV a, tV b] w (Gives (tBV (tRsh a b.1.toNat) true) w) := by
  have hx := Lib.hid (Trio.new a b w)
  have h0 := Lib.hid (rboth_says a b)
  rw [hr] at h0
  clear hr
  have hv : (a.1 >>> b.1.toNat, a.2 >>> b.1.toNat) = tRsh a b.1.toNat := rfl
  have e1 := bv_shr a.1 b.1.toNat
  have e2 := bv_shr a.2 b.1.toNat
  generalize a.1 >>> b.1.toNat = v at *
  generalize a.2 >>> b.1.toNat = m at *
  rw [← hv]
  clear hv
  go_enter Try.func95, Try.ntmps95
  go_wp2_with fail
  refine (h0.out _).mono ?_; rintro e w1 ⟨rfl, b1⟩
  have x1 := hx.out.after b1
  obtain ⟨p0, p1, p2, p3⟩ := x1.1.cells
  obtain ⟨c0, c1⟩ := x1.2.cells
  obtain ⟨f0, f1⟩ := x1.2.free
  have X1 := Lib.hid x1
  clear x1 b1 hx h0
  go_wp2_with fail
  have X2 := Lib.hid (X1.out.set (v, m))
  exact bodyPost_ret (v := tBV (v, m) true) (by simp [results, Try.results95, go_sem, c0, c1]) rfl ⟨rfl, X2.out.1.1⟩

set_option maxRecDepth 100000 in
set_option maxHeartbeats 2000000 in
theorem rdo_no_rsh (a b : Tn) (w : World) (hr : tRR a b = true) (hk : ((b.2.toNat : Int) == 0) = false ∨ ((b.2.toNat : Int) == 0) = true ∧ (64 : Int) ≤ (b.1.toNat : Int)) : Calls Try.prog 95 #[.int .u8 112, tV a, tV b] w (Gives (tBV (0#64, 0#64) false) w) := by
  have hx := Lib.hid (Trio.new a b w)
  have h0 := Lib.hid (rboth_says a b)
  rw [hr] at h0
  clear hr
  rcases hk with k1 | ⟨k1, k2⟩
  all_goals
    go_enter Try.func95, Try.ntmps95
    go_wp2_with fail
    refine (h0.out _).mono ?_; rintro e w1 ⟨rfl, b1⟩
    have x1 := hx.out.after b1
    obtain ⟨p0, p1, p2, p3⟩ := x1.1.cells
    obtain ⟨c0, c1⟩ := x1.2.cells
    obtain ⟨f0, f1⟩ := x1.2.free
    have X1 := Lib.hid x1
    clear x1 b1 hx h0
    go_wp2_with fail
    have X2 := Lib.hid (X1.out.set (0#64, 0#64))
    exact bodyPost_ret (v := tBV (0#64, 0#64) false) (by simp [results, Try.results95, go_sem, c0, c1]) rfl ⟨rfl, X2.out.1.1⟩

set_option maxRecDepth 100000 in
theorem rdo_says (op : Int) (a b : Tn) (w : World) : Calls Try.prog 95 #[.int .u8 op, tV a, tV b] w (Gives (tBV (tDo op a b) (tDok op a b)) w) := by
  have hkn := kn_is b
  cases hr : tRR a b
  · have e : tDok op a b = false := by unfold tDok; rw [hr]; rfl
    have e2 : tDo op a b = (0#64, 0#64) := by unfold tDo; rw [e]; rfl
    rw [e, e2]
    exact rdo_wrong op a b w hr
  by_cases h1 : op = 0
  · subst h1
    have e : tDok 0 a b = true := by unfold tDok; rw [hr]; rfl
    have e2 : tDo 0 a b = tAdd a b := by unfold tDo; rw [e, if_pos rfl]; rfl
    rw [e, e2]
    exact rdo_add a b w hr _ hkn
  by_cases h2 : op = 16
  · subst h2
    have e : tDok 16 a b = true := by unfold tDok; rw [hr]; rfl
    have e2 : tDo 16 a b = tSub a b := by unfold tDo; rw [e, if_pos rfl]; rfl
    rw [e, e2]
    exact rdo_sub a b w hr _ hkn
  by_cases h3 : op = 32
  · subst h3
    have e : tDok 32 a b = true := by unfold tDok; rw [hr]; rfl
    have e2 : tDo 32 a b = tMulTo a b 64 := by unfold tDo; rw [e, if_pos rfl]; rfl
    rw [e, e2]
    exact rdo_mul a b w hr _ hkn
  by_cases h4 : op = 80
  · subst h4
    have e : tDok 80 a b = true := by unfold tDok; rw [hr]; rfl
    have e2 : tDo 80 a b = tAnd a b := by unfold tDo; rw [e, if_pos rfl]; rfl
    rw [e, e2]
    exact rdo_and a b w hr _ hkn
  by_cases h5 : op = 64
  · subst h5
    have e : tDok 64 a b = true := by unfold tDok; rw [hr]; rfl
    have e2 : tDo 64 a b = tOr a b := by unfold tDo; rw [e, if_pos rfl]; rfl
    rw [e, e2]
    exact rdo_or a b w hr _ hkn
  by_cases h6 : op = 160
  · subst h6
    have e : tDok 160 a b = true := by unfold tDok; rw [hr]; rfl
    have e2 : tDo 160 a b = tXor a b := by unfold tDo; rw [e, if_pos rfl]; rfl
    rw [e, e2]
    exact rdo_xor a b w hr _ hkn
  by_cases h7 : op = 96
  · subst h7
    have hk2 := hkn
    unfold Kn at hk2
    cases hk : tKnown b
    · rw [hk] at hk2
      have e : tDok 96 a b = false := by unfold tDok; rw [hr, hk]; rfl
      have e2 : tDo 96 a b = (0#64, 0#64) := by unfold tDo; rw [e]; rfl
      rw [e, e2]
      refine rdo_no_lsh a b w hr ?_
      rcases hk2 with ⟨k1, _⟩ | ⟨k1, k2, _⟩ | ⟨_, _, k3⟩
      · exact .inl k1
      · exact .inr ⟨k1, k2⟩
      · cases k3
    · rw [hk] at hk2
      have e : tDok 96 a b = true := by unfold tDok; rw [hr, hk]; rfl
      have e2 : tDo 96 a b = tLsh a b.1.toNat := by unfold tDo; rw [e, if_pos rfl]; rfl
      rw [e, e2]
      rcases hk2 with ⟨_, k3⟩ | ⟨_, _, k3⟩ | ⟨k1, k2, _⟩
      · cases k3
      · cases k3
      · exact rdo_lsh a b w hr k1 k2
  by_cases h8 : op = 112
  · subst h8
    have hk2 := hkn
    unfold Kn at hk2
    cases hk : tKnown b
    · rw [hk] at hk2
      have e : tDok 112 a b = false := by unfold tDok; rw [hr, hk]; rfl
      have e2 : tDo 112 a b = (0#64, 0#64) := by unfold tDo; rw [e]; rfl
      rw [e, e2]
      refine rdo_no_rsh a b w hr ?_
      rcases hk2 with ⟨k1, _⟩ | ⟨k1, k2, _⟩ | ⟨_, _, k3⟩
      · exact .inl k1
      · exact .inr ⟨k1, k2⟩
      · cases k3
    · rw [hk] at hk2
      have e : tDok 112 a b = true := by unfold tDok; rw [hr, hk]; rfl
      have e2 : tDo 112 a b = tRsh a b.1.toNat := by unfold tDo; rw [e, if_pos rfl]; rfl
      rw [e, e2]
      rcases hk2 with ⟨_, k3⟩ | ⟨_, _, k3⟩ | ⟨k1, k2, _⟩
      · cases k3
      · cases k3
      · exact rdo_rsh a b w hr k1 k2
  have e : tDok op a b = false := by unfold tDok; simp [h1, h2, h3, h4, h5, h6, h7, h8]
  have e2 : tDo op a b = (0#64, 0#64) := by unfold tDo; rw [e]; rfl
  rw [e, e2]
  exact rdo_other op a b w hr _ hkn h1 h2 h3 h4 h5 h6 h7 h8

end Go.Proofs.Ytfepokiibdkoeaa


/-
  The document's own answers of layer 6: what is known of what arithmetic makes, ahead of the cut.
  Conditions: the numbers fit their kinds.
-/
namespace Go.Proofs.Ytfepokiibdkoeaa
open Go.RowKit
set_option linter.unusedVariables false

theorem FTri.alloc' {a b r : Fc} {w u : World} (h : FTri a b r w u) (o : Obj) : FTri a b r w (u.alloc o) := h.after (below_alloc (Below.refl _ _) o)
theorem FTri.setB {a b r : Fc} {w u : World} (h : FTri a b r w u) (s : Fc) :
    FTri a s r w ((((u.setCell ⟨w.heap.size + 1, 0, none⟩ (uV s.1.1)).setCell ⟨w.heap.size + 1, 1, none⟩ (uV s.1.2)).setCell ⟨w.heap.size + 1, 2, none⟩ (.int .u64 s.2.1)).setCell ⟨w.heap.size + 1, 3, none⟩ (.int .u64 s.2.2)) :=
  ⟨⟨below_four h.1.1 (by omega) s, h.1.2.1.others (by omega), h.1.2.2.set s⟩, h.2.others (by omega)⟩

set_option maxRecDepth 100000 in
set_option maxHeartbeats 8000000 in
theorem rf_wide_mov (narrow : Bool) (kx ky : Bool) (hk : (kx && ky) = false) (x y : Fc) (w : World)
    (p : BitVec 64) (X : Hid (∀ w, Calls Try.prog 15 #[fV x] w (Gives (.tuple #[uV p, .bool kx]) w)))
    (q : BitVec 64) (Y : Hid (∀ w, Calls Try.prog 15 #[fV y] w (Gives (.tuple #[uV q, .bool ky]) w))) :
    Calls Try.prog 65 #[.int .u8 176, .bool narrow, .int .i16 0, fV x, fV y] w (Gives (fV y) w) := by
  cases kx <;> cases ky
  case true.true => cases hk
  all_goals
    clear hk
    have hx := Lib.hid (FTri.new x y fZ w)
    go_enter Try.func65, Try.ntmps65
    go_wp2_with fail
    refine (X.out _).mono ?_; rintro e w1 ⟨rfl, b1⟩
    have x1 := hx.out.after b1
    clear hx b1
    obtain ⟨q0, q1, q2, q3⟩ := x1.1.2.2.cells
    go_wp2_with fail
    refine (Y.out _).mono ?_; rintro e w2 ⟨rfl, b2⟩
    have x2 := x1.after b2
    clear x1 b2 q0 q1 q2 q3 X Y
    obtain ⟨p0, p1, p2, p3⟩ := x2.1.2.1.cells
    obtain ⟨q0, q1, q2, q3⟩ := x2.1.2.2.cells
    obtain ⟨e0, e1, e2, e3⟩ := x2.2.cells
    obtain ⟨g0, g1, g2, g3⟩ := x2.2.free
    have XE := Lib.hid (x2.set y)
    clear x2
    go_wp2_with fail
    exact bodyPost_ret (v := fV y) (by simp [results, Try.results65, go_sem, e0, e1, e2, e3]) rfl ⟨rfl, XE.out.1.1⟩

set_option maxRecDepth 100000 in
set_option maxHeartbeats 8000000 in
theorem rf_wide_both (op : Int) (off : Int) (narrow : Bool) (x y : Fc) (w : World)
    (p : BitVec 64) (X : Hid (∀ w, Calls Try.prog 15 #[fV x] w (Gives (.tuple #[uV p, .bool true]) w)))
    (q : BitVec 64) (Y : Hid (∀ w, Calls Try.prog 15 #[fV y] w (Gives (.tuple #[uV q, .bool true]) w)))
    (n er : Int) (D : Hid (∀ w, Calls Try.prog 36 #[.int .u8 op, .bool (!narrow), .int .i16 off, uV p, uV q] w (Gives (.tuple #[.int .u64 n, .int .i64 er]) w)))
    (g : Fc) (A : Hid (∀ w, Calls Try.prog 20 #[.int .u64 n] w (Gives (fV g) w))) :
    Calls Try.prog 65 #[.int .u8 op, .bool narrow, .int .i16 off, fV x, fV y] w (Gives (fV g) w) := by
  all_goals
    have hx := Lib.hid (FTri.new x y fZ w)
    go_enter Try.func65, Try.ntmps65
    go_wp2_with fail
    refine (X.out _).mono ?_; rintro e w1 ⟨rfl, b1⟩
    have x1 := hx.out.after b1
    clear hx b1
    obtain ⟨q0, q1, q2, q3⟩ := x1.1.2.2.cells
    go_wp2_with fail
    refine (Y.out _).mono ?_; rintro e w2 ⟨rfl, b2⟩
    have x2 := x1.after b2
    clear x1 b2 q0 q1 q2 q3 X Y
    obtain ⟨p0, p1, p2, p3⟩ := x2.1.2.1.cells
    obtain ⟨q0, q1, q2, q3⟩ := x2.1.2.2.cells
    go_wp2_with fail
    refine (D.out _).mono ?_; rintro e w3 ⟨rfl, b3⟩
    have x3 := x2.after b3
    clear x2 b3 p0 p1 p2 p3 q0 q1 q2 q3
    go_wp2_with fail
    refine (A.out _).mono ?_; rintro e w4 ⟨rfl, b4⟩
    have x4 := x3.after b4
    clear x3 b4
    obtain ⟨e0, e1, e2, e3⟩ := x4.2.cells
    obtain ⟨g0, g1, g2, g3⟩ := x4.2.free
    have XE := Lib.hid (x4.set g)
    clear x4
    go_wp2_with fail
    exact bodyPost_ret (v := fV g) (by simp [results, Try.results65, go_sem, e0, e1, e2, e3]) rfl ⟨rfl, XE.out.1.1⟩

set_option maxRecDepth 100000 in
set_option maxHeartbeats 8000000 in
theorem rf_wide_off_mov (off : Int) (narrow : Bool) (kx ky : Bool) (hk : (kx && ky) = false) (x y : Fc) (w : World)
    (p : BitVec 64) (X : Hid (∀ w, Calls Try.prog 15 #[fV x] w (Gives (.tuple #[uV p, .bool kx]) w)))
    (q : BitVec 64) (Y : Hid (∀ w, Calls Try.prog 15 #[fV y] w (Gives (.tuple #[uV q, .bool ky]) w)))
    (ho : ¬ off = 0) (g : Fc) (A : Hid (∀ w, Calls Try.prog 22 #[] w (Gives (fV g) w))) :
    Calls Try.prog 65 #[.int .u8 176, .bool narrow, .int .i16 off, fV x, fV y] w (Gives (fV g) w) := by
  cases kx <;> cases ky
  case true.true => cases hk
  all_goals
    clear hk
    have hx := Lib.hid (FTri.new x y fZ w)
    go_enter Try.func65, Try.ntmps65
    go_wp2_with fail
    refine (X.out _).mono ?_; rintro e w1 ⟨rfl, b1⟩
    have x1 := hx.out.after b1
    clear hx b1
    obtain ⟨q0, q1, q2, q3⟩ := x1.1.2.2.cells
    go_wp2_with fail
    refine (Y.out _).mono ?_; rintro e w2 ⟨rfl, b2⟩
    have x2 := x1.after b2
    clear x1 b2 q0 q1 q2 q3 X Y
    obtain ⟨p0, p1, p2, p3⟩ := x2.1.2.1.cells
    obtain ⟨q0, q1, q2, q3⟩ := x2.1.2.2.cells
    go_wp2_with fail
    refine (A.out _).mono ?_; rintro e w3 ⟨rfl, b3⟩
    have x3 := x2.after b3
    clear x2 b3 p0 p1 p2 p3 q0 q1 q2 q3
    obtain ⟨e0, e1, e2, e3⟩ := x3.2.cells
    obtain ⟨g0, g1, g2, g3⟩ := x3.2.free
    have XE := Lib.hid (x3.set g)
    clear x3
    go_wp2_with fail
    exact bodyPost_ret (v := fV g) (by simp [results, Try.results65, go_sem, e0, e1, e2, e3]) rfl ⟨rfl, XE.out.1.1⟩

set_option maxRecDepth 100000 in
set_option maxHeartbeats 8000000 in
theorem rf_wide_off_div (off : Int) (narrow : Bool) (kx ky : Bool) (hk : (kx && ky) = false) (x y : Fc) (w : World)
    (p : BitVec 64) (X : Hid (∀ w, Calls Try.prog 15 #[fV x] w (Gives (.tuple #[uV p, .bool kx]) w)))
    (q : BitVec 64) (Y : Hid (∀ w, Calls Try.prog 15 #[fV y] w (Gives (.tuple #[uV q, .bool ky]) w)))
    (ho : ¬ off = 0) (g : Fc) (A : Hid (∀ w, Calls Try.prog 22 #[] w (Gives (fV g) w))) :
    Calls Try.prog 65 #[.int .u8 48, .bool narrow, .int .i16 off, fV x, fV y] w (Gives (fV g) w) := by
  cases kx <;> cases ky
  case true.true => cases hk
  all_goals
    clear hk
    have hx := Lib.hid (FTri.new x y fZ w)
    go_enter Try.func65, Try.ntmps65
    go_wp2_with fail
    refine (X.out _).mono ?_; rintro e w1 ⟨rfl, b1⟩
    have x1 := hx.out.after b1
    clear hx b1
    obtain ⟨q0, q1, q2, q3⟩ := x1.1.2.2.cells
    go_wp2_with fail
    refine (Y.out _).mono ?_; rintro e w2 ⟨rfl, b2⟩
    have x2 := x1.after b2
    clear x1 b2 q0 q1 q2 q3 X Y
    obtain ⟨p0, p1, p2, p3⟩ := x2.1.2.1.cells
    obtain ⟨q0, q1, q2, q3⟩ := x2.1.2.2.cells
    go_wp2_with fail
    refine (A.out _).mono ?_; rintro e w3 ⟨rfl, b3⟩
    have x3 := x2.after b3
    clear x2 b3 p0 p1 p2 p3 q0 q1 q2 q3
    obtain ⟨e0, e1, e2, e3⟩ := x3.2.cells
    obtain ⟨g0, g1, g2, g3⟩ := x3.2.free
    have XE := Lib.hid (x3.set g)
    clear x3
    go_wp2_with fail
    exact bodyPost_ret (v := fV g) (by simp [results, Try.results65, go_sem, e0, e1, e2, e3]) rfl ⟨rfl, XE.out.1.1⟩

set_option maxRecDepth 100000 in
set_option maxHeartbeats 8000000 in
theorem rf_wide_off_mod (off : Int) (narrow : Bool) (kx ky : Bool) (hk : (kx && ky) = false) (x y : Fc) (w : World)
    (p : BitVec 64) (X : Hid (∀ w, Calls Try.prog 15 #[fV x] w (Gives (.tuple #[uV p, .bool kx]) w)))
    (q : BitVec 64) (Y : Hid (∀ w, Calls Try.prog 15 #[fV y] w (Gives (.tuple #[uV q, .bool ky]) w)))
    (ho : ¬ off = 0) (g : Fc) (A : Hid (∀ w, Calls Try.prog 22 #[] w (Gives (fV g) w))) :
    Calls Try.prog 65 #[.int .u8 144, .bool narrow, .int .i16 off, fV x, fV y] w (Gives (fV g) w) := by
  cases kx <;> cases ky
  case true.true => cases hk
  all_goals
    clear hk
    have hx := Lib.hid (FTri.new x y fZ w)
    go_enter Try.func65, Try.ntmps65
    go_wp2_with fail
    refine (X.out _).mono ?_; rintro e w1 ⟨rfl, b1⟩
    have x1 := hx.out.after b1
    clear hx b1
    obtain ⟨q0, q1, q2, q3⟩ := x1.1.2.2.cells
    go_wp2_with fail
    refine (Y.out _).mono ?_; rintro e w2 ⟨rfl, b2⟩
    have x2 := x1.after b2
    clear x1 b2 q0 q1 q2 q3 X Y
    obtain ⟨p0, p1, p2, p3⟩ := x2.1.2.1.cells
    obtain ⟨q0, q1, q2, q3⟩ := x2.1.2.2.cells
    go_wp2_with fail
    refine (A.out _).mono ?_; rintro e w3 ⟨rfl, b3⟩
    have x3 := x2.after b3
    clear x2 b3 p0 p1 p2 p3 q0 q1 q2 q3
    obtain ⟨e0, e1, e2, e3⟩ := x3.2.cells
    obtain ⟨g0, g1, g2, g3⟩ := x3.2.free
    have XE := Lib.hid (x3.set g)
    clear x3
    go_wp2_with fail
    exact bodyPost_ret (v := fV g) (by simp [results, Try.results65, go_sem, e0, e1, e2, e3]) rfl ⟨rfl, XE.out.1.1⟩

set_option maxRecDepth 100000 in
set_option maxHeartbeats 8000000 in
theorem rf_wide_div0 (narrow : Bool) (x y : Fc) (w : World)
    (p : BitVec 64) (X : Hid (∀ w, Calls Try.prog 15 #[fV x] w (Gives (.tuple #[uV p, .bool false]) w)))
    (q : BitVec 64) (Y : Hid (∀ w, Calls Try.prog 15 #[fV y] w (Gives (.tuple #[uV q, .bool true]) w)))
    (hq : ((q.toNat : Int) == 0) = true) (g : Fc) (A : Hid (∀ w, Calls Try.prog 20 #[.int .u64 0] w (Gives (fV g) w))) :
    Calls Try.prog 65 #[.int .u8 48, .bool narrow, .int .i16 0, fV x, fV y] w (Gives (fV g) w) := by
  all_goals
    have hx := Lib.hid (FTri.new x y fZ w)
    go_enter Try.func65, Try.ntmps65
    go_wp2_with fail
    refine (X.out _).mono ?_; rintro e w1 ⟨rfl, b1⟩
    have x1 := hx.out.after b1
    clear hx b1
    obtain ⟨q0, q1, q2, q3⟩ := x1.1.2.2.cells
    go_wp2_with fail
    refine (Y.out _).mono ?_; rintro e w2 ⟨rfl, b2⟩
    have x2 := x1.after b2
    clear x1 b2 q0 q1 q2 q3 X Y
    obtain ⟨p0, p1, p2, p3⟩ := x2.1.2.1.cells
    obtain ⟨q0, q1, q2, q3⟩ := x2.1.2.2.cells
    go_wp2_with fail
    refine (A.out _).mono ?_; rintro e w3 ⟨rfl, b3⟩
    have x3 := x2.after b3
    clear x2 b3 p0 p1 p2 p3 q0 q1 q2 q3
    obtain ⟨e0, e1, e2, e3⟩ := x3.2.cells
    obtain ⟨g0, g1, g2, g3⟩ := x3.2.free
    have XE := Lib.hid (x3.set g)
    clear x3
    go_wp2_with fail
    exact bodyPost_ret (v := fV g) (by simp [results, Try.results65, go_sem, e0, e1, e2, e3]) rfl ⟨rfl, XE.out.1.1⟩

set_option maxRecDepth 100000 in
set_option maxHeartbeats 8000000 in
theorem rf_wide_mod0 (narrow : Bool) (x y : Fc) (w : World)
    (p : BitVec 64) (X : Hid (∀ w, Calls Try.prog 15 #[fV x] w (Gives (.tuple #[uV p, .bool false]) w)))
    (q : BitVec 64) (Y : Hid (∀ w, Calls Try.prog 15 #[fV y] w (Gives (.tuple #[uV q, .bool true]) w)))
    (hq : ((q.toNat : Int) == 0) = true) :
    Calls Try.prog 65 #[.int .u8 144, .bool narrow, .int .i16 0, fV x, fV y] w (Gives (fV x) w) := by
  all_goals
    have hx := Lib.hid (FTri.new x y fZ w)
    go_enter Try.func65, Try.ntmps65
    go_wp2_with fail
    refine (X.out _).mono ?_; rintro e w1 ⟨rfl, b1⟩
    have x1 := hx.out.after b1
    clear hx b1
    obtain ⟨q0, q1, q2, q3⟩ := x1.1.2.2.cells
    go_wp2_with fail
    refine (Y.out _).mono ?_; rintro e w2 ⟨rfl, b2⟩
    have x2 := x1.after b2
    clear x1 b2 q0 q1 q2 q3 X Y
    obtain ⟨p0, p1, p2, p3⟩ := x2.1.2.1.cells
    obtain ⟨q0, q1, q2, q3⟩ := x2.1.2.2.cells
    obtain ⟨e0, e1, e2, e3⟩ := x2.2.cells
    obtain ⟨g0, g1, g2, g3⟩ := x2.2.free
    have XE := Lib.hid (x2.set x)
    clear x2
    go_wp2_with fail
    exact bodyPost_ret (v := fV x) (by simp [results, Try.results65, go_sem, e0, e1, e2, e3]) rfl ⟨rfl, XE.out.1.1⟩

set_option maxRecDepth 100000 in
set_option maxHeartbeats 8000000 in
theorem rf_wide_lsh_no (narrow : Bool) (kx : Bool) (x y : Fc) (w : World)
    (p : BitVec 64) (X : Hid (∀ w, Calls Try.prog 15 #[fV x] w (Gives (.tuple #[uV p, .bool kx]) w)))
    (q : BitVec 64) (Y : Hid (∀ w, Calls Try.prog 15 #[fV y] w (Gives (.tuple #[uV q, .bool false]) w)))
    (g : Fc) (A : Hid (∀ w, Calls Try.prog 22 #[] w (Gives (fV g) w))) :
    Calls Try.prog 65 #[.int .u8 96, .bool narrow, .int .i16 0, fV x, fV y] w (Gives (fV g) w) := by
  cases kx
  all_goals
    have hx := Lib.hid (FTri.new x y fZ w)
    go_enter Try.func65, Try.ntmps65
    go_wp2_with fail
    refine (X.out _).mono ?_; rintro e w1 ⟨rfl, b1⟩
    have x1 := hx.out.after b1
    clear hx b1
    obtain ⟨q0, q1, q2, q3⟩ := x1.1.2.2.cells
    go_wp2_with fail
    refine (Y.out _).mono ?_; rintro e w2 ⟨rfl, b2⟩
    have x2 := x1.after b2
    clear x1 b2 q0 q1 q2 q3 X Y
    obtain ⟨p0, p1, p2, p3⟩ := x2.1.2.1.cells
    obtain ⟨q0, q1, q2, q3⟩ := x2.1.2.2.cells
    go_wp2_with fail
    refine (A.out _).mono ?_; rintro e w3 ⟨rfl, b3⟩
    have x3 := x2.after b3
    clear x2 b3 p0 p1 p2 p3 q0 q1 q2 q3
    obtain ⟨e0, e1, e2, e3⟩ := x3.2.cells
    obtain ⟨g0, g1, g2, g3⟩ := x3.2.free
    have XE := Lib.hid (x3.set g)
    clear x3
    go_wp2_with fail
    exact bodyPost_ret (v := fV g) (by simp [results, Try.results65, go_sem, e0, e1, e2, e3]) rfl ⟨rfl, XE.out.1.1⟩

set_option maxRecDepth 100000 in
set_option maxHeartbeats 8000000 in
theorem rf_wide_rsh_no (narrow : Bool) (kx : Bool) (x y : Fc) (w : World)
    (p : BitVec 64) (X : Hid (∀ w, Calls Try.prog 15 #[fV x] w (Gives (.tuple #[uV p, .bool kx]) w)))
    (q : BitVec 64) (Y : Hid (∀ w, Calls Try.prog 15 #[fV y] w (Gives (.tuple #[uV q, .bool false]) w)))
    (g : Fc) (A : Hid (∀ w, Calls Try.prog 22 #[] w (Gives (fV g) w))) :
    Calls Try.prog 65 #[.int .u8 112, .bool narrow, .int .i16 0, fV x, fV y] w (Gives (fV g) w) := by
  cases kx
  all_goals
    have hx := Lib.hid (FTri.new x y fZ w)
    go_enter Try.func65, Try.ntmps65
    go_wp2_with fail
    refine (X.out _).mono ?_; rintro e w1 ⟨rfl, b1⟩
    have x1 := hx.out.after b1
    clear hx b1
    obtain ⟨q0, q1, q2, q3⟩ := x1.1.2.2.cells
    go_wp2_with fail
    refine (Y.out _).mono ?_; rintro e w2 ⟨rfl, b2⟩
    have x2 := x1.after b2
    clear x1 b2 q0 q1 q2 q3 X Y
    obtain ⟨p0, p1, p2, p3⟩ := x2.1.2.1.cells
    obtain ⟨q0, q1, q2, q3⟩ := x2.1.2.2.cells
    go_wp2_with fail
    refine (A.out _).mono ?_; rintro e w3 ⟨rfl, b3⟩
    have x3 := x2.after b3
    clear x2 b3 p0 p1 p2 p3 q0 q1 q2 q3
    obtain ⟨e0, e1, e2, e3⟩ := x3.2.cells
    obtain ⟨g0, g1, g2, g3⟩ := x3.2.free
    have XE := Lib.hid (x3.set g)
    clear x3
    go_wp2_with fail
    exact bodyPost_ret (v := fV g) (by simp [results, Try.results65, go_sem, e0, e1, e2, e3]) rfl ⟨rfl, XE.out.1.1⟩

end Go.Proofs.Ytfepokiibdkoeaa


/-
  The document's own answers of layer 6: what is known of what arithmetic makes, ahead of the cut (2).
  Conditions: the numbers fit their kinds.
-/
namespace Go.Proofs.Ytfepokiibdkoeaa
open Go.RowKit
set_option linter.unusedVariables false

set_option maxRecDepth 100000 in
set_option maxHeartbeats 8000000 in
theorem rf_wide_add (narrow : Bool) (kx ky : Bool) (hk : (kx && ky) = false) (x y : Fc) (w : World)
    (p : BitVec 64) (X : Hid (∀ w, Calls Try.prog 15 #[fV x] w (Gives (.tuple #[uV p, .bool kx]) w)))
    (q : BitVec 64) (Y : Hid (∀ w, Calls Try.prog 15 #[fV y] w (Gives (.tuple #[uV q, .bool ky]) w)))
    (t : Tn) (D4 : Hid (∀ w, Calls Try.prog 95 #[.int .u8 0, tV x.1, tV y.1] w (Gives (tBV t true) w)))
    (s : Sp) (D5 : Hid (∀ w, Calls Try.prog 96 #[.int .u8 0, sV x.2, sV y.2] w (Gives (sV s) w)))
    (g : Fc) (S : Hid (∀ w, Calls Try.prog 50 #[tV t, sV s] w (Gives (fV g) w))) :
    Calls Try.prog 65 #[.int .u8 0, .bool narrow, .int .i16 0, fV x, fV y] w (Gives (fV g) w) := by
  cases kx <;> cases ky
  case true.true => cases hk
  all_goals
    clear hk
    have hx := Lib.hid (FTri.new x y fZ w)
    go_enter Try.func65, Try.ntmps65
    go_wp2_with fail
    refine (X.out _).mono ?_; rintro e w1 ⟨rfl, b1⟩
    have x1 := hx.out.after b1
    clear hx b1
    obtain ⟨q0, q1, q2, q3⟩ := x1.1.2.2.cells
    go_wp2_with fail
    refine (Y.out _).mono ?_; rintro e w2 ⟨rfl, b2⟩
    have x2 := x1.after b2
    clear x1 b2 q0 q1 q2 q3 X Y
    obtain ⟨p0, p1, p2, p3⟩ := x2.1.2.1.cells
    obtain ⟨q0, q1, q2, q3⟩ := x2.1.2.2.cells
    have x3 := x2
    clear x2
    go_wp2_with fail
    refine (D4.out _).mono ?_; rintro e w4 ⟨rfl, b4⟩
    have x4 := x3.after b4
    have TT := Lib.hid (Box.new w4 t rfl)
    have kgs : w4.heap.size ≠ w.heap.size + 1 + 1 := by have := x4.2.lt; omega
    have X5 := Lib.hid (x4.alloc (.cells #[uV t.1, uV t.2] 24))
    clear x3 b4 x4 p0 p1 p2 p3 q0 q1 q2 q3
    go_wp2_with fail
    generalize w4.heap.size = gs at *
    generalize w4.alloc (.cells #[uV t.1, uV t.2] 24) = w5 at *
    have HB : Below w5.heap.size w5 w5.drew := Below.drew (Below.refl _ _)
    have KK := Lib.hid (fun (wx : World) (hx : Below w5.heap.size w5 wx) => And.intro (TT.out.after hx).cells (And.intro (And.intro (X5.out.after hx).1.2.1.cells.2.2.1 (X5.out.after hx).1.2.1.cells.2.2.2) (And.intro (X5.out.after hx).1.2.2.cells.2.2.1 (X5.out.after hx).1.2.2.cells.2.2.2)))
    have KS := Lib.hid (fun (wx : World) (hx : Below w5.heap.size w5 wx) => And.intro ((((((TT.out.after hx).other (o := 0) (k := w.heap.size + 1 + 1) (uV g.1.1) kgs).other (o := 1) (k := w.heap.size + 1 + 1) (uV g.1.2) kgs).other (o := 2) (k := w.heap.size + 1 + 1) (.int .u64 g.2.1) kgs).other (o := 3) (k := w.heap.size + 1 + 1) (.int .u64 g.2.2) kgs)).cells (And.intro (And.intro ((X5.out.after hx).set g).1.2.1.cells.2.2.1 ((X5.out.after hx).set g).1.2.1.cells.2.2.2) (And.intro ((X5.out.after hx).set g).1.2.2.cells.2.2.1 ((X5.out.after hx).set g).1.2.2.cells.2.2.2)))
    have FR := Lib.hid (fun (wx : World) (hx : Below w5.heap.size w5 wx) => And.intro (X5.out.after hx).2.free (X5.out.after hx).2.cells)
    go_region_held3 (fun w' => (w'.cell? ⟨gs, 0, none⟩ = some (uV t.1) ∧ w'.cell? ⟨gs, 1, none⟩ = some (uV t.2)) ∧ (w'.cell? ⟨w.heap.size, 2, none⟩ = some (.int .u64 x.2.1) ∧ w'.cell? ⟨w.heap.size, 3, none⟩ = some (.int .u64 x.2.2)) ∧
        w'.cell? ⟨w.heap.size + 1, 2, none⟩ = some (.int .u64 y.2.1) ∧ w'.cell? ⟨w.heap.size + 1, 3, none⟩ = some (.int .u64 y.2.2))
      (first
        | exact KK.out _ HB
        | exact KK.out _ (Below.drew HB)
        | exact KS.out _ HB)
      (first
        | (go_at_call 96; refine (D5.out _).mono ?_; rintro e w6 ⟨rfl, hb6⟩; replace HB := below_next' HB hb6; clear hb6)
        | (go_at_call 50; refine (S.out _).mono ?_; rintro e w7 ⟨rfl, hb7⟩; replace HB := below_next' HB hb7; clear hb7; obtain ⟨⟨g0, g1, g2, g3⟩, e0, e1, e2, e3⟩ := FR.out _ HB))
    all_goals
      have XE := Lib.hid ((X5.out.after HB).set g)
      clear KK KS FR X5 TT
      go_wp2_with fail
      exact bodyPost_ret (v := fV g) (by simp [results, Try.results65, go_sem, e0, e1, e2, e3]) rfl ⟨rfl, XE.out.1.1⟩

set_option maxRecDepth 100000 in
set_option maxHeartbeats 8000000 in
theorem rf_wide_sub (narrow : Bool) (kx ky : Bool) (hk : (kx && ky) = false) (x y : Fc) (w : World)
    (p : BitVec 64) (X : Hid (∀ w, Calls Try.prog 15 #[fV x] w (Gives (.tuple #[uV p, .bool kx]) w)))
    (q : BitVec 64) (Y : Hid (∀ w, Calls Try.prog 15 #[fV y] w (Gives (.tuple #[uV q, .bool ky]) w)))
    (t : Tn) (D4 : Hid (∀ w, Calls Try.prog 95 #[.int .u8 16, tV x.1, tV y.1] w (Gives (tBV t true) w)))
    (s : Sp) (D5 : Hid (∀ w, Calls Try.prog 96 #[.int .u8 16, sV x.2, sV y.2] w (Gives (sV s) w)))
    (g : Fc) (S : Hid (∀ w, Calls Try.prog 50 #[tV t, sV s] w (Gives (fV g) w))) :
    Calls Try.prog 65 #[.int .u8 16, .bool narrow, .int .i16 0, fV x, fV y] w (Gives (fV g) w) := by
  cases kx <;> cases ky
  case true.true => cases hk
  all_goals
    clear hk
    have hx := Lib.hid (FTri.new x y fZ w)
    go_enter Try.func65, Try.ntmps65
    go_wp2_with fail
    refine (X.out _).mono ?_; rintro e w1 ⟨rfl, b1⟩
    have x1 := hx.out.after b1
    clear hx b1
    obtain ⟨q0, q1, q2, q3⟩ := x1.1.2.2.cells
    go_wp2_with fail
    refine (Y.out _).mono ?_; rintro e w2 ⟨rfl, b2⟩
    have x2 := x1.after b2
    clear x1 b2 q0 q1 q2 q3 X Y
    obtain ⟨p0, p1, p2, p3⟩ := x2.1.2.1.cells
    obtain ⟨q0, q1, q2, q3⟩ := x2.1.2.2.cells
    have x3 := x2
    clear x2
    go_wp2_with fail
    refine (D4.out _).mono ?_; rintro e w4 ⟨rfl, b4⟩
    have x4 := x3.after b4
    have TT := Lib.hid (Box.new w4 t rfl)
    have kgs : w4.heap.size ≠ w.heap.size + 1 + 1 := by have := x4.2.lt; omega
    have X5 := Lib.hid (x4.alloc (.cells #[uV t.1, uV t.2] 24))
    clear x3 b4 x4 p0 p1 p2 p3 q0 q1 q2 q3
    go_wp2_with fail
    generalize w4.heap.size = gs at *
    generalize w4.alloc (.cells #[uV t.1, uV t.2] 24) = w5 at *
    have HB : Below w5.heap.size w5 w5.drew := Below.drew (Below.refl _ _)
    have KK := Lib.hid (fun (wx : World) (hx : Below w5.heap.size w5 wx) => And.intro (TT.out.after hx).cells (And.intro (And.intro (X5.out.after hx).1.2.1.cells.2.2.1 (X5.out.after hx).1.2.1.cells.2.2.2) (And.intro (X5.out.after hx).1.2.2.cells.2.2.1 (X5.out.after hx).1.2.2.cells.2.2.2)))
    have KS := Lib.hid (fun (wx : World) (hx : Below w5.heap.size w5 wx) => And.intro ((((((TT.out.after hx).other (o := 0) (k := w.heap.size + 1 + 1) (uV g.1.1) kgs).other (o := 1) (k := w.heap.size + 1 + 1) (uV g.1.2) kgs).other (o := 2) (k := w.heap.size + 1 + 1) (.int .u64 g.2.1) kgs).other (o := 3) (k := w.heap.size + 1 + 1) (.int .u64 g.2.2) kgs)).cells (And.intro (And.intro ((X5.out.after hx).set g).1.2.1.cells.2.2.1 ((X5.out.after hx).set g).1.2.1.cells.2.2.2) (And.intro ((X5.out.after hx).set g).1.2.2.cells.2.2.1 ((X5.out.after hx).set g).1.2.2.cells.2.2.2)))
    have FR := Lib.hid (fun (wx : World) (hx : Below w5.heap.size w5 wx) => And.intro (X5.out.after hx).2.free (X5.out.after hx).2.cells)
    go_region_held3 (fun w' => (w'.cell? ⟨gs, 0, none⟩ = some (uV t.1) ∧ w'.cell? ⟨gs, 1, none⟩ = some (uV t.2)) ∧ (w'.cell? ⟨w.heap.size, 2, none⟩ = some (.int .u64 x.2.1) ∧ w'.cell? ⟨w.heap.size, 3, none⟩ = some (.int .u64 x.2.2)) ∧
        w'.cell? ⟨w.heap.size + 1, 2, none⟩ = some (.int .u64 y.2.1) ∧ w'.cell? ⟨w.heap.size + 1, 3, none⟩ = some (.int .u64 y.2.2))
      (first
        | exact KK.out _ HB
        | exact KK.out _ (Below.drew HB)
        | exact KS.out _ HB)
      (first
        | (go_at_call 96; refine (D5.out _).mono ?_; rintro e w6 ⟨rfl, hb6⟩; replace HB := below_next' HB hb6; clear hb6)
        | (go_at_call 50; refine (S.out _).mono ?_; rintro e w7 ⟨rfl, hb7⟩; replace HB := below_next' HB hb7; clear hb7; obtain ⟨⟨g0, g1, g2, g3⟩, e0, e1, e2, e3⟩ := FR.out _ HB))
    all_goals
      have XE := Lib.hid ((X5.out.after HB).set g)
      clear KK KS FR X5 TT
      go_wp2_with fail
      exact bodyPost_ret (v := fV g) (by simp [results, Try.results65, go_sem, e0, e1, e2, e3]) rfl ⟨rfl, XE.out.1.1⟩

end Go.Proofs.Ytfepokiibdkoeaa


/-
  The document's own answers of layer 6: what is known of what arithmetic makes, ahead of the cut (3).
  Conditions: the numbers fit their kinds.
-/
namespace Go.Proofs.Ytfepokiibdkoeaa
open Go.RowKit
set_option linter.unusedVariables false

set_option maxRecDepth 100000 in
set_option maxHeartbeats 8000000 in
theorem rf_wide_mul (narrow : Bool) (kx ky : Bool) (hk : (kx && ky) = false) (x y : Fc) (w : World)
    (p : BitVec 64) (X : Hid (∀ w, Calls Try.prog 15 #[fV x] w (Gives (.tuple #[uV p, .bool kx]) w)))
    (q : BitVec 64) (Y : Hid (∀ w, Calls Try.prog 15 #[fV y] w (Gives (.tuple #[uV q, .bool ky]) w)))
    (t : Tn) (D4 : Hid (∀ w, Calls Try.prog 95 #[.int .u8 32, tV x.1, tV y.1] w (Gives (tBV t true) w)))
    (s : Sp) (D5 : Hid (∀ w, Calls Try.prog 96 #[.int .u8 32, sV x.2, sV y.2] w (Gives (sV s) w)))
    (g : Fc) (S : Hid (∀ w, Calls Try.prog 50 #[tV t, sV s] w (Gives (fV g) w))) :
    Calls Try.prog 65 #[.int .u8 32, .bool narrow, .int .i16 0, fV x, fV y] w (Gives (fV g) w) := by
  cases kx <;> cases ky
  case true.true => cases hk
  all_goals
    clear hk
    have hx := Lib.hid (FTri.new x y fZ w)
    go_enter Try.func65, Try.ntmps65
    go_wp2_with fail
    refine (X.out _).mono ?_; rintro e w1 ⟨rfl, b1⟩
    have x1 := hx.out.after b1
    clear hx b1
    obtain ⟨q0, q1, q2, q3⟩ := x1.1.2.2.cells
    go_wp2_with fail
    refine (Y.out _).mono ?_; rintro e w2 ⟨rfl, b2⟩
    have x2 := x1.after b2
    clear x1 b2 q0 q1 q2 q3 X Y
    obtain ⟨p0, p1, p2, p3⟩ := x2.1.2.1.cells
    obtain ⟨q0, q1, q2, q3⟩ := x2.1.2.2.cells
    have x3 := x2
    clear x2
    go_wp2_with fail
    refine (D4.out _).mono ?_; rintro e w4 ⟨rfl, b4⟩
    have x4 := x3.after b4
    have TT := Lib.hid (Box.new w4 t rfl)
    have kgs : w4.heap.size ≠ w.heap.size + 1 + 1 := by have := x4.2.lt; omega
    have X5 := Lib.hid (x4.alloc (.cells #[uV t.1, uV t.2] 24))
    clear x3 b4 x4 p0 p1 p2 p3 q0 q1 q2 q3
    go_wp2_with fail
    generalize w4.heap.size = gs at *
    generalize w4.alloc (.cells #[uV t.1, uV t.2] 24) = w5 at *
    have HB : Below w5.heap.size w5 w5.drew := Below.drew (Below.refl _ _)
    have KK := Lib.hid (fun (wx : World) (hx : Below w5.heap.size w5 wx) => And.intro (TT.out.after hx).cells (And.intro (And.intro (X5.out.after hx).1.2.1.cells.2.2.1 (X5.out.after hx).1.2.1.cells.2.2.2) (And.intro (X5.out.after hx).1.2.2.cells.2.2.1 (X5.out.after hx).1.2.2.cells.2.2.2)))
    have KS := Lib.hid (fun (wx : World) (hx : Below w5.heap.size w5 wx) => And.intro ((((((TT.out.after hx).other (o := 0) (k := w.heap.size + 1 + 1) (uV g.1.1) kgs).other (o := 1) (k := w.heap.size + 1 + 1) (uV g.1.2) kgs).other (o := 2) (k := w.heap.size + 1 + 1) (.int .u64 g.2.1) kgs).other (o := 3) (k := w.heap.size + 1 + 1) (.int .u64 g.2.2) kgs)).cells (And.intro (And.intro ((X5.out.after hx).set g).1.2.1.cells.2.2.1 ((X5.out.after hx).set g).1.2.1.cells.2.2.2) (And.intro ((X5.out.after hx).set g).1.2.2.cells.2.2.1 ((X5.out.after hx).set g).1.2.2.cells.2.2.2)))
    have FR := Lib.hid (fun (wx : World) (hx : Below w5.heap.size w5 wx) => And.intro (X5.out.after hx).2.free (X5.out.after hx).2.cells)
    go_region_held3 (fun w' => (w'.cell? ⟨gs, 0, none⟩ = some (uV t.1) ∧ w'.cell? ⟨gs, 1, none⟩ = some (uV t.2)) ∧ (w'.cell? ⟨w.heap.size, 2, none⟩ = some (.int .u64 x.2.1) ∧ w'.cell? ⟨w.heap.size, 3, none⟩ = some (.int .u64 x.2.2)) ∧
        w'.cell? ⟨w.heap.size + 1, 2, none⟩ = some (.int .u64 y.2.1) ∧ w'.cell? ⟨w.heap.size + 1, 3, none⟩ = some (.int .u64 y.2.2))
      (first
        | exact KK.out _ HB
        | exact KK.out _ (Below.drew HB)
        | exact KS.out _ HB)
      (first
        | (go_at_call 96; refine (D5.out _).mono ?_; rintro e w6 ⟨rfl, hb6⟩; replace HB := below_next' HB hb6; clear hb6)
        | (go_at_call 50; refine (S.out _).mono ?_; rintro e w7 ⟨rfl, hb7⟩; replace HB := below_next' HB hb7; clear hb7; obtain ⟨⟨g0, g1, g2, g3⟩, e0, e1, e2, e3⟩ := FR.out _ HB))
    all_goals
      have XE := Lib.hid ((X5.out.after HB).set g)
      clear KK KS FR X5 TT
      go_wp2_with fail
      exact bodyPost_ret (v := fV g) (by simp [results, Try.results65, go_sem, e0, e1, e2, e3]) rfl ⟨rfl, XE.out.1.1⟩

set_option maxRecDepth 100000 in
set_option maxHeartbeats 8000000 in
theorem rf_wide_and (narrow : Bool) (kx ky : Bool) (hk : (kx && ky) = false) (x y : Fc) (w : World)
    (p : BitVec 64) (X : Hid (∀ w, Calls Try.prog 15 #[fV x] w (Gives (.tuple #[uV p, .bool kx]) w)))
    (q : BitVec 64) (Y : Hid (∀ w, Calls Try.prog 15 #[fV y] w (Gives (.tuple #[uV q, .bool ky]) w)))
    (t : Tn) (D4 : Hid (∀ w, Calls Try.prog 95 #[.int .u8 80, tV x.1, tV y.1] w (Gives (tBV t true) w)))
    (s : Sp) (D5 : Hid (∀ w, Calls Try.prog 96 #[.int .u8 80, sV x.2, sV y.2] w (Gives (sV s) w)))
    (g : Fc) (S : Hid (∀ w, Calls Try.prog 50 #[tV t, sV s] w (Gives (fV g) w))) :
    Calls Try.prog 65 #[.int .u8 80, .bool narrow, .int .i16 0, fV x, fV y] w (Gives (fV g) w) := by
  cases kx <;> cases ky
  case true.true => cases hk
  all_goals
    clear hk
    have hx := Lib.hid (FTri.new x y fZ w)
    go_enter Try.func65, Try.ntmps65
    go_wp2_with fail
    refine (X.out _).mono ?_; rintro e w1 ⟨rfl, b1⟩
    have x1 := hx.out.after b1
    clear hx b1
    obtain ⟨q0, q1, q2, q3⟩ := x1.1.2.2.cells
    go_wp2_with fail
    refine (Y.out _).mono ?_; rintro e w2 ⟨rfl, b2⟩
    have x2 := x1.after b2
    clear x1 b2 q0 q1 q2 q3 X Y
    obtain ⟨p0, p1, p2, p3⟩ := x2.1.2.1.cells
    obtain ⟨q0, q1, q2, q3⟩ := x2.1.2.2.cells
    have x3 := x2
    clear x2
    go_wp2_with fail
    refine (D4.out _).mono ?_; rintro e w4 ⟨rfl, b4⟩
    have x4 := x3.after b4
    have TT := Lib.hid (Box.new w4 t rfl)
    have kgs : w4.heap.size ≠ w.heap.size + 1 + 1 := by have := x4.2.lt; omega
    have X5 := Lib.hid (x4.alloc (.cells #[uV t.1, uV t.2] 24))
    clear x3 b4 x4 p0 p1 p2 p3 q0 q1 q2 q3
    go_wp2_with fail
    generalize w4.heap.size = gs at *
    generalize w4.alloc (.cells #[uV t.1, uV t.2] 24) = w5 at *
    have HB : Below w5.heap.size w5 w5.drew := Below.drew (Below.refl _ _)
    have KK := Lib.hid (fun (wx : World) (hx : Below w5.heap.size w5 wx) => And.intro (TT.out.after hx).cells (And.intro (And.intro (X5.out.after hx).1.2.1.cells.2.2.1 (X5.out.after hx).1.2.1.cells.2.2.2) (And.intro (X5.out.after hx).1.2.2.cells.2.2.1 (X5.out.after hx).1.2.2.cells.2.2.2)))
    have KS := Lib.hid (fun (wx : World) (hx : Below w5.heap.size w5 wx) => And.intro ((((((TT.out.after hx).other (o := 0) (k := w.heap.size + 1 + 1) (uV g.1.1) kgs).other (o := 1) (k := w.heap.size + 1 + 1) (uV g.1.2) kgs).other (o := 2) (k := w.heap.size + 1 + 1) (.int .u64 g.2.1) kgs).other (o := 3) (k := w.heap.size + 1 + 1) (.int .u64 g.2.2) kgs)).cells (And.intro (And.intro ((X5.out.after hx).set g).1.2.1.cells.2.2.1 ((X5.out.after hx).set g).1.2.1.cells.2.2.2) (And.intro ((X5.out.after hx).set g).1.2.2.cells.2.2.1 ((X5.out.after hx).set g).1.2.2.cells.2.2.2)))
    have FR := Lib.hid (fun (wx : World) (hx : Below w5.heap.size w5 wx) => And.intro (X5.out.after hx).2.free (X5.out.after hx).2.cells)
    go_region_held3 (fun w' => (w'.cell? ⟨gs, 0, none⟩ = some (uV t.1) ∧ w'.cell? ⟨gs, 1, none⟩ = some (uV t.2)) ∧ (w'.cell? ⟨w.heap.size, 2, none⟩ = some (.int .u64 x.2.1) ∧ w'.cell? ⟨w.heap.size, 3, none⟩ = some (.int .u64 x.2.2)) ∧
        w'.cell? ⟨w.heap.size + 1, 2, none⟩ = some (.int .u64 y.2.1) ∧ w'.cell? ⟨w.heap.size + 1, 3, none⟩ = some (.int .u64 y.2.2))
      (first
        | exact KK.out _ HB
        | exact KK.out _ (Below.drew HB)
        | exact KS.out _ HB)
      (first
        | (go_at_call 96; refine (D5.out _).mono ?_; rintro e w6 ⟨rfl, hb6⟩; replace HB := below_next' HB hb6; clear hb6)
        | (go_at_call 50; refine (S.out _).mono ?_; rintro e w7 ⟨rfl, hb7⟩; replace HB := below_next' HB hb7; clear hb7; obtain ⟨⟨g0, g1, g2, g3⟩, e0, e1, e2, e3⟩ := FR.out _ HB))
    all_goals
      have XE := Lib.hid ((X5.out.after HB).set g)
      clear KK KS FR X5 TT
      go_wp2_with fail
      exact bodyPost_ret (v := fV g) (by simp [results, Try.results65, go_sem, e0, e1, e2, e3]) rfl ⟨rfl, XE.out.1.1⟩

end Go.Proofs.Ytfepokiibdkoeaa


/-
  The document's own answers of layer 6: what is known of what arithmetic makes, ahead of the cut (4).
  Conditions: the numbers fit their kinds.
-/
namespace Go.Proofs.Ytfepokiibdkoeaa
open Go.RowKit
set_option linter.unusedVariables false

set_option maxRecDepth 100000 in
set_option maxHeartbeats 8000000 in
theorem rf_wide_or (narrow : Bool) (kx ky : Bool) (hk : (kx && ky) = false) (x y : Fc) (w : World)
    (p : BitVec 64) (X : Hid (∀ w, Calls Try.prog 15 #[fV x] w (Gives (.tuple #[uV p, .bool kx]) w)))
    (q : BitVec 64) (Y : Hid (∀ w, Calls Try.prog 15 #[fV y] w (Gives (.tuple #[uV q, .bool ky]) w)))
    (t : Tn) (D4 : Hid (∀ w, Calls Try.prog 95 #[.int .u8 64, tV x.1, tV y.1] w (Gives (tBV t true) w)))
    (s : Sp) (D5 : Hid (∀ w, Calls Try.prog 96 #[.int .u8 64, sV x.2, sV y.2] w (Gives (sV s) w)))
    (g : Fc) (S : Hid (∀ w, Calls Try.prog 50 #[tV t, sV s] w (Gives (fV g) w))) :
    Calls Try.prog 65 #[.int .u8 64, .bool narrow, .int .i16 0, fV x, fV y] w (Gives (fV g) w) := by
  cases kx <;> cases ky
  case true.true => cases hk
  all_goals
    clear hk
    have hx := Lib.hid (FTri.new x y fZ w)
    go_enter Try.func65, Try.ntmps65
    go_wp2_with fail
    refine (X.out _).mono ?_; rintro e w1 ⟨rfl, b1⟩
    have x1 := hx.out.after b1
    clear hx b1
    obtain ⟨q0, q1, q2, q3⟩ := x1.1.2.2.cells
    go_wp2_with fail
    refine (Y.out _).mono ?_; rintro e w2 ⟨rfl, b2⟩
    have x2 := x1.after b2
    clear x1 b2 q0 q1 q2 q3 X Y
    obtain ⟨p0, p1, p2, p3⟩ := x2.1.2.1.cells
    obtain ⟨q0, q1, q2, q3⟩ := x2.1.2.2.cells
    have x3 := x2
    clear x2
    go_wp2_with fail
    refine (D4.out _).mono ?_; rintro e w4 ⟨rfl, b4⟩
    have x4 := x3.after b4
    have TT := Lib.hid (Box.new w4 t rfl)
    have kgs : w4.heap.size ≠ w.heap.size + 1 + 1 := by have := x4.2.lt; omega
    have X5 := Lib.hid (x4.alloc (.cells #[uV t.1, uV t.2] 24))
    clear x3 b4 x4 p0 p1 p2 p3 q0 q1 q2 q3
    go_wp2_with fail
    generalize w4.heap.size = gs at *
    generalize w4.alloc (.cells #[uV t.1, uV t.2] 24) = w5 at *
    have HB : Below w5.heap.size w5 w5.drew := Below.drew (Below.refl _ _)
    have KK := Lib.hid (fun (wx : World) (hx : Below w5.heap.size w5 wx) => And.intro (TT.out.after hx).cells (And.intro (And.intro (X5.out.after hx).1.2.1.cells.2.2.1 (X5.out.after hx).1.2.1.cells.2.2.2) (And.intro (X5.out.after hx).1.2.2.cells.2.2.1 (X5.out.after hx).1.2.2.cells.2.2.2)))
    have KS := Lib.hid (fun (wx : World) (hx : Below w5.heap.size w5 wx) => And.intro ((((((TT.out.after hx).other (o := 0) (k := w.heap.size + 1 + 1) (uV g.1.1) kgs).other (o := 1) (k := w.heap.size + 1 + 1) (uV g.1.2) kgs).other (o := 2) (k := w.heap.size + 1 + 1) (.int .u64 g.2.1) kgs).other (o := 3) (k := w.heap.size + 1 + 1) (.int .u64 g.2.2) kgs)).cells (And.intro (And.intro ((X5.out.after hx).set g).1.2.1.cells.2.2.1 ((X5.out.after hx).set g).1.2.1.cells.2.2.2) (And.intro ((X5.out.after hx).set g).1.2.2.cells.2.2.1 ((X5.out.after hx).set g).1.2.2.cells.2.2.2)))
    have FR := Lib.hid (fun (wx : World) (hx : Below w5.heap.size w5 wx) => And.intro (X5.out.after hx).2.free (X5.out.after hx).2.cells)
    go_region_held3 (fun w' => (w'.cell? ⟨gs, 0, none⟩ = some (uV t.1) ∧ w'.cell? ⟨gs, 1, none⟩ = some (uV t.2)) ∧ (w'.cell? ⟨w.heap.size, 2, none⟩ = some (.int .u64 x.2.1) ∧ w'.cell? ⟨w.heap.size, 3, none⟩ = some (.int .u64 x.2.2)) ∧
        w'.cell? ⟨w.heap.size + 1, 2, none⟩ = some (.int .u64 y.2.1) ∧ w'.cell? ⟨w.heap.size + 1, 3, none⟩ = some (.int .u64 y.2.2))
      (first
        | exact KK.out _ HB
        | exact KK.out _ (Below.drew HB)
        | exact KS.out _ HB)
      (first
        | (go_at_call 96; refine (D5.out _).mono ?_; rintro e w6 ⟨rfl, hb6⟩; replace HB := below_next' HB hb6; clear hb6)
        | (go_at_call 50; refine (S.out _).mono ?_; rintro e w7 ⟨rfl, hb7⟩; replace HB := below_next' HB hb7; clear hb7; obtain ⟨⟨g0, g1, g2, g3⟩, e0, e1, e2, e3⟩ := FR.out _ HB))
    all_goals
      have XE := Lib.hid ((X5.out.after HB).set g)
      clear KK KS FR X5 TT
      go_wp2_with fail
      exact bodyPost_ret (v := fV g) (by simp [results, Try.results65, go_sem, e0, e1, e2, e3]) rfl ⟨rfl, XE.out.1.1⟩

set_option maxRecDepth 100000 in
set_option maxHeartbeats 8000000 in
theorem rf_wide_xor (narrow : Bool) (kx ky : Bool) (hk : (kx && ky) = false) (x y : Fc) (w : World)
    (p : BitVec 64) (X : Hid (∀ w, Calls Try.prog 15 #[fV x] w (Gives (.tuple #[uV p, .bool kx]) w)))
    (q : BitVec 64) (Y : Hid (∀ w, Calls Try.prog 15 #[fV y] w (Gives (.tuple #[uV q, .bool ky]) w)))
    (t : Tn) (D4 : Hid (∀ w, Calls Try.prog 95 #[.int .u8 160, tV x.1, tV y.1] w (Gives (tBV t true) w)))
    (s : Sp) (D5 : Hid (∀ w, Calls Try.prog 96 #[.int .u8 160, sV x.2, sV y.2] w (Gives (sV s) w)))
    (g : Fc) (S : Hid (∀ w, Calls Try.prog 50 #[tV t, sV s] w (Gives (fV g) w))) :
    Calls Try.prog 65 #[.int .u8 160, .bool narrow, .int .i16 0, fV x, fV y] w (Gives (fV g) w) := by
  cases kx <;> cases ky
  case true.true => cases hk
  all_goals
    clear hk
    have hx := Lib.hid (FTri.new x y fZ w)
    go_enter Try.func65, Try.ntmps65
    go_wp2_with fail
    refine (X.out _).mono ?_; rintro e w1 ⟨rfl, b1⟩
    have x1 := hx.out.after b1
    clear hx b1
    obtain ⟨q0, q1, q2, q3⟩ := x1.1.2.2.cells
    go_wp2_with fail
    refine (Y.out _).mono ?_; rintro e w2 ⟨rfl, b2⟩
    have x2 := x1.after b2
    clear x1 b2 q0 q1 q2 q3 X Y
    obtain ⟨p0, p1, p2, p3⟩ := x2.1.2.1.cells
    obtain ⟨q0, q1, q2, q3⟩ := x2.1.2.2.cells
    have x3 := x2
    clear x2
    go_wp2_with fail
    refine (D4.out _).mono ?_; rintro e w4 ⟨rfl, b4⟩
    have x4 := x3.after b4
    have TT := Lib.hid (Box.new w4 t rfl)
    have kgs : w4.heap.size ≠ w.heap.size + 1 + 1 := by have := x4.2.lt; omega
    have X5 := Lib.hid (x4.alloc (.cells #[uV t.1, uV t.2] 24))
    clear x3 b4 x4 p0 p1 p2 p3 q0 q1 q2 q3
    go_wp2_with fail
    generalize w4.heap.size = gs at *
    generalize w4.alloc (.cells #[uV t.1, uV t.2] 24) = w5 at *
    have HB : Below w5.heap.size w5 w5.drew := Below.drew (Below.refl _ _)
    have KK := Lib.hid (fun (wx : World) (hx : Below w5.heap.size w5 wx) => And.intro (TT.out.after hx).cells (And.intro (And.intro (X5.out.after hx).1.2.1.cells.2.2.1 (X5.out.after hx).1.2.1.cells.2.2.2) (And.intro (X5.out.after hx).1.2.2.cells.2.2.1 (X5.out.after hx).1.2.2.cells.2.2.2)))
    have KS := Lib.hid (fun (wx : World) (hx : Below w5.heap.size w5 wx) => And.intro ((((((TT.out.after hx).other (o := 0) (k := w.heap.size + 1 + 1) (uV g.1.1) kgs).other (o := 1) (k := w.heap.size + 1 + 1) (uV g.1.2) kgs).other (o := 2) (k := w.heap.size + 1 + 1) (.int .u64 g.2.1) kgs).other (o := 3) (k := w.heap.size + 1 + 1) (.int .u64 g.2.2) kgs)).cells (And.intro (And.intro ((X5.out.after hx).set g).1.2.1.cells.2.2.1 ((X5.out.after hx).set g).1.2.1.cells.2.2.2) (And.intro ((X5.out.after hx).set g).1.2.2.cells.2.2.1 ((X5.out.after hx).set g).1.2.2.cells.2.2.2)))
    have FR := Lib.hid (fun (wx : World) (hx : Below w5.heap.size w5 wx) => And.intro (X5.out.after hx).2.free (X5.out.after hx).2.cells)
    go_region_held3 (fun w' => (w'.cell? ⟨gs, 0, none⟩ = some (uV t.1) ∧ w'.cell? ⟨gs, 1, none⟩ = some (uV t.2)) ∧ (w'.cell? ⟨w.heap.size, 2, none⟩ = some (.int .u64 x.2.1) ∧ w'.cell? ⟨w.heap.size, 3, none⟩ = some (.int .u64 x.2.2)) ∧
        w'.cell? ⟨w.heap.size + 1, 2, none⟩ = some (.int .u64 y.2.1) ∧ w'.cell? ⟨w.heap.size + 1, 3, none⟩ = some (.int .u64 y.2.2))
      (first
        | exact KK.out _ HB
        | exact KK.out _ (Below.drew HB)
        | exact KS.out _ HB)
      (first
        | (go_at_call 96; refine (D5.out _).mono ?_; rintro e w6 ⟨rfl, hb6⟩; replace HB := below_next' HB hb6; clear hb6)
        | (go_at_call 50; refine (S.out _).mono ?_; rintro e w7 ⟨rfl, hb7⟩; replace HB := below_next' HB hb7; clear hb7; obtain ⟨⟨g0, g1, g2, g3⟩, e0, e1, e2, e3⟩ := FR.out _ HB))
    all_goals
      have XE := Lib.hid ((X5.out.after HB).set g)
      clear KK KS FR X5 TT
      go_wp2_with fail
      exact bodyPost_ret (v := fV g) (by simp [results, Try.results65, go_sem, e0, e1, e2, e3]) rfl ⟨rfl, XE.out.1.1⟩

end Go.Proofs.Ytfepokiibdkoeaa


/-
  The document's own answers of layer 6: what is known of what arithmetic makes, ahead of the cut (5).
  Conditions: the numbers fit their kinds.
-/
namespace Go.Proofs.Ytfepokiibdkoeaa
open Go.RowKit
set_option linter.unusedVariables false

set_option maxRecDepth 100000 in
set_option maxHeartbeats 8000000 in
theorem rf_wide_div_no (narrow : Bool) (kx : Bool) (x y : Fc) (w : World)
    (p : BitVec 64) (X : Hid (∀ w, Calls Try.prog 15 #[fV x] w (Gives (.tuple #[uV p, .bool kx]) w)))
    (q : BitVec 64) (Y : Hid (∀ w, Calls Try.prog 15 #[fV y] w (Gives (.tuple #[uV q, .bool false]) w)))
    (t0 t : Tn) (D4 : Hid (∀ w, Calls Try.prog 95 #[.int .u8 48, tV x.1, tV y.1] w (Gives (tBV t0 false) w)))
    (sp : Sp) (A : Hid (∀ w, Calls Try.prog 22 #[] w (Gives (fV (t, sp)) w)))
    (s : Sp) (D5 : Hid (∀ w, Calls Try.prog 96 #[.int .u8 48, sV x.2, sV y.2] w (Gives (sV s) w)))
    (g : Fc) (S : Hid (∀ w, Calls Try.prog 50 #[tV t, sV s] w (Gives (fV g) w))) :
    Calls Try.prog 65 #[.int .u8 48, .bool narrow, .int .i16 0, fV x, fV y] w (Gives (fV g) w) := by
  cases kx
  all_goals
    have hx := Lib.hid (FTri.new x y fZ w)
    go_enter Try.func65, Try.ntmps65
    go_wp2_with fail
    refine (X.out _).mono ?_; rintro e w1 ⟨rfl, b1⟩
    have x1 := hx.out.after b1
    clear hx b1
    obtain ⟨q0, q1, q2, q3⟩ := x1.1.2.2.cells
    go_wp2_with fail
    refine (Y.out _).mono ?_; rintro e w2 ⟨rfl, b2⟩
    have x2 := x1.after b2
    clear x1 b2 q0 q1 q2 q3 X Y
    obtain ⟨p0, p1, p2, p3⟩ := x2.1.2.1.cells
    obtain ⟨q0, q1, q2, q3⟩ := x2.1.2.2.cells
    have x3 := x2
    clear x2
    go_wp2_with fail
    refine (D4.out _).mono ?_; rintro e w4 ⟨rfl, b4⟩
    have x4 := x3.after b4
    have T0 := Lib.hid (Box.new w4 t0 rfl)
    have kgs : w.heap.size + 1 + 1 < w4.heap.size := x4.2.lt
    have X4 := Lib.hid (x4.alloc (.cells #[uV t0.1, uV t0.2] 24))
    clear x3 b4 x4 p0 p1 p2 p3 q0 q1 q2 q3
    go_wp2_with fail
    generalize w4.heap.size = gs at *
    generalize w4.alloc (.cells #[uV t0.1, uV t0.2] 24) = w3 at *
    refine (A.out _).mono ?_; rintro e w8 ⟨rfl, b8⟩
    have x8 := X4.out.after b8
    have t8 := T0.out.after b8
    obtain ⟨c0, c1⟩ := t8.cells
    obtain ⟨h0, h1⟩ := t8.free
    have TT := Lib.hid (t8.set t)
    have X5 := Lib.hid (x8.far2 (k := gs) (by omega) (uV t.1) (uV t.2))
    clear X4 T0 b8 x8 t8
    replace kgs : gs ≠ w.heap.size + 1 + 1 := by omega
    have FL : ∀ w, (Instr.field 28 (.agg #[uV t.1, uV t.2, .int .u64 sp.1, .int .u64 sp.2]) 0).run Try.prog w = .ok (tV t) w := fun _ => rfl
    go_wp2_with fail
    clear FL
    clear c0 c1 h0 h1
    generalize (World.setCell (World.setCell w8 ⟨gs, 0, none⟩ (uV t.1)) ⟨gs, 1, none⟩ (uV t.2)) = w5 at *
    have HB : Below w5.heap.size w5 w5.drew := Below.drew (Below.refl _ _)
    have KK := Lib.hid (fun (wx : World) (hx : Below w5.heap.size w5 wx) => And.intro (TT.out.after hx).cells (And.intro (And.intro (X5.out.after hx).1.2.1.cells.2.2.1 (X5.out.after hx).1.2.1.cells.2.2.2) (And.intro (X5.out.after hx).1.2.2.cells.2.2.1 (X5.out.after hx).1.2.2.cells.2.2.2)))
    have KS := Lib.hid (fun (wx : World) (hx : Below w5.heap.size w5 wx) => And.intro ((((((TT.out.after hx).other (o := 0) (k := w.heap.size + 1 + 1) (uV g.1.1) kgs).other (o := 1) (k := w.heap.size + 1 + 1) (uV g.1.2) kgs).other (o := 2) (k := w.heap.size + 1 + 1) (.int .u64 g.2.1) kgs).other (o := 3) (k := w.heap.size + 1 + 1) (.int .u64 g.2.2) kgs)).cells (And.intro (And.intro ((X5.out.after hx).set g).1.2.1.cells.2.2.1 ((X5.out.after hx).set g).1.2.1.cells.2.2.2) (And.intro ((X5.out.after hx).set g).1.2.2.cells.2.2.1 ((X5.out.after hx).set g).1.2.2.cells.2.2.2)))
    have FR := Lib.hid (fun (wx : World) (hx : Below w5.heap.size w5 wx) => And.intro (X5.out.after hx).2.free (X5.out.after hx).2.cells)
    go_region_held3 (fun w' => (w'.cell? ⟨gs, 0, none⟩ = some (uV t.1) ∧ w'.cell? ⟨gs, 1, none⟩ = some (uV t.2)) ∧ (w'.cell? ⟨w.heap.size, 2, none⟩ = some (.int .u64 x.2.1) ∧ w'.cell? ⟨w.heap.size, 3, none⟩ = some (.int .u64 x.2.2)) ∧
        w'.cell? ⟨w.heap.size + 1, 2, none⟩ = some (.int .u64 y.2.1) ∧ w'.cell? ⟨w.heap.size + 1, 3, none⟩ = some (.int .u64 y.2.2))
      (first
        | exact KK.out _ HB
        | exact KK.out _ (Below.drew HB)
        | exact KS.out _ HB)
      (first
        | (go_at_call 96; refine (D5.out _).mono ?_; rintro e w6 ⟨rfl, hb6⟩; replace HB := below_next' HB hb6; clear hb6)
        | (go_at_call 50; refine (S.out _).mono ?_; rintro e w7 ⟨rfl, hb7⟩; replace HB := below_next' HB hb7; clear hb7; obtain ⟨⟨g0, g1, g2, g3⟩, e0, e1, e2, e3⟩ := FR.out _ HB))
    all_goals
      have XE := Lib.hid ((X5.out.after HB).set g)
      clear KK KS FR X5 TT
      go_wp2_with fail
      exact bodyPost_ret (v := fV g) (by simp [results, Try.results65, go_sem, e0, e1, e2, e3]) rfl ⟨rfl, XE.out.1.1⟩

set_option maxRecDepth 100000 in
set_option maxHeartbeats 8000000 in
theorem rf_wide_div_yes (narrow : Bool) (x y : Fc) (w : World)
    (p : BitVec 64) (X : Hid (∀ w, Calls Try.prog 15 #[fV x] w (Gives (.tuple #[uV p, .bool false]) w)))
    (q : BitVec 64) (Y : Hid (∀ w, Calls Try.prog 15 #[fV y] w (Gives (.tuple #[uV q, .bool true]) w)))
    (hq : ((q.toNat : Int) == 0) = false) (t0 t : Tn) (D4 : Hid (∀ w, Calls Try.prog 95 #[.int .u8 48, tV x.1, tV y.1] w (Gives (tBV t0 false) w)))
    (sp : Sp) (A : Hid (∀ w, Calls Try.prog 22 #[] w (Gives (fV (t, sp)) w)))
    (s : Sp) (D5 : Hid (∀ w, Calls Try.prog 96 #[.int .u8 48, sV x.2, sV y.2] w (Gives (sV s) w)))
    (g : Fc) (S : Hid (∀ w, Calls Try.prog 50 #[tV t, sV s] w (Gives (fV g) w))) :
    Calls Try.prog 65 #[.int .u8 48, .bool narrow, .int .i16 0, fV x, fV y] w (Gives (fV g) w) := by
  all_goals
    have hx := Lib.hid (FTri.new x y fZ w)
    go_enter Try.func65, Try.ntmps65
    go_wp2_with fail
    refine (X.out _).mono ?_; rintro e w1 ⟨rfl, b1⟩
    have x1 := hx.out.after b1
    clear hx b1
    obtain ⟨q0, q1, q2, q3⟩ := x1.1.2.2.cells
    go_wp2_with fail
    refine (Y.out _).mono ?_; rintro e w2 ⟨rfl, b2⟩
    have x2 := x1.after b2
    clear x1 b2 q0 q1 q2 q3 X Y
    obtain ⟨p0, p1, p2, p3⟩ := x2.1.2.1.cells
    obtain ⟨q0, q1, q2, q3⟩ := x2.1.2.2.cells
    have x3 := x2
    clear x2
    go_wp2_with fail
    refine (D4.out _).mono ?_; rintro e w4 ⟨rfl, b4⟩
    have x4 := x3.after b4
    have T0 := Lib.hid (Box.new w4 t0 rfl)
    have kgs : w.heap.size + 1 + 1 < w4.heap.size := x4.2.lt
    have X4 := Lib.hid (x4.alloc (.cells #[uV t0.1, uV t0.2] 24))
    clear x3 b4 x4 p0 p1 p2 p3 q0 q1 q2 q3
    go_wp2_with fail
    generalize w4.heap.size = gs at *
    generalize w4.alloc (.cells #[uV t0.1, uV t0.2] 24) = w3 at *
    refine (A.out _).mono ?_; rintro e w8 ⟨rfl, b8⟩
    have x8 := X4.out.after b8
    have t8 := T0.out.after b8
    obtain ⟨c0, c1⟩ := t8.cells
    obtain ⟨h0, h1⟩ := t8.free
    have TT := Lib.hid (t8.set t)
    have X5 := Lib.hid (x8.far2 (k := gs) (by omega) (uV t.1) (uV t.2))
    clear X4 T0 b8 x8 t8
    replace kgs : gs ≠ w.heap.size + 1 + 1 := by omega
    have FL : ∀ w, (Instr.field 28 (.agg #[uV t.1, uV t.2, .int .u64 sp.1, .int .u64 sp.2]) 0).run Try.prog w = .ok (tV t) w := fun _ => rfl
    go_wp2_with fail
    clear FL
    clear c0 c1 h0 h1
    generalize (World.setCell (World.setCell w8 ⟨gs, 0, none⟩ (uV t.1)) ⟨gs, 1, none⟩ (uV t.2)) = w5 at *
    have HB : Below w5.heap.size w5 w5.drew := Below.drew (Below.refl _ _)
    have KK := Lib.hid (fun (wx : World) (hx : Below w5.heap.size w5 wx) => And.intro (TT.out.after hx).cells (And.intro (And.intro (X5.out.after hx).1.2.1.cells.2.2.1 (X5.out.after hx).1.2.1.cells.2.2.2) (And.intro (X5.out.after hx).1.2.2.cells.2.2.1 (X5.out.after hx).1.2.2.cells.2.2.2)))
    have KS := Lib.hid (fun (wx : World) (hx : Below w5.heap.size w5 wx) => And.intro ((((((TT.out.after hx).other (o := 0) (k := w.heap.size + 1 + 1) (uV g.1.1) kgs).other (o := 1) (k := w.heap.size + 1 + 1) (uV g.1.2) kgs).other (o := 2) (k := w.heap.size + 1 + 1) (.int .u64 g.2.1) kgs).other (o := 3) (k := w.heap.size + 1 + 1) (.int .u64 g.2.2) kgs)).cells (And.intro (And.intro ((X5.out.after hx).set g).1.2.1.cells.2.2.1 ((X5.out.after hx).set g).1.2.1.cells.2.2.2) (And.intro ((X5.out.after hx).set g).1.2.2.cells.2.2.1 ((X5.out.after hx).set g).1.2.2.cells.2.2.2)))
    have FR := Lib.hid (fun (wx : World) (hx : Below w5.heap.size w5 wx) => And.intro (X5.out.after hx).2.free (X5.out.after hx).2.cells)
    go_region_held3 (fun w' => (w'.cell? ⟨gs, 0, none⟩ = some (uV t.1) ∧ w'.cell? ⟨gs, 1, none⟩ = some (uV t.2)) ∧ (w'.cell? ⟨w.heap.size, 2, none⟩ = some (.int .u64 x.2.1) ∧ w'.cell? ⟨w.heap.size, 3, none⟩ = some (.int .u64 x.2.2)) ∧
        w'.cell? ⟨w.heap.size + 1, 2, none⟩ = some (.int .u64 y.2.1) ∧ w'.cell? ⟨w.heap.size + 1, 3, none⟩ = some (.int .u64 y.2.2))
      (first
        | exact KK.out _ HB
        | exact KK.out _ (Below.drew HB)
        | exact KS.out _ HB)
      (first
        | (go_at_call 96; refine (D5.out _).mono ?_; rintro e w6 ⟨rfl, hb6⟩; replace HB := below_next' HB hb6; clear hb6)
        | (go_at_call 50; refine (S.out _).mono ?_; rintro e w7 ⟨rfl, hb7⟩; replace HB := below_next' HB hb7; clear hb7; obtain ⟨⟨g0, g1, g2, g3⟩, e0, e1, e2, e3⟩ := FR.out _ HB))
    all_goals
      have XE := Lib.hid ((X5.out.after HB).set g)
      clear KK KS FR X5 TT
      go_wp2_with fail
      exact bodyPost_ret (v := fV g) (by simp [results, Try.results65, go_sem, e0, e1, e2, e3]) rfl ⟨rfl, XE.out.1.1⟩

set_option maxRecDepth 100000 in
set_option maxHeartbeats 8000000 in
theorem rf_wide_mod_no (narrow : Bool) (kx : Bool) (x y : Fc) (w : World)
    (p : BitVec 64) (X : Hid (∀ w, Calls Try.prog 15 #[fV x] w (Gives (.tuple #[uV p, .bool kx]) w)))
    (q : BitVec 64) (Y : Hid (∀ w, Calls Try.prog 15 #[fV y] w (Gives (.tuple #[uV q, .bool false]) w)))
    (t0 t : Tn) (D4 : Hid (∀ w, Calls Try.prog 95 #[.int .u8 144, tV x.1, tV y.1] w (Gives (tBV t0 false) w)))
    (sp : Sp) (A : Hid (∀ w, Calls Try.prog 22 #[] w (Gives (fV (t, sp)) w)))
    (s : Sp) (D5 : Hid (∀ w, Calls Try.prog 96 #[.int .u8 144, sV x.2, sV y.2] w (Gives (sV s) w)))
    (g : Fc) (S : Hid (∀ w, Calls Try.prog 50 #[tV t, sV s] w (Gives (fV g) w))) :
    Calls Try.prog 65 #[.int .u8 144, .bool narrow, .int .i16 0, fV x, fV y] w (Gives (fV g) w) := by
  cases kx
  all_goals
    have hx := Lib.hid (FTri.new x y fZ w)
    go_enter Try.func65, Try.ntmps65
    go_wp2_with fail
    refine (X.out _).mono ?_; rintro e w1 ⟨rfl, b1⟩
    have x1 := hx.out.after b1
    clear hx b1
    obtain ⟨q0, q1, q2, q3⟩ := x1.1.2.2.cells
    go_wp2_with fail
    refine (Y.out _).mono ?_; rintro e w2 ⟨rfl, b2⟩
    have x2 := x1.after b2
    clear x1 b2 q0 q1 q2 q3 X Y
    obtain ⟨p0, p1, p2, p3⟩ := x2.1.2.1.cells
    obtain ⟨q0, q1, q2, q3⟩ := x2.1.2.2.cells
    have x3 := x2
    clear x2
    go_wp2_with fail
    refine (D4.out _).mono ?_; rintro e w4 ⟨rfl, b4⟩
    have x4 := x3.after b4
    have T0 := Lib.hid (Box.new w4 t0 rfl)
    have kgs : w.heap.size + 1 + 1 < w4.heap.size := x4.2.lt
    have X4 := Lib.hid (x4.alloc (.cells #[uV t0.1, uV t0.2] 24))
    clear x3 b4 x4 p0 p1 p2 p3 q0 q1 q2 q3
    go_wp2_with fail
    generalize w4.heap.size = gs at *
    generalize w4.alloc (.cells #[uV t0.1, uV t0.2] 24) = w3 at *
    refine (A.out _).mono ?_; rintro e w8 ⟨rfl, b8⟩
    have x8 := X4.out.after b8
    have t8 := T0.out.after b8
    obtain ⟨c0, c1⟩ := t8.cells
    obtain ⟨h0, h1⟩ := t8.free
    have TT := Lib.hid (t8.set t)
    have X5 := Lib.hid (x8.far2 (k := gs) (by omega) (uV t.1) (uV t.2))
    clear X4 T0 b8 x8 t8
    replace kgs : gs ≠ w.heap.size + 1 + 1 := by omega
    have FL : ∀ w, (Instr.field 28 (.agg #[uV t.1, uV t.2, .int .u64 sp.1, .int .u64 sp.2]) 0).run Try.prog w = .ok (tV t) w := fun _ => rfl
    go_wp2_with fail
    clear FL
    clear c0 c1 h0 h1
    generalize (World.setCell (World.setCell w8 ⟨gs, 0, none⟩ (uV t.1)) ⟨gs, 1, none⟩ (uV t.2)) = w5 at *
    have HB : Below w5.heap.size w5 w5.drew := Below.drew (Below.refl _ _)
    have KK := Lib.hid (fun (wx : World) (hx : Below w5.heap.size w5 wx) => And.intro (TT.out.after hx).cells (And.intro (And.intro (X5.out.after hx).1.2.1.cells.2.2.1 (X5.out.after hx).1.2.1.cells.2.2.2) (And.intro (X5.out.after hx).1.2.2.cells.2.2.1 (X5.out.after hx).1.2.2.cells.2.2.2)))
    have KS := Lib.hid (fun (wx : World) (hx : Below w5.heap.size w5 wx) => And.intro ((((((TT.out.after hx).other (o := 0) (k := w.heap.size + 1 + 1) (uV g.1.1) kgs).other (o := 1) (k := w.heap.size + 1 + 1) (uV g.1.2) kgs).other (o := 2) (k := w.heap.size + 1 + 1) (.int .u64 g.2.1) kgs).other (o := 3) (k := w.heap.size + 1 + 1) (.int .u64 g.2.2) kgs)).cells (And.intro (And.intro ((X5.out.after hx).set g).1.2.1.cells.2.2.1 ((X5.out.after hx).set g).1.2.1.cells.2.2.2) (And.intro ((X5.out.after hx).set g).1.2.2.cells.2.2.1 ((X5.out.after hx).set g).1.2.2.cells.2.2.2)))
    have FR := Lib.hid (fun (wx : World) (hx : Below w5.heap.size w5 wx) => And.intro (X5.out.after hx).2.free (X5.out.after hx).2.cells)
    go_region_held3 (fun w' => (w'.cell? ⟨gs, 0, none⟩ = some (uV t.1) ∧ w'.cell? ⟨gs, 1, none⟩ = some (uV t.2)) ∧ (w'.cell? ⟨w.heap.size, 2, none⟩ = some (.int .u64 x.2.1) ∧ w'.cell? ⟨w.heap.size, 3, none⟩ = some (.int .u64 x.2.2)) ∧
        w'.cell? ⟨w.heap.size + 1, 2, none⟩ = some (.int .u64 y.2.1) ∧ w'.cell? ⟨w.heap.size + 1, 3, none⟩ = some (.int .u64 y.2.2))
      (first
        | exact KK.out _ HB
        | exact KK.out _ (Below.drew HB)
        | exact KS.out _ HB)
      (first
        | (go_at_call 96; refine (D5.out _).mono ?_; rintro e w6 ⟨rfl, hb6⟩; replace HB := below_next' HB hb6; clear hb6)
        | (go_at_call 50; refine (S.out _).mono ?_; rintro e w7 ⟨rfl, hb7⟩; replace HB := below_next' HB hb7; clear hb7; obtain ⟨⟨g0, g1, g2, g3⟩, e0, e1, e2, e3⟩ := FR.out _ HB))
    all_goals
      have XE := Lib.hid ((X5.out.after HB).set g)
      clear KK KS FR X5 TT
      go_wp2_with fail
      exact bodyPost_ret (v := fV g) (by simp [results, Try.results65, go_sem, e0, e1, e2, e3]) rfl ⟨rfl, XE.out.1.1⟩

set_option maxRecDepth 100000 in
set_option maxHeartbeats 8000000 in
theorem rf_wide_mod_yes (narrow : Bool) (x y : Fc) (w : World)
    (p : BitVec 64) (X : Hid (∀ w, Calls Try.prog 15 #[fV x] w (Gives (.tuple #[uV p, .bool false]) w)))
    (q : BitVec 64) (Y : Hid (∀ w, Calls Try.prog 15 #[fV y] w (Gives (.tuple #[uV q, .bool true]) w)))
    (hq : ((q.toNat : Int) == 0) = false) (t0 t : Tn) (D4 : Hid (∀ w, Calls Try.prog 95 #[.int .u8 144, tV x.1, tV y.1] w (Gives (tBV t0 false) w)))
    (sp : Sp) (A : Hid (∀ w, Calls Try.prog 22 #[] w (Gives (fV (t, sp)) w)))
    (s : Sp) (D5 : Hid (∀ w, Calls Try.prog 96 #[.int .u8 144, sV x.2, sV y.2] w (Gives (sV s) w)))
    (g : Fc) (S : Hid (∀ w, Calls Try.prog 50 #[tV t, sV s] w (Gives (fV g) w))) :
    Calls Try.prog 65 #[.int .u8 144, .bool narrow, .int .i16 0, fV x, fV y] w (Gives (fV g) w) := by
  all_goals
    have hx := Lib.hid (FTri.new x y fZ w)
    go_enter Try.func65, Try.ntmps65
    go_wp2_with fail
    refine (X.out _).mono ?_; rintro e w1 ⟨rfl, b1⟩
    have x1 := hx.out.after b1
    clear hx b1
    obtain ⟨q0, q1, q2, q3⟩ := x1.1.2.2.cells
    go_wp2_with fail
    refine (Y.out _).mono ?_; rintro e w2 ⟨rfl, b2⟩
    have x2 := x1.after b2
    clear x1 b2 q0 q1 q2 q3 X Y
    obtain ⟨p0, p1, p2, p3⟩ := x2.1.2.1.cells
    obtain ⟨q0, q1, q2, q3⟩ := x2.1.2.2.cells
    have x3 := x2
    clear x2
    go_wp2_with fail
    refine (D4.out _).mono ?_; rintro e w4 ⟨rfl, b4⟩
    have x4 := x3.after b4
    have T0 := Lib.hid (Box.new w4 t0 rfl)
    have kgs : w.heap.size + 1 + 1 < w4.heap.size := x4.2.lt
    have X4 := Lib.hid (x4.alloc (.cells #[uV t0.1, uV t0.2] 24))
    clear x3 b4 x4 p0 p1 p2 p3 q0 q1 q2 q3
    go_wp2_with fail
    generalize w4.heap.size = gs at *
    generalize w4.alloc (.cells #[uV t0.1, uV t0.2] 24) = w3 at *
    refine (A.out _).mono ?_; rintro e w8 ⟨rfl, b8⟩
    have x8 := X4.out.after b8
    have t8 := T0.out.after b8
    obtain ⟨c0, c1⟩ := t8.cells
    obtain ⟨h0, h1⟩ := t8.free
    have TT := Lib.hid (t8.set t)
    have X5 := Lib.hid (x8.far2 (k := gs) (by omega) (uV t.1) (uV t.2))
    clear X4 T0 b8 x8 t8
    replace kgs : gs ≠ w.heap.size + 1 + 1 := by omega
    have FL : ∀ w, (Instr.field 28 (.agg #[uV t.1, uV t.2, .int .u64 sp.1, .int .u64 sp.2]) 0).run Try.prog w = .ok (tV t) w := fun _ => rfl
    go_wp2_with fail
    clear FL
    clear c0 c1 h0 h1
    generalize (World.setCell (World.setCell w8 ⟨gs, 0, none⟩ (uV t.1)) ⟨gs, 1, none⟩ (uV t.2)) = w5 at *
    have HB : Below w5.heap.size w5 w5.drew := Below.drew (Below.refl _ _)
    have KK := Lib.hid (fun (wx : World) (hx : Below w5.heap.size w5 wx) => And.intro (TT.out.after hx).cells (And.intro (And.intro (X5.out.after hx).1.2.1.cells.2.2.1 (X5.out.after hx).1.2.1.cells.2.2.2) (And.intro (X5.out.after hx).1.2.2.cells.2.2.1 (X5.out.after hx).1.2.2.cells.2.2.2)))
    have KS := Lib.hid (fun (wx : World) (hx : Below w5.heap.size w5 wx) => And.intro ((((((TT.out.after hx).other (o := 0) (k := w.heap.size + 1 + 1) (uV g.1.1) kgs).other (o := 1) (k := w.heap.size + 1 + 1) (uV g.1.2) kgs).other (o := 2) (k := w.heap.size + 1 + 1) (.int .u64 g.2.1) kgs).other (o := 3) (k := w.heap.size + 1 + 1) (.int .u64 g.2.2) kgs)).cells (And.intro (And.intro ((X5.out.after hx).set g).1.2.1.cells.2.2.1 ((X5.out.after hx).set g).1.2.1.cells.2.2.2) (And.intro ((X5.out.after hx).set g).1.2.2.cells.2.2.1 ((X5.out.after hx).set g).1.2.2.cells.2.2.2)))
    have FR := Lib.hid (fun (wx : World) (hx : Below w5.heap.size w5 wx) => And.intro (X5.out.after hx).2.free (X5.out.after hx).2.cells)
    go_region_held3 (fun w' => (w'.cell? ⟨gs, 0, none⟩ = some (uV t.1) ∧ w'.cell? ⟨gs, 1, none⟩ = some (uV t.2)) ∧ (w'.cell? ⟨w.heap.size, 2, none⟩ = some (.int .u64 x.2.1) ∧ w'.cell? ⟨w.heap.size, 3, none⟩ = some (.int .u64 x.2.2)) ∧
        w'.cell? ⟨w.heap.size + 1, 2, none⟩ = some (.int .u64 y.2.1) ∧ w'.cell? ⟨w.heap.size + 1, 3, none⟩ = some (.int .u64 y.2.2))
      (first
        | exact KK.out _ HB
        | exact KK.out _ (Below.drew HB)
        | exact KS.out _ HB)
      (first
        | (go_at_call 96; refine (D5.out _).mono ?_; rintro e w6 ⟨rfl, hb6⟩; replace HB := below_next' HB hb6; clear hb6)
        | (go_at_call 50; refine (S.out _).mono ?_; rintro e w7 ⟨rfl, hb7⟩; replace HB := below_next' HB hb7; clear hb7; obtain ⟨⟨g0, g1, g2, g3⟩, e0, e1, e2, e3⟩ := FR.out _ HB))
    all_goals
      have XE := Lib.hid ((X5.out.after HB).set g)
      clear KK KS FR X5 TT
      go_wp2_with fail
      exact bodyPost_ret (v := fV g) (by simp [results, Try.results65, go_sem, e0, e1, e2, e3]) rfl ⟨rfl, XE.out.1.1⟩

end Go.Proofs.Ytfepokiibdkoeaa


/-
  The document's own answers of layer 6: what is known of what arithmetic makes, ahead of the cut (6).
  Conditions: the numbers fit their kinds.
-/
namespace Go.Proofs.Ytfepokiibdkoeaa
open Go.RowKit
set_option linter.unusedVariables false

set_option maxRecDepth 100000 in
set_option maxHeartbeats 8000000 in
theorem rf_wide_lsh_narrow (x y : Fc) (w : World)
    (p : BitVec 64) (X : Hid (∀ w, Calls Try.prog 15 #[fV x] w (Gives (.tuple #[uV p, .bool false]) w)))
    (q : BitVec 64) (Y : Hid (∀ w, Calls Try.prog 15 #[fV y] w (Gives (.tuple #[uV q, .bool true]) w)))
    (v : Fc) (z z0 : BitVec 64) (E64 : ((q.toNat : Int)).tmod 64 = (z0.toNat : Int)) (E : ((q.toNat : Int)).tmod 32 = (z.toNat : Int)) (O : Hid (∀ w, Calls Try.prog 20 #[uV z] w (Gives (fV v) w)))
    (t : Tn) (D4 : Hid (∀ w, Calls Try.prog 95 #[.int .u8 96, tV x.1, tV v.1] w (Gives (tBV t true) w)))
    (s : Sp) (D5 : Hid (∀ w, Calls Try.prog 96 #[.int .u8 96, sV x.2, sV v.2] w (Gives (sV s) w)))
    (g : Fc) (S : Hid (∀ w, Calls Try.prog 50 #[tV t, sV s] w (Gives (fV g) w))) :
    Calls Try.prog 65 #[.int .u8 96, .bool true, .int .i16 0, fV x, fV y] w (Gives (fV g) w) := by
  all_goals
    have hx := Lib.hid (FTri.new x y fZ w)
    go_enter Try.func65, Try.ntmps65
    go_wp2_with fail
    refine (X.out _).mono ?_; rintro e w1 ⟨rfl, b1⟩
    have x1 := hx.out.after b1
    clear hx b1
    obtain ⟨q0, q1, q2, q3⟩ := x1.1.2.2.cells
    go_wp2_with fail
    refine (Y.out _).mono ?_; rintro e w2 ⟨rfl, b2⟩
    have x2 := x1.after b2
    clear x1 b2 q0 q1 q2 q3 X Y
    obtain ⟨p0, p1, p2, p3⟩ := x2.1.2.1.cells
    obtain ⟨q0, q1, q2, q3⟩ := x2.1.2.2.cells
    go_wp2_with fail
    refine (O.out _).mono ?_; rintro e w9 ⟨rfl, b9⟩
    have x9 := x2.after b9
    clear x2 b9 p0 p1 p2 p3 q0 q1 q2 q3
    obtain ⟨p0, p1, p2, p3⟩ := x9.1.2.1.cells
    obtain ⟨q0, q1, q2, q3⟩ := x9.1.2.2.cells
    obtain ⟨f0, f1, f2, f3⟩ := x9.1.2.2.free
    have x3 := x9.setB v
    clear x9
    go_wp2_with fail
    refine (D4.out _).mono ?_; rintro e w4 ⟨rfl, b4⟩
    have x4 := x3.after b4
    have TT := Lib.hid (Box.new w4 t rfl)
    have kgs : w4.heap.size ≠ w.heap.size + 1 + 1 := by have := x4.2.lt; omega
    have X5 := Lib.hid (x4.alloc (.cells #[uV t.1, uV t.2] 24))
    clear x3 b4 x4 f0 f1 f2 f3 p0 p1 p2 p3 q0 q1 q2 q3
    go_wp2_with fail
    generalize w4.heap.size = gs at *
    generalize w4.alloc (.cells #[uV t.1, uV t.2] 24) = w5 at *
    have HB : Below w5.heap.size w5 w5.drew := Below.drew (Below.refl _ _)
    have KK := Lib.hid (fun (wx : World) (hx : Below w5.heap.size w5 wx) => And.intro (TT.out.after hx).cells (And.intro (And.intro (X5.out.after hx).1.2.1.cells.2.2.1 (X5.out.after hx).1.2.1.cells.2.2.2) (And.intro (X5.out.after hx).1.2.2.cells.2.2.1 (X5.out.after hx).1.2.2.cells.2.2.2)))
    have KS := Lib.hid (fun (wx : World) (hx : Below w5.heap.size w5 wx) => And.intro ((((((TT.out.after hx).other (o := 0) (k := w.heap.size + 1 + 1) (uV g.1.1) kgs).other (o := 1) (k := w.heap.size + 1 + 1) (uV g.1.2) kgs).other (o := 2) (k := w.heap.size + 1 + 1) (.int .u64 g.2.1) kgs).other (o := 3) (k := w.heap.size + 1 + 1) (.int .u64 g.2.2) kgs)).cells (And.intro (And.intro ((X5.out.after hx).set g).1.2.1.cells.2.2.1 ((X5.out.after hx).set g).1.2.1.cells.2.2.2) (And.intro ((X5.out.after hx).set g).1.2.2.cells.2.2.1 ((X5.out.after hx).set g).1.2.2.cells.2.2.2)))
    have FR := Lib.hid (fun (wx : World) (hx : Below w5.heap.size w5 wx) => And.intro (X5.out.after hx).2.free (X5.out.after hx).2.cells)
    go_region_held3 (fun w' => (w'.cell? ⟨gs, 0, none⟩ = some (uV t.1) ∧ w'.cell? ⟨gs, 1, none⟩ = some (uV t.2)) ∧ (w'.cell? ⟨w.heap.size, 2, none⟩ = some (.int .u64 x.2.1) ∧ w'.cell? ⟨w.heap.size, 3, none⟩ = some (.int .u64 x.2.2)) ∧
        w'.cell? ⟨w.heap.size + 1, 2, none⟩ = some (.int .u64 v.2.1) ∧ w'.cell? ⟨w.heap.size + 1, 3, none⟩ = some (.int .u64 v.2.2))
      (first
        | exact KK.out _ HB
        | exact KK.out _ (Below.drew HB)
        | exact KS.out _ HB)
      (first
        | (go_at_call 96; refine (D5.out _).mono ?_; rintro e w6 ⟨rfl, hb6⟩; replace HB := below_next' HB hb6; clear hb6)
        | (go_at_call 50; refine (S.out _).mono ?_; rintro e w7 ⟨rfl, hb7⟩; replace HB := below_next' HB hb7; clear hb7; obtain ⟨⟨g0, g1, g2, g3⟩, e0, e1, e2, e3⟩ := FR.out _ HB))
    all_goals
      have XE := Lib.hid ((X5.out.after HB).set g)
      clear KK KS FR X5 TT
      go_wp2_with fail
      exact bodyPost_ret (v := fV g) (by simp [results, Try.results65, go_sem, e0, e1, e2, e3]) rfl ⟨rfl, XE.out.1.1⟩

set_option maxRecDepth 100000 in
set_option maxHeartbeats 8000000 in
theorem rf_wide_lsh_wide (x y : Fc) (w : World)
    (p : BitVec 64) (X : Hid (∀ w, Calls Try.prog 15 #[fV x] w (Gives (.tuple #[uV p, .bool false]) w)))
    (q : BitVec 64) (Y : Hid (∀ w, Calls Try.prog 15 #[fV y] w (Gives (.tuple #[uV q, .bool true]) w)))
    (v : Fc) (z : BitVec 64) (E : ((q.toNat : Int)).tmod 64 = (z.toNat : Int)) (O : Hid (∀ w, Calls Try.prog 20 #[uV z] w (Gives (fV v) w)))
    (t : Tn) (D4 : Hid (∀ w, Calls Try.prog 95 #[.int .u8 96, tV x.1, tV v.1] w (Gives (tBV t true) w)))
    (s : Sp) (D5 : Hid (∀ w, Calls Try.prog 96 #[.int .u8 96, sV x.2, sV v.2] w (Gives (sV s) w)))
    (g : Fc) (S : Hid (∀ w, Calls Try.prog 50 #[tV t, sV s] w (Gives (fV g) w))) :
    Calls Try.prog 65 #[.int .u8 96, .bool false, .int .i16 0, fV x, fV y] w (Gives (fV g) w) := by
  all_goals
    have hx := Lib.hid (FTri.new x y fZ w)
    go_enter Try.func65, Try.ntmps65
    go_wp2_with fail
    refine (X.out _).mono ?_; rintro e w1 ⟨rfl, b1⟩
    have x1 := hx.out.after b1
    clear hx b1
    obtain ⟨q0, q1, q2, q3⟩ := x1.1.2.2.cells
    go_wp2_with fail
    refine (Y.out _).mono ?_; rintro e w2 ⟨rfl, b2⟩
    have x2 := x1.after b2
    clear x1 b2 q0 q1 q2 q3 X Y
    obtain ⟨p0, p1, p2, p3⟩ := x2.1.2.1.cells
    obtain ⟨q0, q1, q2, q3⟩ := x2.1.2.2.cells
    go_wp2_with fail
    refine (O.out _).mono ?_; rintro e w9 ⟨rfl, b9⟩
    have x9 := x2.after b9
    clear x2 b9 p0 p1 p2 p3 q0 q1 q2 q3
    obtain ⟨p0, p1, p2, p3⟩ := x9.1.2.1.cells
    obtain ⟨q0, q1, q2, q3⟩ := x9.1.2.2.cells
    obtain ⟨f0, f1, f2, f3⟩ := x9.1.2.2.free
    have x3 := x9.setB v
    clear x9
    go_wp2_with fail
    refine (D4.out _).mono ?_; rintro e w4 ⟨rfl, b4⟩
    have x4 := x3.after b4
    have TT := Lib.hid (Box.new w4 t rfl)
    have kgs : w4.heap.size ≠ w.heap.size + 1 + 1 := by have := x4.2.lt; omega
    have X5 := Lib.hid (x4.alloc (.cells #[uV t.1, uV t.2] 24))
    clear x3 b4 x4 f0 f1 f2 f3 p0 p1 p2 p3 q0 q1 q2 q3
    go_wp2_with fail
    generalize w4.heap.size = gs at *
    generalize w4.alloc (.cells #[uV t.1, uV t.2] 24) = w5 at *
    have HB : Below w5.heap.size w5 w5.drew := Below.drew (Below.refl _ _)
    have KK := Lib.hid (fun (wx : World) (hx : Below w5.heap.size w5 wx) => And.intro (TT.out.after hx).cells (And.intro (And.intro (X5.out.after hx).1.2.1.cells.2.2.1 (X5.out.after hx).1.2.1.cells.2.2.2) (And.intro (X5.out.after hx).1.2.2.cells.2.2.1 (X5.out.after hx).1.2.2.cells.2.2.2)))
    have KS := Lib.hid (fun (wx : World) (hx : Below w5.heap.size w5 wx) => And.intro ((((((TT.out.after hx).other (o := 0) (k := w.heap.size + 1 + 1) (uV g.1.1) kgs).other (o := 1) (k := w.heap.size + 1 + 1) (uV g.1.2) kgs).other (o := 2) (k := w.heap.size + 1 + 1) (.int .u64 g.2.1) kgs).other (o := 3) (k := w.heap.size + 1 + 1) (.int .u64 g.2.2) kgs)).cells (And.intro (And.intro ((X5.out.after hx).set g).1.2.1.cells.2.2.1 ((X5.out.after hx).set g).1.2.1.cells.2.2.2) (And.intro ((X5.out.after hx).set g).1.2.2.cells.2.2.1 ((X5.out.after hx).set g).1.2.2.cells.2.2.2)))
    have FR := Lib.hid (fun (wx : World) (hx : Below w5.heap.size w5 wx) => And.intro (X5.out.after hx).2.free (X5.out.after hx).2.cells)
    go_region_held3 (fun w' => (w'.cell? ⟨gs, 0, none⟩ = some (uV t.1) ∧ w'.cell? ⟨gs, 1, none⟩ = some (uV t.2)) ∧ (w'.cell? ⟨w.heap.size, 2, none⟩ = some (.int .u64 x.2.1) ∧ w'.cell? ⟨w.heap.size, 3, none⟩ = some (.int .u64 x.2.2)) ∧
        w'.cell? ⟨w.heap.size + 1, 2, none⟩ = some (.int .u64 v.2.1) ∧ w'.cell? ⟨w.heap.size + 1, 3, none⟩ = some (.int .u64 v.2.2))
      (first
        | exact KK.out _ HB
        | exact KK.out _ (Below.drew HB)
        | exact KS.out _ HB)
      (first
        | (go_at_call 96; refine (D5.out _).mono ?_; rintro e w6 ⟨rfl, hb6⟩; replace HB := below_next' HB hb6; clear hb6)
        | (go_at_call 50; refine (S.out _).mono ?_; rintro e w7 ⟨rfl, hb7⟩; replace HB := below_next' HB hb7; clear hb7; obtain ⟨⟨g0, g1, g2, g3⟩, e0, e1, e2, e3⟩ := FR.out _ HB))
    all_goals
      have XE := Lib.hid ((X5.out.after HB).set g)
      clear KK KS FR X5 TT
      go_wp2_with fail
      exact bodyPost_ret (v := fV g) (by simp [results, Try.results65, go_sem, e0, e1, e2, e3]) rfl ⟨rfl, XE.out.1.1⟩

end Go.Proofs.Ytfepokiibdkoeaa


/-
  The document's own answers of layer 6: what is known of what arithmetic makes, ahead of the cut (7).
  Conditions: the numbers fit their kinds.
-/
namespace Go.Proofs.Ytfepokiibdkoeaa
open Go.RowKit
set_option linter.unusedVariables false

set_option maxRecDepth 100000 in
set_option maxHeartbeats 8000000 in
theorem rf_wide_rsh_narrow (x y : Fc) (w : World)
    (p : BitVec 64) (X : Hid (∀ w, Calls Try.prog 15 #[fV x] w (Gives (.tuple #[uV p, .bool false]) w)))
    (q : BitVec 64) (Y : Hid (∀ w, Calls Try.prog 15 #[fV y] w (Gives (.tuple #[uV q, .bool true]) w)))
    (v : Fc) (z z0 : BitVec 64) (E64 : ((q.toNat : Int)).tmod 64 = (z0.toNat : Int)) (E : ((q.toNat : Int)).tmod 32 = (z.toNat : Int)) (O : Hid (∀ w, Calls Try.prog 20 #[uV z] w (Gives (fV v) w)))
    (t : Tn) (D4 : Hid (∀ w, Calls Try.prog 95 #[.int .u8 112, tV x.1, tV v.1] w (Gives (tBV t true) w)))
    (s : Sp) (D5 : Hid (∀ w, Calls Try.prog 96 #[.int .u8 112, sV x.2, sV v.2] w (Gives (sV s) w)))
    (g : Fc) (S : Hid (∀ w, Calls Try.prog 50 #[tV t, sV s] w (Gives (fV g) w))) :
    Calls Try.prog 65 #[.int .u8 112, .bool true, .int .i16 0, fV x, fV y] w (Gives (fV g) w) := by
  all_goals
    have hx := Lib.hid (FTri.new x y fZ w)
    go_enter Try.func65, Try.ntmps65
    go_wp2_with fail
    refine (X.out _).mono ?_; rintro e w1 ⟨rfl, b1⟩
    have x1 := hx.out.after b1
    clear hx b1
    obtain ⟨q0, q1, q2, q3⟩ := x1.1.2.2.cells
    go_wp2_with fail
    refine (Y.out _).mono ?_; rintro e w2 ⟨rfl, b2⟩
    have x2 := x1.after b2
    clear x1 b2 q0 q1 q2 q3 X Y
    obtain ⟨p0, p1, p2, p3⟩ := x2.1.2.1.cells
    obtain ⟨q0, q1, q2, q3⟩ := x2.1.2.2.cells
    go_wp2_with fail
    refine (O.out _).mono ?_; rintro e w9 ⟨rfl, b9⟩
    have x9 := x2.after b9
    clear x2 b9 p0 p1 p2 p3 q0 q1 q2 q3
    obtain ⟨p0, p1, p2, p3⟩ := x9.1.2.1.cells
    obtain ⟨q0, q1, q2, q3⟩ := x9.1.2.2.cells
    obtain ⟨f0, f1, f2, f3⟩ := x9.1.2.2.free
    have x3 := x9.setB v
    clear x9
    go_wp2_with fail
    refine (D4.out _).mono ?_; rintro e w4 ⟨rfl, b4⟩
    have x4 := x3.after b4
    have TT := Lib.hid (Box.new w4 t rfl)
    have kgs : w4.heap.size ≠ w.heap.size + 1 + 1 := by have := x4.2.lt; omega
    have X5 := Lib.hid (x4.alloc (.cells #[uV t.1, uV t.2] 24))
    clear x3 b4 x4 f0 f1 f2 f3 p0 p1 p2 p3 q0 q1 q2 q3
    go_wp2_with fail
    generalize w4.heap.size = gs at *
    generalize w4.alloc (.cells #[uV t.1, uV t.2] 24) = w5 at *
    have HB : Below w5.heap.size w5 w5.drew := Below.drew (Below.refl _ _)
    have KK := Lib.hid (fun (wx : World) (hx : Below w5.heap.size w5 wx) => And.intro (TT.out.after hx).cells (And.intro (And.intro (X5.out.after hx).1.2.1.cells.2.2.1 (X5.out.after hx).1.2.1.cells.2.2.2) (And.intro (X5.out.after hx).1.2.2.cells.2.2.1 (X5.out.after hx).1.2.2.cells.2.2.2)))
    have KS := Lib.hid (fun (wx : World) (hx : Below w5.heap.size w5 wx) => And.intro ((((((TT.out.after hx).other (o := 0) (k := w.heap.size + 1 + 1) (uV g.1.1) kgs).other (o := 1) (k := w.heap.size + 1 + 1) (uV g.1.2) kgs).other (o := 2) (k := w.heap.size + 1 + 1) (.int .u64 g.2.1) kgs).other (o := 3) (k := w.heap.size + 1 + 1) (.int .u64 g.2.2) kgs)).cells (And.intro (And.intro ((X5.out.after hx).set g).1.2.1.cells.2.2.1 ((X5.out.after hx).set g).1.2.1.cells.2.2.2) (And.intro ((X5.out.after hx).set g).1.2.2.cells.2.2.1 ((X5.out.after hx).set g).1.2.2.cells.2.2.2)))
    have FR := Lib.hid (fun (wx : World) (hx : Below w5.heap.size w5 wx) => And.intro (X5.out.after hx).2.free (X5.out.after hx).2.cells)
    go_region_held3 (fun w' => (w'.cell? ⟨gs, 0, none⟩ = some (uV t.1) ∧ w'.cell? ⟨gs, 1, none⟩ = some (uV t.2)) ∧ (w'.cell? ⟨w.heap.size, 2, none⟩ = some (.int .u64 x.2.1) ∧ w'.cell? ⟨w.heap.size, 3, none⟩ = some (.int .u64 x.2.2)) ∧
        w'.cell? ⟨w.heap.size + 1, 2, none⟩ = some (.int .u64 v.2.1) ∧ w'.cell? ⟨w.heap.size + 1, 3, none⟩ = some (.int .u64 v.2.2))
      (first
        | exact KK.out _ HB
        | exact KK.out _ (Below.drew HB)
        | exact KS.out _ HB)
      (first
        | (go_at_call 96; refine (D5.out _).mono ?_; rintro e w6 ⟨rfl, hb6⟩; replace HB := below_next' HB hb6; clear hb6)
        | (go_at_call 50; refine (S.out _).mono ?_; rintro e w7 ⟨rfl, hb7⟩; replace HB := below_next' HB hb7; clear hb7; obtain ⟨⟨g0, g1, g2, g3⟩, e0, e1, e2, e3⟩ := FR.out _ HB))
    all_goals
      have XE := Lib.hid ((X5.out.after HB).set g)
      clear KK KS FR X5 TT
      go_wp2_with fail
      exact bodyPost_ret (v := fV g) (by simp [results, Try.results65, go_sem, e0, e1, e2, e3]) rfl ⟨rfl, XE.out.1.1⟩

set_option maxRecDepth 100000 in
set_option maxHeartbeats 8000000 in
theorem rf_wide_rsh_wide (x y : Fc) (w : World)
    (p : BitVec 64) (X : Hid (∀ w, Calls Try.prog 15 #[fV x] w (Gives (.tuple #[uV p, .bool false]) w)))
    (q : BitVec 64) (Y : Hid (∀ w, Calls Try.prog 15 #[fV y] w (Gives (.tuple #[uV q, .bool true]) w)))
    (v : Fc) (z : BitVec 64) (E : ((q.toNat : Int)).tmod 64 = (z.toNat : Int)) (O : Hid (∀ w, Calls Try.prog 20 #[uV z] w (Gives (fV v) w)))
    (t : Tn) (D4 : Hid (∀ w, Calls Try.prog 95 #[.int .u8 112, tV x.1, tV v.1] w (Gives (tBV t true) w)))
    (s : Sp) (D5 : Hid (∀ w, Calls Try.prog 96 #[.int .u8 112, sV x.2, sV v.2] w (Gives (sV s) w)))
    (g : Fc) (S : Hid (∀ w, Calls Try.prog 50 #[tV t, sV s] w (Gives (fV g) w))) :
    Calls Try.prog 65 #[.int .u8 112, .bool false, .int .i16 0, fV x, fV y] w (Gives (fV g) w) := by
  all_goals
    have hx := Lib.hid (FTri.new x y fZ w)
    go_enter Try.func65, Try.ntmps65
    go_wp2_with fail
    refine (X.out _).mono ?_; rintro e w1 ⟨rfl, b1⟩
    have x1 := hx.out.after b1
    clear hx b1
    obtain ⟨q0, q1, q2, q3⟩ := x1.1.2.2.cells
    go_wp2_with fail
    refine (Y.out _).mono ?_; rintro e w2 ⟨rfl, b2⟩
    have x2 := x1.after b2
    clear x1 b2 q0 q1 q2 q3 X Y
    obtain ⟨p0, p1, p2, p3⟩ := x2.1.2.1.cells
    obtain ⟨q0, q1, q2, q3⟩ := x2.1.2.2.cells
    go_wp2_with fail
    refine (O.out _).mono ?_; rintro e w9 ⟨rfl, b9⟩
    have x9 := x2.after b9
    clear x2 b9 p0 p1 p2 p3 q0 q1 q2 q3
    obtain ⟨p0, p1, p2, p3⟩ := x9.1.2.1.cells
    obtain ⟨q0, q1, q2, q3⟩ := x9.1.2.2.cells
    obtain ⟨f0, f1, f2, f3⟩ := x9.1.2.2.free
    have x3 := x9.setB v
    clear x9
    go_wp2_with fail
    refine (D4.out _).mono ?_; rintro e w4 ⟨rfl, b4⟩
    have x4 := x3.after b4
    have TT := Lib.hid (Box.new w4 t rfl)
    have kgs : w4.heap.size ≠ w.heap.size + 1 + 1 := by have := x4.2.lt; omega
    have X5 := Lib.hid (x4.alloc (.cells #[uV t.1, uV t.2] 24))
    clear x3 b4 x4 f0 f1 f2 f3 p0 p1 p2 p3 q0 q1 q2 q3
    go_wp2_with fail
    generalize w4.heap.size = gs at *
    generalize w4.alloc (.cells #[uV t.1, uV t.2] 24) = w5 at *
    have HB : Below w5.heap.size w5 w5.drew := Below.drew (Below.refl _ _)
    have KK := Lib.hid (fun (wx : World) (hx : Below w5.heap.size w5 wx) => And.intro (TT.out.after hx).cells (And.intro (And.intro (X5.out.after hx).1.2.1.cells.2.2.1 (X5.out.after hx).1.2.1.cells.2.2.2) (And.intro (X5.out.after hx).1.2.2.cells.2.2.1 (X5.out.after hx).1.2.2.cells.2.2.2)))
    have KS := Lib.hid (fun (wx : World) (hx : Below w5.heap.size w5 wx) => And.intro ((((((TT.out.after hx).other (o := 0) (k := w.heap.size + 1 + 1) (uV g.1.1) kgs).other (o := 1) (k := w.heap.size + 1 + 1) (uV g.1.2) kgs).other (o := 2) (k := w.heap.size + 1 + 1) (.int .u64 g.2.1) kgs).other (o := 3) (k := w.heap.size + 1 + 1) (.int .u64 g.2.2) kgs)).cells (And.intro (And.intro ((X5.out.after hx).set g).1.2.1.cells.2.2.1 ((X5.out.after hx).set g).1.2.1.cells.2.2.2) (And.intro ((X5.out.after hx).set g).1.2.2.cells.2.2.1 ((X5.out.after hx).set g).1.2.2.cells.2.2.2)))
    have FR := Lib.hid (fun (wx : World) (hx : Below w5.heap.size w5 wx) => And.intro (X5.out.after hx).2.free (X5.out.after hx).2.cells)
    go_region_held3 (fun w' => (w'.cell? ⟨gs, 0, none⟩ = some (uV t.1) ∧ w'.cell? ⟨gs, 1, none⟩ = some (uV t.2)) ∧ (w'.cell? ⟨w.heap.size, 2, none⟩ = some (.int .u64 x.2.1) ∧ w'.cell? ⟨w.heap.size, 3, none⟩ = some (.int .u64 x.2.2)) ∧
        w'.cell? ⟨w.heap.size + 1, 2, none⟩ = some (.int .u64 v.2.1) ∧ w'.cell? ⟨w.heap.size + 1, 3, none⟩ = some (.int .u64 v.2.2))
      (first
        | exact KK.out _ HB
        | exact KK.out _ (Below.drew HB)
        | exact KS.out _ HB)
      (first
        | (go_at_call 96; refine (D5.out _).mono ?_; rintro e w6 ⟨rfl, hb6⟩; replace HB := below_next' HB hb6; clear hb6)
        | (go_at_call 50; refine (S.out _).mono ?_; rintro e w7 ⟨rfl, hb7⟩; replace HB := below_next' HB hb7; clear hb7; obtain ⟨⟨g0, g1, g2, g3⟩, e0, e1, e2, e3⟩ := FR.out _ HB))
    all_goals
      have XE := Lib.hid ((X5.out.after HB).set g)
      clear KK KS FR X5 TT
      go_wp2_with fail
      exact bodyPost_ret (v := fV g) (by simp [results, Try.results65, go_sem, e0, e1, e2, e3]) rfl ⟨rfl, XE.out.1.1⟩

end Go.Proofs.Ytfepokiibdkoeaa


/-
  The document's own answers of layer 6: what is known of what arithmetic makes, ahead of the cut (8).
  Conditions: the numbers fit their kinds.
-/
namespace Go.Proofs.Ytfepokiibdkoeaa
open Go.RowKit
set_option linter.unusedVariables false

set_option maxRecDepth 100000 in
set_option maxHeartbeats 8000000 in
theorem rf_wide_none (op : Int) (narrow : Bool) (kx ky : Bool) (hk : (kx && ky) = false) (x y : Fc) (w : World)
    (p : BitVec 64) (X : Hid (∀ w, Calls Try.prog 15 #[fV x] w (Gives (.tuple #[uV p, .bool kx]) w)))
    (q : BitVec 64) (Y : Hid (∀ w, Calls Try.prog 15 #[fV y] w (Gives (.tuple #[uV q, .bool ky]) w)))
    (n0 : ¬ op = 176) (n1 : ¬ op = 48) (n2 : ¬ op = 144) (n3 : ¬ op = 96) (n4 : ¬ op = 112) (n5 : ¬ op = 0) (n6 : ¬ op = 16) (n7 : ¬ op = 32) (n8 : ¬ op = 80) (n9 : ¬ op = 64) (n10 : ¬ op = 160) (g : Fc) (A : Hid (∀ w, Calls Try.prog 22 #[] w (Gives (fV g) w))) :
    Calls Try.prog 65 #[.int .u8 op, .bool narrow, .int .i16 0, fV x, fV y] w (Gives (fV g) w) := by
  cases kx <;> cases ky
  case true.true => cases hk
  all_goals
    clear hk
    have e0 := beq_eq_false_iff_ne.mpr n0
    have e1 := beq_eq_false_iff_ne.mpr n1
    have e2 := beq_eq_false_iff_ne.mpr n2
    have e3 := beq_eq_false_iff_ne.mpr n3
    have e4 := beq_eq_false_iff_ne.mpr n4
    have e5 := beq_eq_false_iff_ne.mpr n5
    have e6 := beq_eq_false_iff_ne.mpr n6
    have e7 := beq_eq_false_iff_ne.mpr n7
    have e8 := beq_eq_false_iff_ne.mpr n8
    have e9 := beq_eq_false_iff_ne.mpr n9
    have e10 := beq_eq_false_iff_ne.mpr n10
    have d5 := bne_iff_ne.mpr n5
    have d6 := bne_iff_ne.mpr n6
    have d7 := bne_iff_ne.mpr n7
    have d8 := bne_iff_ne.mpr n8
    have d9 := bne_iff_ne.mpr n9
    have d10 := bne_iff_ne.mpr n10
    have hx := Lib.hid (FTri.new x y fZ w)
    go_enter Try.func65, Try.ntmps65
    go_wp2_with fail
    refine (X.out _).mono ?_; rintro e w1 ⟨rfl, b1⟩
    have x1 := hx.out.after b1
    clear hx b1
    obtain ⟨q0, q1, q2, q3⟩ := x1.1.2.2.cells
    go_wp2_with fail
    refine (Y.out _).mono ?_; rintro e w2 ⟨rfl, b2⟩
    have x2 := x1.after b2
    clear x1 b2 q0 q1 q2 q3 X Y
    obtain ⟨p0, p1, p2, p3⟩ := x2.1.2.1.cells
    obtain ⟨q0, q1, q2, q3⟩ := x2.1.2.2.cells
    go_wp2_with fail
    refine (A.out _).mono ?_; rintro e w3 ⟨rfl, b3⟩
    have x3 := x2.after b3
    clear x2 b3 p0 p1 p2 p3 q0 q1 q2 q3
    obtain ⟨e0, e1, e2, e3⟩ := x3.2.cells
    obtain ⟨g0, g1, g2, g3⟩ := x3.2.free
    have XE := Lib.hid (x3.set g)
    clear x3
    go_wp2_with fail
    exact bodyPost_ret (v := fV g) (by simp [results, Try.results65, go_sem, e0, e1, e2, e3]) rfl ⟨rfl, XE.out.1.1⟩

end Go.Proofs.Ytfepokiibdkoeaa


/-
  The document's own answers of layer 6: what is known of what arithmetic makes, ahead of the cut: all its ways.
  Conditions: the numbers fit their kinds; the facts are settled; there is such arithmetic.
-/
namespace Go.Proofs.Ytfepokiibdkoeaa
open Go.RowKit
set_option linter.unusedVariables false

theorem tRR_fix {x y : Fc} (hx : fFix x) (hy : fFix y) : tRR x.1 y.1 = true := by
  unfold tRR
  rw [(fRR_iff.mp hx.1).1, (fRR_iff.mp hy.1).1]
  rfl
theorem fT_yes {op : Int} {a b : Tn} (h : tDok op a b = true) : fT op a b = tDo op a b := by unfold fT; rw [if_pos h]
theorem fT_no {op : Int} {a b : Tn} (h : tDok op a b = false) : fT op a b = fAny.1 := by unfold fT; rw [h]; rfl
theorem dok_six {op : Int} {a b : Tn} (h : tRR a b = true) (ho : op = 0 ∨ op = 16 ∨ op = 32 ∨ op = 80 ∨ op = 64 ∨ op = 160) : tDok op a b = true := by
  unfold tDok
  rw [h, Bool.true_and]
  rcases ho with rfl | rfl | rfl | rfl | rfl | rfl <;> rfl
theorem dok_div {op : Int} {a b : Tn} (ho : op = 48 ∨ op = 144) : tDok op a b = false := by
  unfold tDok
  rcases ho with rfl | rfl <;> (cases tRR a b <;> rfl)
theorem dok_shift {op : Int} {a : Tn} {z : BitVec 64} (h : tRR a (z, 0#64) = true) (hz : z.toNat < 64) (ho : op = 96 ∨ op = 112) : tDok op a (z, 0#64) = true := by
  have k : tKnown (z, 0#64) = true := by
    unfold tKnown
    simp [hz]
  unfold tDok
  rw [h, k, Bool.true_and]
  rcases ho with rfl | rfl <;> rfl

/-- What comes of both parts. -/
theorem rdo_yes {op : Int} {a b : Tn} (h : tDok op a b = true) (w : World) : Calls Try.prog 95 #[.int .u8 op, tV a, tV b] w (Gives (tBV (fT op a b) true) w) := by
  have k := rdo_says op a b w
  rw [h, ← fT_yes h] at k
  exact k
theorem rdo_no {op : Int} {a b : Tn} (h : tDok op a b = false) (w : World) : Calls Try.prog 95 #[.int .u8 op, tV a, tV b] w (Gives (tBV (tDo op a b) false) w) := by
  have k := rdo_says op a b w
  rw [h] at k
  exact k
theorem rf_of_int (v : Int) (h : In64 v) (w : World) : Calls Try.prog 20 #[.int .u64 v] w (Gives (fV (fOf (BitVec.ofInt 64 v))) w) := by
  have h1 := rf_of (BitVec.ofInt 64 v) w
  have e : uV (BitVec.ofInt 64 v) = .int .u64 v := by
    show Value.int .u64 ((BitVec.ofInt 64 v).toNat : Int) = _
    rw [ofInt_nat h]
  rw [e] at h1
  exact h1
theorem ref_below_did {op off v k : Int} {wide : Bool} {a b : Int} {w : World} (h : Calls Try.prog 36 #[.int .u8 op, .bool wide, .int .i16 off, .int .u64 a, .int .u64 b] w (Did v k w)) :
    Calls Try.prog 36 #[.int .u8 op, .bool wide, .int .i16 off, .int .u64 a, .int .u64 b] w (Gives (.tuple #[.int .u64 v, .int .i64 k]) w) := h.mono (by
  rintro e w' ⟨rfl, n, rfl⟩
  exact ⟨rfl, below_drewN (Below.refl _ _) n⟩)

theorem rf_wide (op off : Int) (narrow : Bool) (x y : Fc) (w : World) (hx : fFix x) (hy : fFix y) (ix : fIn x) (iy : fIn y) (he : aluE (!narrow) op off = 0) :
    Calls Try.prog 65 #[.int .u8 op, .bool narrow, .int .i16 off, fV x, fV y] w (Gives (fV (fW op narrow off x y)) w) := by
  have X := Lib.hid fun w => rf_known x w ix
  have Y := Lib.hid fun w => rf_known y w iy
  have hf := aluE_fits.mp he
  have A : Hid (∀ w, Calls Try.prog 22 #[] w (Gives (fV (fAny.1, fAny.2)) w)) := Lib.hid rf_any
  have RR := tRR_fix hx hy
  have hops := fits_ops hf
  have D5 : ∀ op (z : Fc), fIn z → Hid (∀ w, Calls Try.prog 96 #[.int .u8 op, sV x.2, sV z.2] w (Gives (sV (sDo op x.2 z.2)) w)) := fun op z hz => Lib.hid fun w => rsdo_says op x.2 z.2 w ix hz
  have S : ∀ op (z : Fc), fIn z → Hid (∀ w, Calls Try.prog 50 #[tV (fT op x.1 z.1), sV (sDo op x.2 z.2)] w (Gives (fV (fA op x z)) w)) := fun op z hz => Lib.hid fun w => rf_settled (fT op x.1 z.1) (sDo op x.2 z.2) w (sDo_in ix hz)
  unfold fW
  cases hk : (fK x && fK y)
  · rw [if_neg (by decide)]
    by_cases ho : off = 0
    · subst ho
      by_cases o1 : op = 176
      · rw [if_pos ⟨o1, rfl⟩]
        subst o1
        exact rf_wide_mov narrow _ _ hk x y w _ X _ Y
      rw [if_neg (fun h => o1 h.1)]
      by_cases o2 : op = 48 ∨ op = 144
      · have DN := dok_div (a := x.1) (b := y.1) o2
        by_cases hz : fK y = true ∧ fKv y = 0#64
        · have hkx : fK x = false := by rw [hz.1, Bool.and_true] at hk; exact hk
          rw [if_pos ⟨o2, rfl, hz.1, hz.2⟩]
          rw [hz.1] at Y
          rw [hkx] at X
          have hq : (((fKv y).toNat : Int) == 0) = true := by rw [hz.2]; decide
          rcases o2 with rfl | rfl
          · rw [if_pos rfl]
            exact rf_wide_div0 narrow x y w _ X _ Y hq _ (Lib.hid fun w => rf_of 0#64 w)
          · rw [if_neg (by decide)]
            exact rf_wide_mod0 narrow x y w _ X _ Y hq
        rw [if_neg (fun h => hz ⟨h.2.2.1, h.2.2.2⟩), if_neg (by omega), if_pos (by omega)]
        have SS := S op y iy
        rw [fT_no DN] at SS
        cases ky : fK y
        · rw [ky] at Y
          rcases o2 with rfl | rfl
          · exact rf_wide_div_no narrow _ x y w _ X _ Y _ _ (Lib.hid (rdo_no DN)) _ A _ (D5 48 y iy) _ SS
          · exact rf_wide_mod_no narrow _ x y w _ X _ Y _ _ (Lib.hid (rdo_no DN)) _ A _ (D5 144 y iy) _ SS
        · have hkx : fK x = false := by rw [ky, Bool.and_true] at hk; exact hk
          rw [hkx] at X
          have hq : (((fKv y).toNat : Int) == 0) = false := by
            rw [bv_eq0, beq_eq_false_iff_ne]
            exact fun h => hz ⟨ky, h⟩
          rw [ky] at Y
          rcases o2 with rfl | rfl
          · exact rf_wide_div_yes narrow x y w _ X _ Y hq _ _ (Lib.hid (rdo_no DN)) _ A _ (D5 48 y iy) _ SS
          · exact rf_wide_mod_yes narrow x y w _ X _ Y hq _ _ (Lib.hid (rdo_no DN)) _ A _ (D5 144 y iy) _ SS
      rw [if_neg (fun h => o2 h.1)]
      by_cases o4 : op = 96 ∨ op = 112
      · rw [if_pos o4]
        cases k : fK y
        · rw [k] at Y
          rw [if_neg (by decide)]
          rcases o4 with rfl | rfl
          · exact rf_wide_lsh_no narrow _ x y w _ X _ Y _ A
          · exact rf_wide_rsh_no narrow _ x y w _ X _ Y _ A
        · have hkx : fK x = false := by rw [k, Bool.and_true] at hk; exact hk
          rw [hkx] at X
          rw [k] at Y
          rw [if_pos rfl]
          have E := fShK_nat narrow (fKv y)
          have Z : (fShK narrow (fKv y)).toNat < 64 := by
            have h0 : (0 : Int) ≤ ((fKv y).toNat : Int) := by omega
            cases narrow
            · have e : ((fShK false (fKv y)).toNat : Int) = ((fKv y).toNat : Int) % 64 := E
              omega
            · have e : ((fShK true (fKv y)).toNat : Int) = ((fKv y).toNat : Int) % 32 := E
              omega
          have RZ : tRR x.1 (fShK narrow (fKv y), 0#64) = true := tRR_fix hx (fOf_fix (fShK narrow (fKv y)))
          have DY := dok_shift RZ Z o4
          have O := Lib.hid (rf_of (fShK narrow (fKv y)))
          have D4 := Lib.hid (rdo_yes DY)
          have DD := D5 op (fOf (fShK narrow (fKv y))) (fOf_in _)
          have SS := S op (fOf (fShK narrow (fKv y))) (fOf_in _)
          have E64 := fShK_nat false (fKv y)
          have t64 : ((fKv y).toNat : Int).tmod 64 = ((fShK false (fKv y)).toNat : Int) := by
            rw [Int.tmod_eq_emod_of_nonneg (by omega)]
            exact E64.symm
          cases narrow
          · rcases o4 with rfl | rfl
            · exact rf_wide_lsh_wide x y w _ X _ Y (fOf (fShK false (fKv y))) _ t64 O _ D4 _ DD _ SS
            · exact rf_wide_rsh_wide x y w _ X _ Y (fOf (fShK false (fKv y))) _ t64 O _ D4 _ DD _ SS
          · have t32 : ((fKv y).toNat : Int).tmod 32 = ((fShK true (fKv y)).toNat : Int) := by
              rw [Int.tmod_eq_emod_of_nonneg (by omega)]
              exact E.symm
            rcases o4 with rfl | rfl
            · exact rf_wide_lsh_narrow x y w _ X _ Y (fOf (fShK true (fKv y))) _ _ t64 t32 O _ D4 _ DD _ SS
            · exact rf_wide_rsh_narrow x y w _ X _ Y (fOf (fShK true (fKv y))) _ _ t64 t32 O _ D4 _ DD _ SS
      rw [if_neg o4]
      by_cases o5 : op = 0 ∨ op = 16 ∨ op = 32 ∨ op = 80 ∨ op = 64 ∨ op = 160
      · rw [if_pos (by omega)]
        have D4 := Lib.hid (rdo_yes (dok_six RR o5))
        have DD := D5 op y iy
        have SS := S op y iy
        rcases o5 with rfl | rfl | rfl | rfl | rfl | rfl
        · exact rf_wide_add narrow _ _ hk x y w _ X _ Y _ D4 _ DD _ SS
        · exact rf_wide_sub narrow _ _ hk x y w _ X _ Y _ D4 _ DD _ SS
        · exact rf_wide_mul narrow _ _ hk x y w _ X _ Y _ D4 _ DD _ SS
        · exact rf_wide_and narrow _ _ hk x y w _ X _ Y _ D4 _ DD _ SS
        · exact rf_wide_or narrow _ _ hk x y w _ X _ Y _ D4 _ DD _ SS
        · exact rf_wide_xor narrow _ _ hk x y w _ X _ Y _ D4 _ DD _ SS
      · rw [if_neg (by omega)]
        exact rf_wide_none op narrow _ _ hk x y w _ X _ Y (by omega) (by omega) (by omega) (by omega) (by omega) (by omega) (by omega) (by omega) (by omega) (by omega) (by omega) _ A
    · rw [if_neg (by omega), if_neg (by omega), if_neg (by omega), if_neg (by omega)]
      have h3 : op = 176 ∨ op = 48 ∨ op = 144 := by omega
      rcases h3 with rfl | rfl | rfl
      · exact rf_wide_off_mov off narrow _ _ hk x y w _ X _ Y ho _ A
      · exact rf_wide_off_div off narrow _ _ hk x y w _ X _ Y ho _ A
      · exact rf_wide_off_mod off narrow _ _ hk x y w _ X _ Y ho _ A
  · rw [if_pos rfl]
    obtain ⟨k1, k2⟩ := Bool.and_eq_true_iff.mp hk
    rw [k1] at X
    rw [k2] at Y
    exact rf_wide_both op off narrow x y w _ X _ Y _ _
      (Lib.hid fun w => ref_below_did (refdo_any op off _ _ (!narrow) w (bv_rng (fKv x)).1 (bv_rng (fKv x)).2 (bv_rng (fKv y)).1 (bv_rng (fKv y)).2))
      _ (Lib.hid fun w => rf_of_int _ (aluV_range (!narrow) op off _ _) w)

end Go.Proofs.Ytfepokiibdkoeaa


/-
  The document's own answers of layer 6: what is known of what arithmetic makes.
  Conditions: the numbers fit their kinds.
-/
namespace Go.Proofs.Ytfepokiibdkoeaa
open Go.RowKit
set_option linter.unusedVariables false

set_option maxRecDepth 100000 in
set_option maxHeartbeats 4000000 in
theorem rf_do_err (op off : Int) (wide : Bool) (a b : Fc) (v : Int) (w : World)
    (k : Int) (hk : (k != 0) = true) (D : Hid (∀ w, Calls Try.prog 36 #[.int .u8 op, .bool wide, .int .i16 off, .int .u64 0, .int .u64 0] w (Gives (.tuple #[.int .u64 v, .int .i64 k]) w))) :
    Calls Try.prog 32 #[.int .u8 op, .bool wide, .int .i16 off, fV a, fV b] w (Gives (fEV fZ 1) w) := by
  have hx := Lib.hid (FTri.new a b fZ w)
  go_enter Try.func32, Try.ntmps32
  go_wp2_with fail
  refine (D.out _).mono ?_; rintro e w1 ⟨rfl, b1⟩
  have x1 := hx.out.after b1
  clear hx b1
  obtain ⟨e0, e1, e2, e3⟩ := x1.2.cells
  obtain ⟨g0, g1, g2, g3⟩ := x1.2.free
  have XE := Lib.hid (x1.set fZ)
  clear x1
  go_wp2_with fail
  exact bodyPost_ret (v := fEV fZ 1) (by simp [results, Try.results32, go_sem, e0, e1, e2, e3, fZ]) rfl ⟨rfl, XE.out.1.1⟩

set_option maxRecDepth 100000 in
set_option maxHeartbeats 4000000 in
theorem rf_do_not1 (op off : Int) (wide : Bool) (a b : Fc) (v : Int) (w : World)
    (D : Hid (∀ w, Calls Try.prog 36 #[.int .u8 op, .bool wide, .int .i16 off, .int .u64 0, .int .u64 0] w (Gives (.tuple #[.int .u64 v, .int .i64 0]) w)))
    (R1 : Hid (∀ w, Calls Try.prog 18 #[fV a] w (Gives (.bool false) w))) :
    Calls Try.prog 32 #[.int .u8 op, .bool wide, .int .i16 off, fV a, fV b] w (Gives (fEV fZ 1) w) := by
  have hx := Lib.hid (FTri.new a b fZ w)
  go_enter Try.func32, Try.ntmps32
  go_wp2_with fail
  refine (D.out _).mono ?_; rintro e w1 ⟨rfl, b1⟩
  have x1 := hx.out.after b1
  clear hx b1
  obtain ⟨p0, p1, p2, p3⟩ := x1.1.2.1.cells
  obtain ⟨q0, q1, q2, q3⟩ := x1.1.2.2.cells
  go_wp2_with fail
  refine (R1.out _).mono ?_; rintro e w2 ⟨rfl, b2⟩
  have x2 := x1.after b2
  clear x1 b2 p0 p1 p2 p3 q0 q1 q2 q3
  obtain ⟨e0, e1, e2, e3⟩ := x2.2.cells
  obtain ⟨g0, g1, g2, g3⟩ := x2.2.free
  have XE := Lib.hid (x2.set fZ)
  clear x2
  go_wp2_with fail
  exact bodyPost_ret (v := fEV fZ 1) (by simp [results, Try.results32, go_sem, e0, e1, e2, e3, fZ]) rfl ⟨rfl, XE.out.1.1⟩

set_option maxRecDepth 100000 in
set_option maxHeartbeats 4000000 in
theorem rf_do_not2 (op off : Int) (wide : Bool) (a b : Fc) (v : Int) (w : World)
    (D : Hid (∀ w, Calls Try.prog 36 #[.int .u8 op, .bool wide, .int .i16 off, .int .u64 0, .int .u64 0] w (Gives (.tuple #[.int .u64 v, .int .i64 0]) w)))
    (R1 : Hid (∀ w, Calls Try.prog 18 #[fV a] w (Gives (.bool true) w)))
    (R2 : Hid (∀ w, Calls Try.prog 18 #[fV b] w (Gives (.bool false) w))) :
    Calls Try.prog 32 #[.int .u8 op, .bool wide, .int .i16 off, fV a, fV b] w (Gives (fEV fZ 1) w) := by
  have hx := Lib.hid (FTri.new a b fZ w)
  go_enter Try.func32, Try.ntmps32
  go_wp2_with fail
  refine (D.out _).mono ?_; rintro e w1 ⟨rfl, b1⟩
  have x1 := hx.out.after b1
  clear hx b1
  obtain ⟨p0, p1, p2, p3⟩ := x1.1.2.1.cells
  obtain ⟨q0, q1, q2, q3⟩ := x1.1.2.2.cells
  go_wp2_with fail
  refine (R1.out _).mono ?_; rintro e w2 ⟨rfl, b2⟩
  have x2 := x1.after b2
  clear x1 b2 p0 p1 p2 p3 q0 q1 q2 q3
  obtain ⟨p0, p1, p2, p3⟩ := x2.1.2.1.cells
  obtain ⟨q0, q1, q2, q3⟩ := x2.1.2.2.cells
  go_wp2_with fail
  refine (R2.out _).mono ?_; rintro e w3 ⟨rfl, b3⟩
  have x3 := x2.after b3
  clear x2 b3 p0 p1 p2 p3 q0 q1 q2 q3
  obtain ⟨e0, e1, e2, e3⟩ := x3.2.cells
  obtain ⟨g0, g1, g2, g3⟩ := x3.2.free
  have XE := Lib.hid (x3.set fZ)
  clear x3
  go_wp2_with fail
  exact bodyPost_ret (v := fEV fZ 1) (by simp [results, Try.results32, go_sem, e0, e1, e2, e3, fZ]) rfl ⟨rfl, XE.out.1.1⟩

set_option maxRecDepth 100000 in
set_option maxHeartbeats 4000000 in
theorem rf_do_wide (op off : Int) (a b : Fc) (v : Int) (w : World)
    (D : Hid (∀ w, Calls Try.prog 36 #[.int .u8 op, .bool true, .int .i16 off, .int .u64 0, .int .u64 0] w (Gives (.tuple #[.int .u64 v, .int .i64 0]) w)))
    (R1 : Hid (∀ w, Calls Try.prog 18 #[fV a] w (Gives (.bool true) w)))
    (R2 : Hid (∀ w, Calls Try.prog 18 #[fV b] w (Gives (.bool true) w)))
    (g : Fc) (M : Hid (∀ w, Calls Try.prog 65 #[.int .u8 op, .bool false, .int .i16 off, fV a, fV b] w (Gives (fV g) w))) :
    Calls Try.prog 32 #[.int .u8 op, .bool true, .int .i16 off, fV a, fV b] w (Gives (fEV g 0) w) := by
  have hx := Lib.hid (FTri.new a b fZ w)
  go_enter Try.func32, Try.ntmps32
  go_wp2_with fail
  refine (D.out _).mono ?_; rintro e w1 ⟨rfl, b1⟩
  have x1 := hx.out.after b1
  clear hx b1
  obtain ⟨p0, p1, p2, p3⟩ := x1.1.2.1.cells
  obtain ⟨q0, q1, q2, q3⟩ := x1.1.2.2.cells
  go_wp2_with fail
  refine (R1.out _).mono ?_; rintro e w2 ⟨rfl, b2⟩
  have x2 := x1.after b2
  clear x1 b2 p0 p1 p2 p3 q0 q1 q2 q3
  obtain ⟨p0, p1, p2, p3⟩ := x2.1.2.1.cells
  obtain ⟨q0, q1, q2, q3⟩ := x2.1.2.2.cells
  go_wp2_with fail
  refine (R2.out _).mono ?_; rintro e w3 ⟨rfl, b3⟩
  have x3 := x2.after b3
  clear x2 b3 p0 p1 p2 p3 q0 q1 q2 q3
  obtain ⟨p0, p1, p2, p3⟩ := x3.1.2.1.cells
  obtain ⟨q0, q1, q2, q3⟩ := x3.1.2.2.cells
  go_wp2_with fail
  refine (M.out _).mono ?_; rintro e w4 ⟨rfl, b4⟩
  have x4 := x3.after b4
  clear x3 b4 p0 p1 p2 p3 q0 q1 q2 q3
  obtain ⟨e0, e1, e2, e3⟩ := x4.2.cells
  obtain ⟨g0, g1, g2, g3⟩ := x4.2.free
  have XE := Lib.hid (x4.set g)
  clear x4
  go_wp2_with fail
  exact bodyPost_ret (v := fEV g 0) (by simp [results, Try.results32, go_sem, e0, e1, e2, e3]) rfl ⟨rfl, XE.out.1.1⟩

set_option maxRecDepth 100000 in
set_option maxHeartbeats 4000000 in
theorem rf_do_narrow (op off : Int) (a b : Fc) (v : Int) (w : World)
    (D : Hid (∀ w, Calls Try.prog 36 #[.int .u8 op, .bool false, .int .i16 off, .int .u64 0, .int .u64 0] w (Gives (.tuple #[.int .u64 v, .int .i64 0]) w)))
    (R1 : Hid (∀ w, Calls Try.prog 18 #[fV a] w (Gives (.bool true) w)))
    (R2 : Hid (∀ w, Calls Try.prog 18 #[fV b] w (Gives (.bool true) w)))
    (c d m g : Fc) (C1 : Hid (∀ w, Calls Try.prog 30 #[fV a] w (Gives (fV c) w)))
    (C2 : Hid (∀ w, Calls Try.prog 30 #[fV b] w (Gives (fV d) w)))
    (M : Hid (∀ w, Calls Try.prog 65 #[.int .u8 op, .bool true, .int .i16 off, fV c, fV d] w (Gives (fV m) w)))
    (C3 : Hid (∀ w, Calls Try.prog 30 #[fV m] w (Gives (fV g) w))) :
    Calls Try.prog 32 #[.int .u8 op, .bool false, .int .i16 off, fV a, fV b] w (Gives (fEV g 0) w) := by
  have hx := Lib.hid (FTri.new a b fZ w)
  go_enter Try.func32, Try.ntmps32
  go_wp2_with fail
  refine (D.out _).mono ?_; rintro e w1 ⟨rfl, b1⟩
  have x1 := hx.out.after b1
  clear hx b1
  obtain ⟨p0, p1, p2, p3⟩ := x1.1.2.1.cells
  obtain ⟨q0, q1, q2, q3⟩ := x1.1.2.2.cells
  go_wp2_with fail
  refine (R1.out _).mono ?_; rintro e w2 ⟨rfl, b2⟩
  have x2 := x1.after b2
  clear x1 b2 p0 p1 p2 p3 q0 q1 q2 q3
  obtain ⟨p0, p1, p2, p3⟩ := x2.1.2.1.cells
  obtain ⟨q0, q1, q2, q3⟩ := x2.1.2.2.cells
  go_wp2_with fail
  refine (R2.out _).mono ?_; rintro e w3 ⟨rfl, b3⟩
  have X2 := Lib.hid (x2.after b3)
  clear x2 b3 p0 p1 p2 p3 q0 q1 q2 q3
  go_wp2_with fail
  have HB : Below w3.heap.size w3 w3.drew := Below.drew (Below.refl _ _)
  have HC := Lib.hid (fun (wx : World) (hx : Below w3.heap.size w3 wx) => And.intro (X2.out.after hx).1.2.1.cells (X2.out.after hx).1.2.2.cells)
  have HF := Lib.hid (fun (wx : World) (hx : Below w3.heap.size w3 wx) => And.intro (X2.out.after hx).2.cells (X2.out.after hx).2.free)
  obtain ⟨⟨p0, p1, p2, p3⟩, q0, q1, q2, q3⟩ := HC.out _ HB
  obtain ⟨⟨e0, e1, e2, e3⟩, g0, g1, g2, g3⟩ := HF.out _ HB
  go_region_with (first
    | (go_at_call 65; refine (M.out _).mono ?_; rintro e w6 ⟨rfl, hb⟩; replace HB := below_next' HB hb; clear M hb p0 p1 p2 p3 q0 q1 q2 q3 e0 e1 e2 e3 g0 g1 g2 g3; obtain ⟨⟨p0, p1, p2, p3⟩, q0, q1, q2, q3⟩ := HC.out _ HB; obtain ⟨⟨e0, e1, e2, e3⟩, g0, g1, g2, g3⟩ := HF.out _ HB)
    | (go_at_call 30; refine (C1.out _).mono ?_; rintro e w7 ⟨rfl, hb⟩; replace HB := below_next' HB hb; clear C1 hb p0 p1 p2 p3 q0 q1 q2 q3 e0 e1 e2 e3 g0 g1 g2 g3; obtain ⟨⟨p0, p1, p2, p3⟩, q0, q1, q2, q3⟩ := HC.out _ HB; obtain ⟨⟨e0, e1, e2, e3⟩, g0, g1, g2, g3⟩ := HF.out _ HB)
    | (go_at_call 30; refine (C2.out _).mono ?_; rintro e w8 ⟨rfl, hb⟩; replace HB := below_next' HB hb; clear C2 hb p0 p1 p2 p3 q0 q1 q2 q3 e0 e1 e2 e3 g0 g1 g2 g3; obtain ⟨⟨p0, p1, p2, p3⟩, q0, q1, q2, q3⟩ := HC.out _ HB; obtain ⟨⟨e0, e1, e2, e3⟩, g0, g1, g2, g3⟩ := HF.out _ HB)
    | (go_at_call 30; refine (C3.out _).mono ?_; rintro e w9 ⟨rfl, hb⟩; replace HB := below_next' HB hb; clear C3 hb p0 p1 p2 p3 q0 q1 q2 q3 e0 e1 e2 e3 g0 g1 g2 g3; obtain ⟨⟨p0, p1, p2, p3⟩, q0, q1, q2, q3⟩ := HC.out _ HB; obtain ⟨⟨e0, e1, e2, e3⟩, g0, g1, g2, g3⟩ := HF.out _ HB))
  all_goals
    clear p0 p1 p2 p3 q0 q1 q2 q3
    have XE := Lib.hid ((X2.out.after HB).set g)
    clear X2 HC HF HB
    go_wp2_with fail
    exact bodyPost_ret (v := fEV g 0) (by simp [results, Try.results32, go_sem, e0, e1, e2, e3]) rfl ⟨rfl, XE.out.1.1⟩

theorem rf_do (op off : Int) (wide : Bool) (a b : Fc) (w : World) (ha : fIn a) (hb : fIn b) :
    Calls Try.prog 32 #[.int .u8 op, .bool wide, .int .i16 off, fV a, fV b] w (Gives (fEV (fDo op wide off a b) (fDe op wide off a b)) w) := by
  have D := Lib.hid fun w => ref_below_did (refdo_any op off 0 0 wide w (by decide) (by decide) (by decide) (by decide))
  have R1 := Lib.hid fun w => rf_right a w ha
  have R2 := Lib.hid fun w => rf_right b w hb
  unfold fDo fDe
  by_cases he : aluE wide op off = 0
  · rw [he] at D
    cases r1 : fR a
    · rw [r1] at R1
      have hn : ¬ (aluE wide op off = 0 ∧ false = true ∧ fR b = true) := fun h => by cases h.2.1
      rw [if_neg hn, if_neg hn]
      exact rf_do_not1 op off wide a b _ w D R1
    · rw [r1] at R1
      cases r2 : fR b
      · rw [r2] at R2
        have hn : ¬ (aluE wide op off = 0 ∧ true = true ∧ false = true) := fun h => by cases h.2.2
        rw [if_neg hn, if_neg hn]
        exact rf_do_not2 op off wide a b _ w D R1 R2
      · rw [r2] at R2
        have hc : aluE wide op off = 0 ∧ true = true ∧ true = true := ⟨he, rfl, rfl⟩
        rw [if_pos hc, if_pos hc]
        clear hc
        cases wide
        · rw [if_neg (by decide)]
          exact rf_do_narrow op off a b _ w D R1 R2 _ _ _ _ (Lib.hid fun w => rf_cut a w ha) (Lib.hid fun w => rf_cut b w hb)
            (Lib.hid fun w => rf_wide op off true (fC a) (fC b) w (fC_fix a) (fC_fix b) (fC_in ha) (fC_in hb) he)
            (Lib.hid fun w => rf_cut _ w (fW_in (fC_in ha) (fC_in hb)))
        · rw [if_pos rfl]
          exact rf_do_wide op off a b _ w D R1 R2 _ (Lib.hid fun w => rf_wide op off false a b w (fR_iff.mp r1) (fR_iff.mp r2) ha hb he)
  · have hn : ¬ (aluE wide op off = 0 ∧ fR a = true ∧ fR b = true) := fun h => he h.1
    rw [if_neg hn, if_neg hn]
    exact rf_do_err op off wide a b _ w _ (bne_iff_ne.mpr he) D

end Go.Proofs.Ytfepokiibdkoeaa

