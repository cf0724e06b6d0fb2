/-
  What span.Do answers, op by op.
  Conditions: the numbers fit their kinds.
-/
import Derived.Test.YtpnobkaeoiaelaaSpanLeaf
import Derived.Test.YtpnobkaeoiaelaaBits64
import Derived.Test.YtpnobkaeoiaelaaAluMath
namespace Go.Proofs.Ytpnobkaeoiaelaa
open Go.RowKit
set_option linter.unusedVariables false

set_option maxHeartbeats 1000000 in
theorem sadd_says (a b : Sp) (w : World) (ha : sIn a) (hb : sIn b) (ra : a.1 ≤ a.2) (rb : b.1 ≤ b.2) : Calls Try.prog 34 #[sV a, sV b] w (Gives (sV (sAdd a b)) w) := by
  have hx := Lib.hid (STrio.new a b w)
  have A := Lib.hid sall_says
  unfold sIn In64 at ha hb
  obtain ⟨⟨a1, a2⟩, a3, a4⟩ := ha
  obtain ⟨⟨b1, b2⟩, b3, b4⟩ := hb
  unfold sAdd
  by_cases h : a.2 + b.2 ≤ 18446744073709551615
  · rw [if_pos h]
    have H := Lib.hid fun w => add64_run a3 b3 (s := a.2 + b.2) (c := 0) (by omega) (by omega) w
    have k1 : 0 ≤ a.1 + b.1 := by omega
    have k2 : a.1 + b.1 ≤ 18446744073709551615 := by omega
    clear a1 a2 b1 b2 a3 a4 b3 b4 ra rb
    go_enter Try.func34, Try.ntmps34
    go_wp2_with (simp only [H.out])
    exact bodyPost_ret (v := sV (a.1 + b.1, a.2 + b.2)) (by simp [results, Try.results34, go_sem]) rfl ⟨rfl, below_alloc (below_alloc (below_alloc (Below.refl _ _) _) _) _⟩
  · rw [if_neg h]
    have H := Lib.hid fun w => add64_run a3 b3 (s := a.2 + b.2 - 18446744073709551616) (c := 1) (by omega) (by omega) w
    go_enter Try.func34, Try.ntmps34
    go_wp2_with (simp only [H.out])
    refine (A.out _).mono ?_; rintro e w1 ⟨rfl, b1⟩
    have x1 := hx.out.after b1
    obtain ⟨c0, c1⟩ := x1.2.cells
    obtain ⟨f0, f1⟩ := x1.2.free
    have X1 := Lib.hid (x1.set sAll)
    clear x1 hx b1
    go_wp2_with fail
    exact bodyPost_ret (v := sV sAll) (by simp [results, Try.results34, go_sem, c0, c1]) rfl ⟨rfl, X1.out.1.1⟩

set_option maxHeartbeats 1000000 in
theorem ssub_says (a b : Sp) (w : World) (ha : sIn a) (hb : sIn b) (ra : a.1 ≤ a.2) (rb : b.1 ≤ b.2) : Calls Try.prog 35 #[sV a, sV b] w (Gives (sV (sSub a b)) w) := by
  have hx := Lib.hid (STrio.new a b w)
  have A := Lib.hid sall_says
  unfold sIn In64 at ha hb
  obtain ⟨⟨a1, a2⟩, a3, a4⟩ := ha
  obtain ⟨⟨b1, b2⟩, b3, b4⟩ := hb
  unfold sSub
  by_cases h : b.2 ≤ a.1
  · rw [if_pos h]
    have H := Lib.hid fun w => sub64_run a1 b3 (s := a.1 - b.2) (c := 0) (by omega) b4 (by rw [if_neg (by omega)]) w
    have k1 : 0 ≤ a.2 - b.1 := by omega
    have k2 : a.2 - b.1 ≤ 18446744073709551615 := by omega
    clear a1 a2 b1 b2 a3 a4 b3 b4 ra rb
    go_enter Try.func35, Try.ntmps35
    go_wp2_with (simp only [H.out])
    exact bodyPost_ret (v := sV (a.1 - b.2, a.2 - b.1)) (by simp [results, Try.results35, go_sem]) rfl ⟨rfl, below_alloc (below_alloc (below_alloc (Below.refl _ _) _) _) _⟩
  · rw [if_neg h]
    have H := Lib.hid fun w => sub64_run a1 b3 (s := a.1 + 18446744073709551616 - b.2) (c := 1) (by omega) b4 (by rw [if_pos (by omega)]) w
    go_enter Try.func35, Try.ntmps35
    go_wp2_with (simp only [H.out])
    refine (A.out _).mono ?_; rintro e w1 ⟨rfl, b1⟩
    have x1 := hx.out.after b1
    obtain ⟨c0, c1⟩ := x1.2.cells
    obtain ⟨f0, f1⟩ := x1.2.free
    have X1 := Lib.hid (x1.set sAll)
    clear x1 hx b1
    go_wp2_with fail
    exact bodyPost_ret (v := sV sAll) (by simp [results, Try.results35, go_sem, c0, c1]) rfl ⟨rfl, X1.out.1.1⟩

set_option maxHeartbeats 1000000 in
theorem smul_says (a b : Sp) (w : World) (ha : sIn a) (hb : sIn b) (ra : a.1 ≤ a.2) (rb : b.1 ≤ b.2) : Calls Try.prog 36 #[sV a, sV b] w (Gives (sV (sMul a b)) w) := by
  have hx := Lib.hid (STrio.new a b w)
  have A := Lib.hid sall_says
  unfold sIn In64 at ha hb
  obtain ⟨⟨a1, a2⟩, a3, a4⟩ := ha
  obtain ⟨⟨b1, b2⟩, b3, b4⟩ := hb
  have m0 : 0 ≤ a.2 * b.2 := Int.mul_nonneg a3 b3
  unfold sMul
  by_cases h : a.2 * b.2 ≤ 18446744073709551615
  · rw [if_pos h]
    have M := Lib.hid fun w => mul64_says ⟨a3, a4⟩ ⟨b3, b4⟩ (h := 0) (l := a.2 * b.2) (Int.ediv_eq_zero_of_lt m0 (by omega)) (Int.emod_eq_of_lt m0 (by omega)) w
    have k1 : 0 ≤ a.1 * b.1 := Int.mul_nonneg a1 b1
    have k2 : a.1 * b.1 ≤ 18446744073709551615 := Int.le_trans (Int.mul_le_mul ra rb b1 a3) h
    have k3 : IntKind.u64.wrap (a.1 * b.1) = a.1 * b.1 := by rw [IntKind.wrap_u64, Int.emod_eq_of_lt k1 (by omega)]
    generalize hq : a.1 * b.1 = q at *
    generalize a.2 * b.2 = r at *
    clear a1 a2 b1 b2 a3 a4 b3 b4 ra rb h m0
    go_enter Try.func36, Try.ntmps36
    go_wp2_with fail
    refine (M.out _).mono ?_; rintro e w1 ⟨rfl, rfl⟩
    go_wp2_with fail
    exact bodyPost_ret (v := sV (q, r)) (by simp [results, Try.results36, go_sem]) rfl ⟨rfl, below_alloc (below_alloc (below_alloc (Below.refl _ _) _) _) _⟩
  · rw [if_neg h]
    have hd : a.2 * b.2 / 18446744073709551616 ≠ 0 := fun hd => by
      generalize a.2 * b.2 = m at *
      omega
    have M := Lib.hid fun w => mul64_says ⟨a3, a4⟩ ⟨b3, b4⟩ rfl rfl w
    have k3 : ((a.2 * b.2 / 18446744073709551616) != 0) = true := bne_iff_ne.mpr hd
    generalize a.2 * b.2 / 18446744073709551616 = p at *
    generalize a.2 * b.2 % 18446744073709551616 = q at *
    clear hd h m0
    go_enter Try.func36, Try.ntmps36
    go_wp2_with fail
    refine (M.out _).mono ?_; rintro e w1 ⟨rfl, rfl⟩
    go_wp2_with fail
    refine (A.out _).mono ?_; rintro e w1 ⟨rfl, b1⟩
    have x1 := hx.out.after b1
    obtain ⟨c0, c1⟩ := x1.2.cells
    obtain ⟨f0, f1⟩ := x1.2.free
    have X1 := Lib.hid (x1.set sAll)
    clear x1 hx b1
    go_wp2_with fail
    exact bodyPost_ret (v := sV sAll) (by simp [results, Try.results36, go_sem, c0, c1]) rfl ⟨rfl, X1.out.1.1⟩

theorem ne_true' {a b : Int} (h : ¬ a = b) : (a != b) = true := bne_iff_ne.mpr h
theorem eq_false' {a b : Int} (h : ¬ a = b) : (a == b) = false := beq_eq_false_iff_ne.mpr h

/-- One answer of Do where both are right, behind the two boxes and the result's. -/
theorem sdo_bad (op : Int) (a b : Sp) (w : World) (h : sRR a b = false) : Calls Try.prog 23 #[.int .u8 op, sV a, sV b] w (Gives (sV (0, 0)) w) := by
  have h1 := Lib.hid (sboth_says a b)
  rw [h] at h1
  clear h
  have hx := Lib.hid (STrio.new a b w)
  go_enter Try.func23, Try.ntmps23
  go_wp2_with fail
  refine (h1.out _).mono ?_; rintro e w1 ⟨rfl, b1⟩
  have x1 := hx.out.after b1
  obtain ⟨c0, c1⟩ := x1.2.cells
  obtain ⟨f0, f1⟩ := x1.2.free
  have X1 := Lib.hid (x1.set (0, 0))
  clear x1 hx b1
  go_wp2_with fail
  exact bodyPost_ret (v := sV (0, 0)) (by simp [results, Try.results23, go_sem, c0, c1]) rfl ⟨rfl, X1.out.1.1⟩

set_option maxHeartbeats 2000000 in
theorem sdo_calls (op : Int) (a b : Sp) (w : World) (ha : sIn a) (hb : sIn b) (h : sRR a b = true) (ho : op = 0 ∨ op = 16 ∨ op = 32) :
    Calls Try.prog 23 #[.int .u8 op, sV a, sV b] w (Gives (sV (sDo' op a b)) w) := by
  have h1 := Lib.hid (sboth_says a b)
  rw [h] at h1
  obtain ⟨ra, rb⟩ := sRR_true h
  have hx := Lib.hid (STrio.new a b w)
  have k0 := Lib.hid fun w => sadd_says a b w ha hb ra rb
  have k1 := Lib.hid fun w => ssub_says a b w ha hb ra rb
  have k2 := Lib.hid fun w => smul_says a b w ha hb ra rb
  clear h ha hb ra rb
  rcases ho with rfl | rfl | rfl
  · have e : sDo' 0 a b = sAdd a b := rfl
    rw [e]
    generalize sAdd a b = t at *
    clear e k1 k2
    go_enter Try.func23, Try.ntmps23
    go_wp2_with fail
    refine (h1.out _).mono ?_; rintro e w1 ⟨rfl, b1⟩
    have x1 := hx.out.after b1
    obtain ⟨p0, p1⟩ := x1.1.2.1.cells
    obtain ⟨q0, q1⟩ := x1.1.2.2.cells
    have X1 := Lib.hid x1
    clear x1 hx b1
    go_wp2_with fail
    refine (k0.out _).mono ?_; rintro e w2 ⟨rfl, b2⟩
    have x2 := X1.out.after b2
    obtain ⟨c0, c1⟩ := x2.2.cells
    obtain ⟨f0, f1⟩ := x2.2.free
    have X2 := Lib.hid (x2.set t)
    clear x2 X1 b2 p0 p1 q0 q1
    go_wp2_with fail
    exact bodyPost_ret (v := sV t) (by simp [results, Try.results23, go_sem, c0, c1]) rfl ⟨rfl, X2.out.1.1⟩
  · have e : sDo' 16 a b = sSub a b := rfl
    rw [e]
    generalize sSub a b = t at *
    clear e k0 k2
    go_enter Try.func23, Try.ntmps23
    go_wp2_with fail
    refine (h1.out _).mono ?_; rintro e w1 ⟨rfl, b1⟩
    have x1 := hx.out.after b1
    obtain ⟨p0, p1⟩ := x1.1.2.1.cells
    obtain ⟨q0, q1⟩ := x1.1.2.2.cells
    have X1 := Lib.hid x1
    clear x1 hx b1
    go_wp2_with fail
    refine (k1.out _).mono ?_; rintro e w2 ⟨rfl, b2⟩
    have x2 := X1.out.after b2
    obtain ⟨c0, c1⟩ := x2.2.cells
    obtain ⟨f0, f1⟩ := x2.2.free
    have X2 := Lib.hid (x2.set t)
    clear x2 X1 b2 p0 p1 q0 q1
    go_wp2_with fail
    exact bodyPost_ret (v := sV t) (by simp [results, Try.results23, go_sem, c0, c1]) rfl ⟨rfl, X2.out.1.1⟩
  · have e : sDo' 32 a b = sMul a b := rfl
    rw [e]
    generalize sMul a b = t at *
    clear e k0 k1
    go_enter Try.func23, Try.ntmps23
    go_wp2_with fail
    refine (h1.out _).mono ?_; rintro e w1 ⟨rfl, b1⟩
    have x1 := hx.out.after b1
    obtain ⟨p0, p1⟩ := x1.1.2.1.cells
    obtain ⟨q0, q1⟩ := x1.1.2.2.cells
    have X1 := Lib.hid x1
    clear x1 hx b1
    go_wp2_with fail
    refine (k2.out _).mono ?_; rintro e w2 ⟨rfl, b2⟩
    have x2 := X1.out.after b2
    obtain ⟨c0, c1⟩ := x2.2.cells
    obtain ⟨f0, f1⟩ := x2.2.free
    have X2 := Lib.hid (x2.set t)
    clear x2 X1 b2 p0 p1 q0 q1
    go_wp2_with fail
    exact bodyPost_ret (v := sV t) (by simp [results, Try.results23, go_sem, c0, c1]) rfl ⟨rfl, X2.out.1.1⟩

end Go.Proofs.Ytpnobkaeoiaelaa
