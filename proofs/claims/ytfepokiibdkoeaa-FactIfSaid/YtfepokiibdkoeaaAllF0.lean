/-
  The document's own If of layer 6.
  Conditions: those that each theorem states.
-/
import Derived.Test.YtfepokiibdkoeaaAllC1
import Derived.Test.YtfepokiibdkoeaaAllD1
import Derived.Deep.RegionHeld3
import Derived.BigRegion

/-
  The document's own If of layer 5.
  Conditions: the numbers fit their kinds.
-/
namespace Go.Proofs.Ytfepokiibdkoeaa
open Go.RowKit
set_option linter.unusedVariables false

set_option maxRecDepth 100000 in
set_option maxHeartbeats 4000000 in
theorem rsif_jeq (a b : Sp) (w : World) (h : sRR a b = true) (t : Sp) (k : Bool) (M : Hid (∀ w, Calls Try.prog 81 #[sV a, sV b] w (Gives (sBV t k) w))) :
    Calls Try.prog 70 #[.int .u8 16, sV a, sV b] w (Gives (sBV t k) w) := by
  have h1 := Lib.hid (rs_both a b)
  rw [h] at h1
  clear h
  have hx := Lib.hid (STrio.new a b w)
  go_enter Try.func70, Try.ntmps70
  go_wp2_with fail
  refine (h1.out _).mono ?_; rintro e w1 ⟨rfl, b1⟩
  have x1 := hx.out.after b1
  obtain ⟨p0, p1⟩ := x1.1.2.1.cells
  obtain ⟨q0, q1⟩ := x1.1.2.2.cells
  obtain ⟨c0, c1⟩ := x1.2.cells
  obtain ⟨f0, f1⟩ := x1.2.free
  have X1 := Lib.hid x1
  clear x1 hx b1
  go_wp2_with fail
  refine (M.out _).mono ?_; rintro e w2 ⟨rfl, b2⟩
  have x2 := X1.out.after b2
  clear c0 c1 f0 f1
  obtain ⟨c0, c1⟩ := x2.2.cells
  obtain ⟨f0, f1⟩ := x2.2.free
  have X2 := Lib.hid (x2.set t)
  clear x2 X1 b2 p0 p1 q0 q1
  go_wp2_with fail
  exact bodyPost_ret (v := sBV t k) (by simp [results, Try.results70, go_sem, c0, c1]) rfl ⟨rfl, X2.out.1.1⟩

set_option maxRecDepth 100000 in
set_option maxHeartbeats 4000000 in
theorem rsif_jgt_no (a b : Sp) (w : World) (h : sRR a b = true) (hz : b.1 = 18446744073709551615) :
    Calls Try.prog 70 #[.int .u8 32, sV a, sV b] w (Gives (sBV (0, 0) false) w) := by
  have h1 := Lib.hid (rs_both a b)
  rw [h] at h1
  clear h
  have hx := Lib.hid (STrio.new a b w)
  have z1 : (b.1 == 18446744073709551615) = true := beq_iff_eq.mpr hz
  clear hz
  go_enter Try.func70, Try.ntmps70
  go_wp2_with fail
  refine (h1.out _).mono ?_; rintro e w1 ⟨rfl, b1⟩
  have x1 := hx.out.after b1
  obtain ⟨p0, p1⟩ := x1.1.2.1.cells
  obtain ⟨q0, q1⟩ := x1.1.2.2.cells
  obtain ⟨c0, c1⟩ := x1.2.cells
  obtain ⟨f0, f1⟩ := x1.2.free
  have X1 := Lib.hid (x1.set (0, 0))
  clear x1 hx b1
  go_wp2_with fail
  exact bodyPost_ret (v := sBV (0, 0) false) (by simp [results, Try.results70, go_sem, c0, c1]) rfl ⟨rfl, X1.out.1.1⟩

set_option maxRecDepth 100000 in
set_option maxHeartbeats 4000000 in
theorem rsif_jgt (a b : Sp) (w : World) (h : sRR a b = true) (hz : ¬ b.1 = 18446744073709551615) (k1 : 0 ≤ b.1 + 1) (k2 : b.1 + 1 ≤ 18446744073709551615) (t : Sp) (k : Bool) (M : Hid (∀ w, Calls Try.prog 81 #[sV a, sV (b.1 + 1, 18446744073709551615)] w (Gives (sBV t k) w))) :
    Calls Try.prog 70 #[.int .u8 32, sV a, sV b] w (Gives (sBV t k) w) := by
  have A : Hid (∀ w, Calls Try.prog 45 #[] w (Gives (.agg #[.int .u64 0, .int .u64 18446744073709551615]) w)) := Lib.hid rs_all
  have FI : ∀ w, (Instr.field 26 (.agg #[.int .u64 0, .int .u64 18446744073709551615]) 1).run Try.prog w = .ok (.int .u64 18446744073709551615) w := fun _ => rfl
  have h1 := Lib.hid (rs_both a b)
  rw [h] at h1
  clear h
  have hx := Lib.hid (STrio.new a b w)
  have z1 := reqb_f hz
  have k3 : IntKind.u64.wrap (b.1 + 1) = b.1 + 1 := by rw [IntKind.wrap_u64]; omega
  clear hz
  go_enter Try.func70, Try.ntmps70
  go_wp2_with fail
  refine (h1.out _).mono ?_; rintro e w1 ⟨rfl, b1⟩
  have x1 := hx.out.after b1
  obtain ⟨p0, p1⟩ := x1.1.2.1.cells
  obtain ⟨q0, q1⟩ := x1.1.2.2.cells
  obtain ⟨c0, c1⟩ := x1.2.cells
  obtain ⟨f0, f1⟩ := x1.2.free
  have X1 := Lib.hid x1
  clear x1 hx b1
  go_wp2_with fail
  clear p0 p1 q0 q1 c0 c1 f0 f1
  have HB : Below w1.heap.size w1 w1.drew := Below.drew (Below.refl _ _)
  have KK := Lib.hid (fun (wx : World) (hx : Below w1.heap.size w1 wx) => And.intro (X1.out.after hx).1.2.1.cells (X1.out.after hx).1.2.2.cells)
  have KS := Lib.hid (fun (wx : World) (hx : Below w1.heap.size w1 wx) => And.intro ((X1.out.after hx).set t).1.2.1.cells ((X1.out.after hx).set t).1.2.2.cells)
  have FR := Lib.hid (fun (wx : World) (hx : Below w1.heap.size w1 wx) => And.intro (X1.out.after hx).2.free (X1.out.after hx).2.cells)
  go_region_held3 (fun w' => (w'.cell? ⟨w.heap.size, 0, none⟩ = some (.int .u64 a.1) ∧ w'.cell? ⟨w.heap.size, 1, none⟩ = some (.int .u64 a.2)) ∧ w'.cell? ⟨w.heap.size + 1, 0, none⟩ = some (.int .u64 b.1) ∧ w'.cell? ⟨w.heap.size + 1, 1, none⟩ = some (.int .u64 b.2))
    (first
      | exact KK.out _ HB
      | exact KK.out _ (Below.drew HB)
      | exact KS.out _ HB)
    (first
      | (go_at_call 45; refine (A.out _).mono ?_; rintro e w6 ⟨rfl, hb6⟩; replace HB := below_next' HB hb6; clear hb6)
      | (go_at_call 81; refine (M.out _).mono ?_; rintro e w7 ⟨rfl, hb7⟩; replace HB := below_next' HB hb7; clear hb7; obtain ⟨⟨f0, f1⟩, c0, c1⟩ := FR.out _ HB))
  all_goals
    have XE := Lib.hid ((X1.out.after HB).set t)
    clear KK KS FR X1
    go_wp2_with fail
    exact bodyPost_ret (v := sBV t k) (by simp [results, Try.results70, go_sem, c0, c1]) rfl ⟨rfl, XE.out.1.1⟩

set_option maxRecDepth 100000 in
set_option maxHeartbeats 4000000 in
theorem rsif_jge (a b : Sp) (w : World) (h : sRR a b = true) (t : Sp) (k : Bool) (M : Hid (∀ w, Calls Try.prog 81 #[sV a, sV (b.1, 18446744073709551615)] w (Gives (sBV t k) w))) :
    Calls Try.prog 70 #[.int .u8 48, sV a, sV b] w (Gives (sBV t k) w) := by
  have A : Hid (∀ w, Calls Try.prog 45 #[] w (Gives (.agg #[.int .u64 0, .int .u64 18446744073709551615]) w)) := Lib.hid rs_all
  have FI : ∀ w, (Instr.field 26 (.agg #[.int .u64 0, .int .u64 18446744073709551615]) 1).run Try.prog w = .ok (.int .u64 18446744073709551615) w := fun _ => rfl
  have h1 := Lib.hid (rs_both a b)
  rw [h] at h1
  clear h
  have hx := Lib.hid (STrio.new a b w)
  go_enter Try.func70, Try.ntmps70
  go_wp2_with fail
  refine (h1.out _).mono ?_; rintro e w1 ⟨rfl, b1⟩
  have x1 := hx.out.after b1
  obtain ⟨p0, p1⟩ := x1.1.2.1.cells
  obtain ⟨q0, q1⟩ := x1.1.2.2.cells
  obtain ⟨c0, c1⟩ := x1.2.cells
  obtain ⟨f0, f1⟩ := x1.2.free
  have X1 := Lib.hid x1
  clear x1 hx b1
  go_wp2_with fail
  clear p0 p1 q0 q1 c0 c1 f0 f1
  have HB : Below w1.heap.size w1 w1.drew := Below.drew (Below.refl _ _)
  have KK := Lib.hid (fun (wx : World) (hx : Below w1.heap.size w1 wx) => And.intro (X1.out.after hx).1.2.1.cells (X1.out.after hx).1.2.2.cells)
  have KS := Lib.hid (fun (wx : World) (hx : Below w1.heap.size w1 wx) => And.intro ((X1.out.after hx).set t).1.2.1.cells ((X1.out.after hx).set t).1.2.2.cells)
  have FR := Lib.hid (fun (wx : World) (hx : Below w1.heap.size w1 wx) => And.intro (X1.out.after hx).2.free (X1.out.after hx).2.cells)
  go_region_held3 (fun w' => (w'.cell? ⟨w.heap.size, 0, none⟩ = some (.int .u64 a.1) ∧ w'.cell? ⟨w.heap.size, 1, none⟩ = some (.int .u64 a.2)) ∧ w'.cell? ⟨w.heap.size + 1, 0, none⟩ = some (.int .u64 b.1) ∧ w'.cell? ⟨w.heap.size + 1, 1, none⟩ = some (.int .u64 b.2))
    (first
      | exact KK.out _ HB
      | exact KK.out _ (Below.drew HB)
      | exact KS.out _ HB)
    (first
      | (go_at_call 45; refine (A.out _).mono ?_; rintro e w6 ⟨rfl, hb6⟩; replace HB := below_next' HB hb6; clear hb6)
      | (go_at_call 81; refine (M.out _).mono ?_; rintro e w7 ⟨rfl, hb7⟩; replace HB := below_next' HB hb7; clear hb7; obtain ⟨⟨f0, f1⟩, c0, c1⟩ := FR.out _ HB))
  all_goals
    have XE := Lib.hid ((X1.out.after HB).set t)
    clear KK KS FR X1
    go_wp2_with fail
    exact bodyPost_ret (v := sBV t k) (by simp [results, Try.results70, go_sem, c0, c1]) rfl ⟨rfl, XE.out.1.1⟩

set_option maxRecDepth 100000 in
set_option maxHeartbeats 4000000 in
theorem rsif_jlt_no (a b : Sp) (w : World) (h : sRR a b = true) (hz : b.2 = 0) :
    Calls Try.prog 70 #[.int .u8 160, sV a, sV b] w (Gives (sBV (0, 0) false) w) := by
  have h1 := Lib.hid (rs_both a b)
  rw [h] at h1
  clear h
  have hx := Lib.hid (STrio.new a b w)
  have z1 : (b.2 == 0) = true := beq_iff_eq.mpr hz
  clear hz
  go_enter Try.func70, Try.ntmps70
  go_wp2_with fail
  refine (h1.out _).mono ?_; rintro e w1 ⟨rfl, b1⟩
  have x1 := hx.out.after b1
  obtain ⟨p0, p1⟩ := x1.1.2.1.cells
  obtain ⟨q0, q1⟩ := x1.1.2.2.cells
  obtain ⟨c0, c1⟩ := x1.2.cells
  obtain ⟨f0, f1⟩ := x1.2.free
  have X1 := Lib.hid (x1.set (0, 0))
  clear x1 hx b1
  go_wp2_with fail
  exact bodyPost_ret (v := sBV (0, 0) false) (by simp [results, Try.results70, go_sem, c0, c1]) rfl ⟨rfl, X1.out.1.1⟩

set_option maxRecDepth 100000 in
set_option maxHeartbeats 4000000 in
theorem rsif_jlt (a b : Sp) (w : World) (h : sRR a b = true) (hz : ¬ b.2 = 0) (k1 : 0 ≤ b.2 - 1) (k2 : b.2 - 1 ≤ 18446744073709551615) (t : Sp) (k : Bool) (M : Hid (∀ w, Calls Try.prog 81 #[sV a, sV (0, b.2 - 1)] w (Gives (sBV t k) w))) :
    Calls Try.prog 70 #[.int .u8 160, sV a, sV b] w (Gives (sBV t k) w) := by
  have h1 := Lib.hid (rs_both a b)
  rw [h] at h1
  clear h
  have hx := Lib.hid (STrio.new a b w)
  have z1 := reqb_f hz
  clear hz
  go_enter Try.func70, Try.ntmps70
  go_wp2_with fail
  refine (h1.out _).mono ?_; rintro e w1 ⟨rfl, b1⟩
  have x1 := hx.out.after b1
  obtain ⟨p0, p1⟩ := x1.1.2.1.cells
  obtain ⟨q0, q1⟩ := x1.1.2.2.cells
  obtain ⟨c0, c1⟩ := x1.2.cells
  obtain ⟨f0, f1⟩ := x1.2.free
  have X1 := Lib.hid x1
  clear x1 hx b1
  go_wp2_with fail
  refine (M.out _).mono ?_; rintro e w2 ⟨rfl, b2⟩
  have x2 := X1.out.after b2
  clear c0 c1 f0 f1
  obtain ⟨c0, c1⟩ := x2.2.cells
  obtain ⟨f0, f1⟩ := x2.2.free
  have X2 := Lib.hid (x2.set t)
  clear x2 X1 b2 p0 p1 q0 q1
  go_wp2_with fail
  exact bodyPost_ret (v := sBV t k) (by simp [results, Try.results70, go_sem, c0, c1]) rfl ⟨rfl, X2.out.1.1⟩

set_option maxRecDepth 100000 in
set_option maxHeartbeats 4000000 in
theorem rsif_jle (a b : Sp) (w : World) (h : sRR a b = true) (t : Sp) (k : Bool) (M : Hid (∀ w, Calls Try.prog 81 #[sV a, sV (0, b.2)] w (Gives (sBV t k) w))) :
    Calls Try.prog 70 #[.int .u8 176, sV a, sV b] w (Gives (sBV t k) w) := by
  have h1 := Lib.hid (rs_both a b)
  rw [h] at h1
  clear h
  have hx := Lib.hid (STrio.new a b w)
  go_enter Try.func70, Try.ntmps70
  go_wp2_with fail
  refine (h1.out _).mono ?_; rintro e w1 ⟨rfl, b1⟩
  have x1 := hx.out.after b1
  obtain ⟨p0, p1⟩ := x1.1.2.1.cells
  obtain ⟨q0, q1⟩ := x1.1.2.2.cells
  obtain ⟨c0, c1⟩ := x1.2.cells
  obtain ⟨f0, f1⟩ := x1.2.free
  have X1 := Lib.hid x1
  clear x1 hx b1
  go_wp2_with fail
  refine (M.out _).mono ?_; rintro e w2 ⟨rfl, b2⟩
  have x2 := X1.out.after b2
  clear c0 c1 f0 f1
  obtain ⟨c0, c1⟩ := x2.2.cells
  obtain ⟨f0, f1⟩ := x2.2.free
  have X2 := Lib.hid (x2.set t)
  clear x2 X1 b2 p0 p1 q0 q1
  go_wp2_with fail
  exact bodyPost_ret (v := sBV t k) (by simp [results, Try.results70, go_sem, c0, c1]) rfl ⟨rfl, X2.out.1.1⟩

set_option maxRecDepth 100000 in
set_option maxHeartbeats 4000000 in
theorem rsif_jne_a (a b : Sp) (w : World) (h : sRR a b = true) (z1' : ¬ b.1 = b.2) :
    Calls Try.prog 70 #[.int .u8 80, sV a, sV b] w (Gives (sBV a true) w) := by
  have h1 := Lib.hid (rs_both a b)
  rw [h] at h1
  clear h
  have hx := Lib.hid (STrio.new a b w)
  have z1 : (b.1 == b.2) = false := reqb_f z1'
  clear z1'
  go_enter Try.func70, Try.ntmps70
  go_wp2_with fail
  refine (h1.out _).mono ?_; rintro e w1 ⟨rfl, b1⟩
  have x1 := hx.out.after b1
  obtain ⟨p0, p1⟩ := x1.1.2.1.cells
  obtain ⟨q0, q1⟩ := x1.1.2.2.cells
  obtain ⟨c0, c1⟩ := x1.2.cells
  obtain ⟨f0, f1⟩ := x1.2.free
  have X1 := Lib.hid (x1.set a)
  clear x1 hx b1
  go_wp2_with fail
  exact bodyPost_ret (v := sBV a true) (by simp [results, Try.results70, go_sem, c0, c1]) rfl ⟨rfl, X1.out.1.1⟩

set_option maxRecDepth 100000 in
set_option maxHeartbeats 4000000 in
theorem rsif_jne_b (a b : Sp) (w : World) (h : sRR a b = true) (z1' : b.1 = b.2) (z2' : a.1 = a.2) (z3' : a.1 = b.1) :
    Calls Try.prog 70 #[.int .u8 80, sV a, sV b] w (Gives (sBV (0, 0) false) w) := by
  have h1 := Lib.hid (rs_both a b)
  rw [h] at h1
  clear h
  have hx := Lib.hid (STrio.new a b w)
  have z1 : (b.1 == b.2) = true := beq_iff_eq.mpr z1'
  have z2 : (a.1 == a.2) = true := beq_iff_eq.mpr z2'
  have z3 : (a.1 == b.1) = true := beq_iff_eq.mpr z3'
  clear z1' z2' z3'
  go_enter Try.func70, Try.ntmps70
  go_wp2_with fail
  refine (h1.out _).mono ?_; rintro e w1 ⟨rfl, b1⟩
  have x1 := hx.out.after b1
  obtain ⟨p0, p1⟩ := x1.1.2.1.cells
  obtain ⟨q0, q1⟩ := x1.1.2.2.cells
  obtain ⟨c0, c1⟩ := x1.2.cells
  obtain ⟨f0, f1⟩ := x1.2.free
  have X1 := Lib.hid (x1.set (0, 0))
  clear x1 hx b1
  go_wp2_with fail
  exact bodyPost_ret (v := sBV (0, 0) false) (by simp [results, Try.results70, go_sem, c0, c1]) rfl ⟨rfl, X1.out.1.1⟩

set_option maxRecDepth 100000 in
set_option maxHeartbeats 4000000 in
theorem rsif_jne_c (a b : Sp) (w : World) (h : sRR a b = true) (k1 : 0 ≤ a.1 + 1) (k2 : a.1 + 1 ≤ 18446744073709551615) (z1' : b.1 = b.2) (z2' : ¬ a.1 = a.2) (z3' : a.1 = b.1) :
    Calls Try.prog 70 #[.int .u8 80, sV a, sV b] w (Gives (sBV (a.1 + 1, a.2) true) w) := by
  have h1 := Lib.hid (rs_both a b)
  rw [h] at h1
  clear h
  have hx := Lib.hid (STrio.new a b w)
  have z1 : (b.1 == b.2) = true := beq_iff_eq.mpr z1'
  have z2 : (a.1 == a.2) = false := reqb_f z2'
  have z3 : (a.1 == b.1) = true := beq_iff_eq.mpr z3'
  clear z1' z2' z3'
  go_enter Try.func70, Try.ntmps70
  go_wp2_with fail
  refine (h1.out _).mono ?_; rintro e w1 ⟨rfl, b1⟩
  have x1 := hx.out.after b1
  obtain ⟨p0, p1⟩ := x1.1.2.1.cells
  obtain ⟨q0, q1⟩ := x1.1.2.2.cells
  obtain ⟨c0, c1⟩ := x1.2.cells
  obtain ⟨f0, f1⟩ := x1.2.free
  obtain ⟨g0, g1⟩ := x1.1.2.1.free
  have X1 := Lib.hid ((x1.setA (a.1 + 1)).set (a.1 + 1, a.2))
  clear x1 hx b1
  go_wp2_with fail
  exact bodyPost_ret (v := sBV (a.1 + 1, a.2) true) (by simp [results, Try.results70, go_sem, c0, c1]) rfl ⟨rfl, X1.out.1.1⟩

set_option maxRecDepth 100000 in
set_option maxHeartbeats 4000000 in
theorem rsif_jne_d (a b : Sp) (w : World) (h : sRR a b = true) (k1 : 0 ≤ a.2 - 1) (k2 : a.2 - 1 ≤ 18446744073709551615) (z1' : b.1 = b.2) (z2' : ¬ a.1 = a.2) (z3' : ¬ a.1 = b.1) (z4' : a.2 = b.1) :
    Calls Try.prog 70 #[.int .u8 80, sV a, sV b] w (Gives (sBV (a.1, a.2 - 1) true) w) := by
  have h1 := Lib.hid (rs_both a b)
  rw [h] at h1
  clear h
  have hx := Lib.hid (STrio.new a b w)
  have z1 : (b.1 == b.2) = true := beq_iff_eq.mpr z1'
  have z2 : (a.1 == a.2) = false := reqb_f z2'
  have z3 : (a.1 == b.1) = false := reqb_f z3'
  have z4 : (a.2 == b.1) = true := beq_iff_eq.mpr z4'
  clear z1' z2' z3' z4'
  go_enter Try.func70, Try.ntmps70
  go_wp2_with fail
  refine (h1.out _).mono ?_; rintro e w1 ⟨rfl, b1⟩
  have x1 := hx.out.after b1
  obtain ⟨p0, p1⟩ := x1.1.2.1.cells
  obtain ⟨q0, q1⟩ := x1.1.2.2.cells
  obtain ⟨c0, c1⟩ := x1.2.cells
  obtain ⟨f0, f1⟩ := x1.2.free
  obtain ⟨g0, g1⟩ := x1.1.2.1.free
  have X1 := Lib.hid ((x1.setB (a.2 - 1)).set (a.1, a.2 - 1))
  clear x1 hx b1
  go_wp2_with fail
  exact bodyPost_ret (v := sBV (a.1, a.2 - 1) true) (by simp [results, Try.results70, go_sem, c0, c1]) rfl ⟨rfl, X1.out.1.1⟩

set_option maxRecDepth 100000 in
set_option maxHeartbeats 4000000 in
theorem rsif_jne_e (a b : Sp) (w : World) (h : sRR a b = true) (z1' : b.1 = b.2) (z2' : ¬ a.1 = a.2) (z3' : ¬ a.1 = b.1) (z4' : ¬ a.2 = b.1) :
    Calls Try.prog 70 #[.int .u8 80, sV a, sV b] w (Gives (sBV a true) w) := by
  have h1 := Lib.hid (rs_both a b)
  rw [h] at h1
  clear h
  have hx := Lib.hid (STrio.new a b w)
  have z1 : (b.1 == b.2) = true := beq_iff_eq.mpr z1'
  have z2 : (a.1 == a.2) = false := reqb_f z2'
  have z3 : (a.1 == b.1) = false := reqb_f z3'
  have z4 : (a.2 == b.1) = false := reqb_f z4'
  clear z1' z2' z3' z4'
  go_enter Try.func70, Try.ntmps70
  go_wp2_with fail
  refine (h1.out _).mono ?_; rintro e w1 ⟨rfl, b1⟩
  have x1 := hx.out.after b1
  obtain ⟨p0, p1⟩ := x1.1.2.1.cells
  obtain ⟨q0, q1⟩ := x1.1.2.2.cells
  obtain ⟨c0, c1⟩ := x1.2.cells
  obtain ⟨f0, f1⟩ := x1.2.free
  have X1 := Lib.hid (x1.set a)
  clear x1 hx b1
  go_wp2_with fail
  exact bodyPost_ret (v := sBV a true) (by simp [results, Try.results70, go_sem, c0, c1]) rfl ⟨rfl, X1.out.1.1⟩

set_option maxRecDepth 100000 in
set_option maxHeartbeats 4000000 in
theorem rsif_jne_f (a b : Sp) (w : World) (h : sRR a b = true) (z1' : b.1 = b.2) (z2' : a.1 = a.2) (z3' : ¬ a.1 = b.1) (z4' : ¬ a.2 = b.1) :
    Calls Try.prog 70 #[.int .u8 80, sV a, sV b] w (Gives (sBV a true) w) := by
  have h1 := Lib.hid (rs_both a b)
  rw [h] at h1
  clear h
  have hx := Lib.hid (STrio.new a b w)
  have z1 : (b.1 == b.2) = true := beq_iff_eq.mpr z1'
  have z2 : (a.1 == a.2) = true := beq_iff_eq.mpr z2'
  have z3 : (a.1 == b.1) = false := reqb_f z3'
  have z4 : (a.2 == b.1) = false := reqb_f z4'
  clear z1' z2' z3' z4'
  go_enter Try.func70, Try.ntmps70
  go_wp2_with fail
  refine (h1.out _).mono ?_; rintro e w1 ⟨rfl, b1⟩
  have x1 := hx.out.after b1
  obtain ⟨p0, p1⟩ := x1.1.2.1.cells
  obtain ⟨q0, q1⟩ := x1.1.2.2.cells
  obtain ⟨c0, c1⟩ := x1.2.cells
  obtain ⟨f0, f1⟩ := x1.2.free
  have X1 := Lib.hid (x1.set a)
  clear x1 hx b1
  go_wp2_with fail
  exact bodyPost_ret (v := sBV a true) (by simp [results, Try.results70, go_sem, c0, c1]) rfl ⟨rfl, X1.out.1.1⟩

set_option maxRecDepth 100000 in
set_option maxHeartbeats 4000000 in
theorem rsif_jset_a (a b : Sp) (w : World) (h : sRR a b = true) (hz : a.2 = 0) :
    Calls Try.prog 70 #[.int .u8 64, sV a, sV b] w (Gives (sBV (0, 0) false) w) := by
  have h1 := Lib.hid (rs_both a b)
  rw [h] at h1
  clear h
  have hx := Lib.hid (STrio.new a b w)
  have z1 : (a.2 == 0) = true := beq_iff_eq.mpr hz
  clear hz
  go_enter Try.func70, Try.ntmps70
  go_wp2_with fail
  refine (h1.out _).mono ?_; rintro e w1 ⟨rfl, b1⟩
  have x1 := hx.out.after b1
  obtain ⟨p0, p1⟩ := x1.1.2.1.cells
  obtain ⟨q0, q1⟩ := x1.1.2.2.cells
  obtain ⟨c0, c1⟩ := x1.2.cells
  obtain ⟨f0, f1⟩ := x1.2.free
  have X1 := Lib.hid (x1.set (0, 0))
  clear x1 hx b1
  go_wp2_with fail
  exact bodyPost_ret (v := sBV (0, 0) false) (by simp [results, Try.results70, go_sem, c0, c1]) rfl ⟨rfl, X1.out.1.1⟩

set_option maxRecDepth 100000 in
set_option maxHeartbeats 4000000 in
theorem rsif_jset_b (a b : Sp) (w : World) (h : sRR a b = true) (hz : ¬ a.2 = 0) (hy : b.2 = 0) :
    Calls Try.prog 70 #[.int .u8 64, sV a, sV b] w (Gives (sBV (0, 0) false) w) := by
  have h1 := Lib.hid (rs_both a b)
  rw [h] at h1
  clear h
  have hx := Lib.hid (STrio.new a b w)
  have z1 := reqb_f hz
  have z2 : (b.2 == 0) = true := beq_iff_eq.mpr hy
  clear hz hy
  go_enter Try.func70, Try.ntmps70
  go_wp2_with fail
  refine (h1.out _).mono ?_; rintro e w1 ⟨rfl, b1⟩
  have x1 := hx.out.after b1
  obtain ⟨p0, p1⟩ := x1.1.2.1.cells
  obtain ⟨q0, q1⟩ := x1.1.2.2.cells
  obtain ⟨c0, c1⟩ := x1.2.cells
  obtain ⟨f0, f1⟩ := x1.2.free
  have X1 := Lib.hid (x1.set (0, 0))
  clear x1 hx b1
  go_wp2_with fail
  exact bodyPost_ret (v := sBV (0, 0) false) (by simp [results, Try.results70, go_sem, c0, c1]) rfl ⟨rfl, X1.out.1.1⟩

set_option maxRecDepth 100000 in
set_option maxHeartbeats 4000000 in
theorem rsif_jset (a b : Sp) (w : World) (h : sRR a b = true) (hz : ¬ a.2 = 0) (hy : ¬ b.2 = 0) :
    Calls Try.prog 70 #[.int .u8 64, sV a, sV b] w (Gives (sBV a true) w) := by
  have h1 := Lib.hid (rs_both a b)
  rw [h] at h1
  clear h
  have hx := Lib.hid (STrio.new a b w)
  have z1 := reqb_f hz
  have z2 := reqb_f hy
  clear hz hy
  go_enter Try.func70, Try.ntmps70
  go_wp2_with fail
  refine (h1.out _).mono ?_; rintro e w1 ⟨rfl, b1⟩
  have x1 := hx.out.after b1
  obtain ⟨p0, p1⟩ := x1.1.2.1.cells
  obtain ⟨q0, q1⟩ := x1.1.2.2.cells
  obtain ⟨c0, c1⟩ := x1.2.cells
  obtain ⟨f0, f1⟩ := x1.2.free
  have X1 := Lib.hid (x1.set a)
  clear x1 hx b1
  go_wp2_with fail
  exact bodyPost_ret (v := sBV a true) (by simp [results, Try.results70, go_sem, c0, c1]) rfl ⟨rfl, X1.out.1.1⟩

set_option maxRecDepth 100000 in
set_option maxHeartbeats 4000000 in
theorem rsif_other (op : Int) (o1 : ¬ op = 16) (o2 : ¬ op = 80) (o3 : ¬ op = 64) (o4 : ¬ op = 32) (o5 : ¬ op = 48) (o6 : ¬ op = 160) (o7 : ¬ op = 176) (a b : Sp) (w : World) (h : sRR a b = true) :
    Calls Try.prog 70 #[.int .u8 op, sV a, sV b] w (Gives (sBV a true) w) := by
  have h1 := Lib.hid (rs_both a b)
  rw [h] at h1
  clear h
  have hx := Lib.hid (STrio.new a b w)
  replace o1 := reqb_f o1
  replace o2 := reqb_f o2
  replace o3 := reqb_f o3
  replace o4 := reqb_f o4
  replace o5 := reqb_f o5
  replace o6 := reqb_f o6
  replace o7 := reqb_f o7
  go_enter Try.func70, Try.ntmps70
  go_wp2_with fail
  refine (h1.out _).mono ?_; rintro e w1 ⟨rfl, b1⟩
  have x1 := hx.out.after b1
  obtain ⟨p0, p1⟩ := x1.1.2.1.cells
  obtain ⟨q0, q1⟩ := x1.1.2.2.cells
  obtain ⟨c0, c1⟩ := x1.2.cells
  obtain ⟨f0, f1⟩ := x1.2.free
  have X1 := Lib.hid (x1.set a)
  clear x1 hx b1
  go_wp2_with fail
  exact bodyPost_ret (v := sBV a true) (by simp [results, Try.results70, go_sem, c0, c1]) rfl ⟨rfl, X1.out.1.1⟩

theorem rsif_bad (op : Int) (a b : Sp) (w : World) (h : sRR a b = false) : Calls Try.prog 70 #[.int .u8 op, sV a, sV b] w (Gives (sBV (0, 0) false) w) := by
  have h1 := Lib.hid (rs_both a b)
  rw [h] at h1
  clear h
  have hx := Lib.hid (STrio.new a b w)
  go_enter Try.func70, Try.ntmps70
  go_wp2_with fail
  refine (h1.out _).mono ?_; rintro e w1 ⟨rfl, b1⟩
  have x1 := hx.out.after b1
  obtain ⟨p0, p1⟩ := x1.1.2.1.cells
  obtain ⟨q0, q1⟩ := x1.1.2.2.cells
  obtain ⟨c0, c1⟩ := x1.2.cells
  obtain ⟨f0, f1⟩ := x1.2.free
  have X1 := Lib.hid (x1.set (0, 0))
  clear x1 hx b1
  go_wp2_with fail
  exact bodyPost_ret (v := sBV (0, 0) false) (by simp [results, Try.results70, go_sem, c0, c1]) rfl ⟨rfl, X1.out.1.1⟩

end Go.Proofs.Ytfepokiibdkoeaa


/-
  The document's own If of layer 5, of whatever op and spans.
  Conditions: the numbers fit their kinds.
-/
namespace Go.Proofs.Ytfepokiibdkoeaa
open Go.RowKit
set_option linter.unusedVariables false

theorem meet_above {a : Sp} {l : Int} (ia : sIn a) : sM a (l, 18446744073709551615) = sT (max a.1 l) a.2 ∧ sMok a (l, 18446744073709551615) = sTok (max a.1 l) a.2 := by
  unfold sIn In64 at ia
  have e : min a.2 18446744073709551615 = a.2 := by omega
  unfold sM sMok
  dsimp only
  rw [e]
  exact ⟨rfl, rfl⟩
theorem meet_below {a : Sp} {h : Int} (ia : sIn a) : sM a (0, h) = sT a.1 (min a.2 h) ∧ sMok a (0, h) = sTok a.1 (min a.2 h) := by
  unfold sIn In64 at ia
  have e : max a.1 0 = a.1 := by omega
  unfold sM sMok
  dsimp only
  rw [e]
  exact ⟨rfl, rfl⟩
theorem sT_none {l h : Int} (k : h < l) : sT l h = (0, 0) ∧ sTok l h = false := ⟨if_pos k, decide_eq_false (by omega)⟩

theorem rsif_says (op : Int) (a b : Sp) (w : World) (ha : sIn a) (hb : sIn b) : Calls Try.prog 70 #[.int .u8 op, sV a, sV b] w (Gives (sBV (sIf op a b) (sIfok op a b)) w) := by
  unfold sIf sIfok
  cases h : sRR a b
  · exact rsif_bad op a b w h
  rw [if_pos rfl, Bool.true_and]
  obtain ⟨ra, rb⟩ := sRR_true h
  have ha' := ha
  have hb' := hb
  unfold sIn In64 at ha' hb'
  by_cases o1 : op = 16
  · subst o1
    exact rsif_jeq a b w h _ _ (Lib.hid (rs_meet a b))
  by_cases o2 : op = 80
  · subst o2
    have e1 : sIf' 80 a b = sUn a b := rfl
    have e2 : sIfok' 80 a b = sUnok a b := rfl
    rw [e1, e2]
    unfold sUn sUnok
    by_cases z1 : b.1 = b.2
    · by_cases z2 : a.1 = a.2
      · by_cases z3 : a.1 = b.1
        · have hc : b.1 = b.2 ∧ a.1 ≤ b.1 ∧ b.1 ≤ a.2 := by omega
          rw [if_pos hc, decide_eq_true hc, if_pos z2, decide_eq_true z2]
          exact rsif_jne_b a b w h z1 z2 z3
        · have hc : ¬ (b.1 = b.2 ∧ a.1 ≤ b.1 ∧ b.1 ≤ a.2) := by omega
          rw [if_neg hc, decide_eq_false hc]
          exact rsif_jne_f a b w h z1 z2 z3 (by omega)
      · by_cases z3 : a.1 = b.1
        · have hc : b.1 = b.2 ∧ a.1 ≤ b.1 ∧ b.1 ≤ a.2 := by omega
          rw [if_pos hc, decide_eq_true hc, if_neg z2, decide_eq_false z2, if_pos z3]
          exact rsif_jne_c a b w h (by omega) (by omega) z1 z2 z3
        · by_cases z4 : a.2 = b.1
          · have hc : b.1 = b.2 ∧ a.1 ≤ b.1 ∧ b.1 ≤ a.2 := by omega
            rw [if_pos hc, decide_eq_true hc, if_neg z2, decide_eq_false z2, if_neg z3, if_pos (by omega)]
            exact rsif_jne_d a b w h (by omega) (by omega) z1 z2 z3 z4
          · have hk : (if b.1 = b.2 ∧ a.1 ≤ b.1 ∧ b.1 ≤ a.2 then (if a.1 = a.2 then ((0, 0) : Sp) else if a.1 = b.1 then (a.1 + 1, a.2) else if a.2 = b.2 then (a.1, a.2 - 1) else a) else a) = a := by
              by_cases hc : b.1 = b.2 ∧ a.1 ≤ b.1 ∧ b.1 ≤ a.2
              · have z5 : ¬ a.2 = b.2 := by omega
                rw [if_pos hc, if_neg z2, if_neg z3, if_neg z5]
              · rw [if_neg hc]
            rw [hk, decide_eq_false z2, Bool.and_false]
            exact rsif_jne_e a b w h z1 z2 z3 z4
    · have hc : ¬ (b.1 = b.2 ∧ a.1 ≤ b.1 ∧ b.1 ≤ a.2) := fun x => z1 x.1
      rw [if_neg hc, decide_eq_false hc]
      exact rsif_jne_a a b w h z1
  by_cases o3 : op = 64
  · subst o3
    have e1 : sIf' 64 a b = if a.2 = 0 ∨ b.2 = 0 then (0, 0) else a := rfl
    have e2 : sIfok' 64 a b = !decide (a.2 = 0 ∨ b.2 = 0) := rfl
    rw [e1, e2]
    by_cases z1 : a.2 = 0
    · rw [if_pos (Or.inl z1), decide_eq_true (Or.inl z1)]
      exact rsif_jset_a a b w h z1
    · by_cases z2 : b.2 = 0
      · rw [if_pos (Or.inr z2), decide_eq_true (Or.inr z2)]
        exact rsif_jset_b a b w h z1 z2
      · have hn : ¬ (a.2 = 0 ∨ b.2 = 0) := fun x => x.elim z1 z2
        rw [if_neg hn, decide_eq_false hn]
        exact rsif_jset a b w h z1 z2
  by_cases o4 : op = 32
  · subst o4
    have e1 : sIf' 32 a b = if b.1 < a.2 then sT (max a.1 (b.1 + 1)) a.2 else (0, 0) := rfl
    have e2 : sIfok' 32 a b = (decide (b.1 < a.2) && sTok (max a.1 (b.1 + 1)) a.2) := rfl
    rw [e1, e2]
    by_cases z1 : b.1 = 18446744073709551615
    · rw [if_neg (by omega), decide_eq_false (p := b.1 < a.2) (by omega), Bool.false_and]
      exact rsif_jgt_no a b w h z1
    · have M := rs_meet a (b.1 + 1, 18446744073709551615)
      rw [(meet_above ha).1, (meet_above ha).2] at M
      by_cases z2 : b.1 < a.2
      · rw [if_pos z2, decide_eq_true z2, Bool.true_and]
        exact rsif_jgt a b w h z1 (by omega) (by omega) _ _ (Lib.hid M)
      · obtain ⟨k1, k2⟩ := sT_none (l := max a.1 (b.1 + 1)) (h := a.2) (by omega)
        rw [k1, k2] at M
        rw [if_neg z2, decide_eq_false z2, Bool.false_and]
        exact rsif_jgt a b w h z1 (by omega) (by omega) _ _ (Lib.hid M)
  by_cases o5 : op = 48
  · subst o5
    have e1 : sIf' 48 a b = if b.1 ≤ a.2 then sT (max a.1 b.1) a.2 else (0, 0) := rfl
    have e2 : sIfok' 48 a b = (decide (b.1 ≤ a.2) && sTok (max a.1 b.1) a.2) := rfl
    rw [e1, e2]
    have M := rs_meet a (b.1, 18446744073709551615)
    rw [(meet_above ha).1, (meet_above ha).2] at M
    by_cases z2 : b.1 ≤ a.2
    · rw [if_pos z2, decide_eq_true z2, Bool.true_and]
      exact rsif_jge a b w h _ _ (Lib.hid M)
    · obtain ⟨k1, k2⟩ := sT_none (l := max a.1 b.1) (h := a.2) (by omega)
      rw [k1, k2] at M
      rw [if_neg z2, decide_eq_false z2, Bool.false_and]
      exact rsif_jge a b w h _ _ (Lib.hid M)
  by_cases o6 : op = 160
  · subst o6
    have e1 : sIf' 160 a b = if a.1 < b.2 then sT a.1 (min a.2 (b.2 - 1)) else (0, 0) := rfl
    have e2 : sIfok' 160 a b = (decide (a.1 < b.2) && sTok a.1 (min a.2 (b.2 - 1))) := rfl
    rw [e1, e2]
    by_cases z1 : b.2 = 0
    · rw [if_neg (by omega), decide_eq_false (p := a.1 < b.2) (by omega), Bool.false_and]
      exact rsif_jlt_no a b w h z1
    · have M := rs_meet a (0, b.2 - 1)
      rw [(meet_below ha).1, (meet_below ha).2] at M
      by_cases z2 : a.1 < b.2
      · rw [if_pos z2, decide_eq_true z2, Bool.true_and]
        exact rsif_jlt a b w h z1 (by omega) (by omega) _ _ (Lib.hid M)
      · obtain ⟨k1, k2⟩ := sT_none (l := a.1) (h := min a.2 (b.2 - 1)) (by omega)
        rw [k1, k2] at M
        rw [if_neg z2, decide_eq_false z2, Bool.false_and]
        exact rsif_jlt a b w h z1 (by omega) (by omega) _ _ (Lib.hid M)
  by_cases o7 : op = 176
  · subst o7
    have e1 : sIf' 176 a b = if a.1 ≤ b.2 then sT a.1 (min a.2 b.2) else (0, 0) := rfl
    have e2 : sIfok' 176 a b = (decide (a.1 ≤ b.2) && sTok a.1 (min a.2 b.2)) := rfl
    rw [e1, e2]
    have M := rs_meet a (0, b.2)
    rw [(meet_below ha).1, (meet_below ha).2] at M
    by_cases z2 : a.1 ≤ b.2
    · rw [if_pos z2, decide_eq_true z2, Bool.true_and]
      exact rsif_jle a b w h _ _ (Lib.hid M)
    · obtain ⟨k1, k2⟩ := sT_none (l := a.1) (h := min a.2 b.2) (by omega)
      rw [k1, k2] at M
      rw [if_neg z2, decide_eq_false z2, Bool.false_and]
      exact rsif_jle a b w h _ _ (Lib.hid M)
  have e1 : sIf' op a b = a := by unfold sIf'; rw [if_neg o1, if_neg o2, if_neg o3, if_neg o4, if_neg o5, if_neg o6, if_neg o7]
  have e2 : sIfok' op a b = true := by unfold sIfok'; rw [if_neg o1, if_neg o2, if_neg o3, if_neg o4, if_neg o5, if_neg o6, if_neg o7]
  rw [e1, e2]
  exact rsif_other op o1 o2 o3 o4 o5 o6 o7 a b w h

end Go.Proofs.Ytfepokiibdkoeaa


/-
  The document's own pairs of conditions of layer 3.
  Conditions: none.
-/
namespace Go.Proofs.Ytfepokiibdkoeaa
open Go.RowKit
set_option linter.unusedVariables false

set_option maxHeartbeats 1000000 in
theorem ref_pair_any (l : List (Int × Int)) (b : Nat) (op : Int) (w : World) (hl : l.length ≤ 100)
    (hc : ∀ k, k < l.length → w.cell? ⟨b, k * 2, none⟩ = some (.int .u8 (l.getD k (0, 0)).1) ∧ w.cell? ⟨b, k * 2 + 1, none⟩ = some (.int .u8 (l.getD k (0, 0)).2)) :
    Calls Try.prog 100 #[.slice (some ⟨b, 0, none⟩) (l.length * 2) (l.length * 2), .int .u8 op] w
      fun e w' => e = .returned (.tuple #[.int .u8 (pairOf l op).1, .bool (pairOf l op).2]) ∧ w = w' := by
  have HC := Lib.hid hc
  clear hc
  go_enter Try.func100, Try.ntmps100
  go_wp2_with fail
  go_loopw [6] (fun i wr => ∃ j : Nat, j ≤ l.length ∧ i = .int .i64 (j * 2) ∧ pairOf (l.drop j) op = pairOf l op ∧ wr = w) (fun i wr => l.length * 2 - (intOf i).toNat)
  case atStart => exact ⟨0, by omega, rfl, rfl, rfl⟩
  case round =>
    obtain ⟨j, hj, rfl, hp, rfl⟩ := hrel
    by_cases hlt : (j : Int) < l.length
    · obtain ⟨c1, c2⟩ := HC.out j (by omega)
      have hs := pairOf_step l op j (by omega)
      rw [hp] at hs
      generalize hg : l.getD j (0, 0) = p at *
      obtain ⟨x, y⟩ := p
      clear hg
      by_cases h1 : x = op
      · have HE : Hid (pairOf l op = (y, true)) := Lib.hid (by rw [hs, if_pos h1])
        clear hs hp
        subst h1
        go_wp2_with fail
        go_ret2
        exact ⟨by rw [HE.out]; rfl, rfl⟩
      · by_cases h2 : y = op
        · have HE : Hid (pairOf l op = (x, true)) := Lib.hid (by rw [hs, if_neg h1, if_pos h2])
          clear hs hp
          subst h2
          go_wp2_with fail
          go_ret2
          exact ⟨by rw [HE.out]; rfl, rfl⟩
        · have HE : Hid (pairOf (l.drop (j + 1)) op = pairOf l op) := Lib.hid (by rw [hs, if_neg h1, if_neg h2])
          clear hs hp
          go_wp2_with fail
          go_round
          case rel => exact ⟨j + 1, by omega, by go_num, HE.out, trivial⟩
          case measure => simp [intOf]; omega
    · have hj2 : j = l.length := by omega
      have hz : pairOf l op = (0, false) := by rw [← hp, hj2, List.drop_length]; rfl
      have HZ := Lib.hid hz
      clear hz hj2 hp
      go_wp2_with fail
      go_ret2
      exact ⟨by rw [HZ.out]; rfl, rfl⟩

end Go.Proofs.Ytfepokiibdkoeaa


/-
  The document's own Turned of layer 3.
  Conditions: none.
-/
namespace Go.Proofs.Ytfepokiibdkoeaa
open Go.RowKit
set_option linter.unusedVariables false

theorem ref_turned_any (op : Int) (w : World) : Calls Try.prog 72 #[.int .u8 op] w (Paired turnPairs op w) := by
  have hp := Lib.hid (ref_pair_any turnPairs w.heap.size op (w.alloc (.cells #[.int .u8 16, .int .u8 16, .int .u8 80, .int .u8 80, .int .u8 64, .int .u8 64, .int .u8 32, .int .u8 160, .int .u8 48, .int .u8 176, .int .u8 96, .int .u8 192, .int .u8 112, .int .u8 208] 5)) (by decide)
    (cells_at w turnPairs _ _ (by
      intro k hk
      change k < 7 at hk
      have h : k = 0 ∨ k = 1 ∨ k = 2 ∨ k = 3 ∨ k = 4 ∨ k = 5 ∨ k = 6 := by omega
      rcases h with rfl | rfl | rfl | rfl | rfl | rfl | rfl <;> exact ⟨rfl, rfl⟩)))
  go_enter Try.func72, Try.ntmps72
  go_wp2_with fail
  refine (hp.out).mono ?_
  rintro e w1 ⟨rfl, rfl⟩
  go_wp2_with fail
  go_ret2
  exact ⟨rfl, (Below.refl _ _).alloc (Nat.le_refl _) _⟩

end Go.Proofs.Ytfepokiibdkoeaa


/-
  The document's own answers of layer 6: a fact with another range, settled.
  Conditions: the numbers fit their kinds.
-/
namespace Go.Proofs.Ytfepokiibdkoeaa
open Go.RowKit
set_option linter.unusedVariables false

/-- A fact's block, a span's, and a result's. -/
def FSF (f : Fc) (s : Sp) (r : Fc) (w u : World) : Prop := Below w.heap.size w u ∧ fB w.heap.size f u ∧ sB (w.heap.size + 1) s u ∧ fB (w.heap.size + 1 + 1) r u
theorem FSF.new (f : Fc) (s : Sp) (r : Fc) (w : World) : FSF f s r w (((w.alloc (.cells (fCells f) 28)).alloc (.cells #[.int .u64 s.1, .int .u64 s.2] 26)).alloc (.cells (fCells r) 28)) :=
  ⟨below_alloc (below_alloc (below_alloc (Below.refl _ _) _) _) _, ((fB.new w f rfl).alloc _).alloc _, (sB.new _ s (by simp)).alloc _, fB.new _ r (by simp)⟩

theorem FSF.after {f : Fc} {s : Sp} {r : Fc} {w u u' : World} (h : FSF f s r w u) (k : Below u.heap.size u u') : FSF f s r w u' := ⟨below_next' h.1 k, h.2.1.after k, h.2.2.1.after k, h.2.2.2.after k⟩

set_option maxHeartbeats 1000000 in
theorem rf_with_yes (f : Fc) (s : Sp) (w : World) (hs : sIn s) : Calls Try.prog 71 #[fV f, sV s, .bool true] w (Gives (fBV ((fS (f.1, s)).getD fZ) (fS (f.1, s)).isSome) w) := by
  have S : Hid (∀ w, Calls Try.prog 13 #[fV (f.1, s)] w (Gives (fBV ((fS (f.1, s)).getD fZ) (fS (f.1, s)).isSome) w)) := Lib.hid fun w => rf_settle (f.1, s) w hs
  have hx := Lib.hid (FSF.new (f.1, s) s fZ w)
  generalize (fS (f.1, s)).getD fZ = g at *
  generalize (fS (f.1, s)).isSome = k at *
  go_enter Try.func71, Try.ntmps71
  go_wp2_with fail
  refine (S.out _).mono ?_; rintro e w1 ⟨rfl, b1⟩
  have x1 := hx.out.after b1
  obtain ⟨e0, e1, e2, e3⟩ := x1.2.2.2.cells
  obtain ⟨g0, g1, g2, g3⟩ := x1.2.2.2.free
  have XE := Lib.hid (below_four x1.1 (k := w.heap.size + 1 + 1) (by omega) g)
  clear x1 hx b1
  go_wp2_with fail
  exact bodyPost_ret (v := fBV g k) (by simp [results, Try.results71, go_sem, e0, e1, e2, e3]) rfl ⟨rfl, XE.out⟩
theorem rf_with_no (f : Fc) (s : Sp) (w : World) : Calls Try.prog 71 #[fV f, sV s, .bool false] w (Gives (fBV fZ false) w) := by
  go_enter Try.func71, Try.ntmps71
  go_wp2_with fail
  exact bodyPost_ret (v := fBV fZ false) (by simp [results, Try.results71, go_sem, fZ]) rfl ⟨rfl, below_alloc (below_alloc (below_alloc (Below.refl _ _) _) _) _⟩

end Go.Proofs.Ytfepokiibdkoeaa


/-
  The document's own answers of layer 6: what is known of both, if a condition holds (1).
  Conditions: the numbers fit their kinds.
-/
namespace Go.Proofs.Ytfepokiibdkoeaa
open Go.RowKit
set_option linter.unusedVariables false

theorem Blk.allocd {g : Nat} {cs : Array Value} {t : TypeId} {w : World} (h : Blk g cs t w) (o : Obj) : Blk g cs t (w.alloc o) := h.after (below_alloc (Below.refl _ _) o)
theorem Blk.four {g : Nat} {a b c d : Value} {t : TypeId} {w : World} (h : Blk g #[a, b, c, d] t w) : w.cell? ⟨g, 0, none⟩ = some a ∧ w.cell? ⟨g, 1, none⟩ = some b ∧ w.cell? ⟨g, 2, none⟩ = some c ∧ w.cell? ⟨g, 3, none⟩ = some d :=
  ⟨Blk.cell h 0, Blk.cell h 1, Blk.cell h 2, Blk.cell h 3⟩
theorem Blk.pair {g : Nat} {a b : Value} {t : TypeId} {w : World} (h : Blk g #[a, b] t w) : w.cell? ⟨g, 0, none⟩ = some a ∧ w.cell? ⟨g, 1, none⟩ = some b := ⟨Blk.cell h 0, Blk.cell h 1⟩
theorem Blk.frees {g : Nat} {cs : Array Value} {t : TypeId} {w : World} (h : Blk g cs t w) : w.frozen? ⟨g, 0, none⟩ = false ∧ w.frozen? ⟨g, 1, none⟩ = false ∧ w.frozen? ⟨g, 2, none⟩ = false ∧ w.frozen? ⟨g, 3, none⟩ = false :=
  ⟨Blk.free h 0, Blk.free h 1, Blk.free h 2, Blk.free h 3⟩
theorem Blk.set4 {g : Nat} {a b c d : Value} {t : TypeId} {w : World} (h : Blk g #[a, b, c, d] t w) (a' b' c' d' : Value) :
    Blk g #[a', b', c', d'] t ((((w.setCell ⟨g, 0, none⟩ a').setCell ⟨g, 1, none⟩ b').setCell ⟨g, 2, none⟩ c').setCell ⟨g, 3, none⟩ d') := Blk.set (Blk.set (Blk.set (Blk.set h 0 a') 1 b') 2 c') 3 d'
theorem Blk.set01 {g : Nat} {a b c d : Value} {t : TypeId} {w : World} (h : Blk g #[a, b, c, d] t w) (a' b' : Value) : Blk g #[a', b', c, d] t ((w.setCell ⟨g, 0, none⟩ a').setCell ⟨g, 1, none⟩ b') := Blk.set (Blk.set h 0 a') 1 b'
theorem Blk.set2 {g : Nat} {a b : Value} {t : TypeId} {w : World} (h : Blk g #[a, b] t w) (a' b' : Value) : Blk g #[a', b'] t ((w.setCell ⟨g, 0, none⟩ a').setCell ⟨g, 1, none⟩ b') := Blk.set (Blk.set h 0 a') 1 b'
theorem Blk.other4 {g k : Nat} {cs : Array Value} {t : TypeId} {w : World} (h : Blk g cs t w) (hk : g ≠ k) (a' b' c' d' : Value) :
    Blk g cs t ((((w.setCell ⟨k, 0, none⟩ a').setCell ⟨k, 1, none⟩ b').setCell ⟨k, 2, none⟩ c').setCell ⟨k, 3, none⟩ d') := (((h.other _ hk).other _ hk).other _ hk).other _ hk
theorem Blk.other2 {g k : Nat} {cs : Array Value} {t : TypeId} {w : World} (h : Blk g cs t w) (hk : g ≠ k) (a' b' : Value) : Blk g cs t ((w.setCell ⟨k, 0, none⟩ a').setCell ⟨k, 1, none⟩ b') := (h.other _ hk).other _ hk
theorem FQ.alloc {a b x y : Fc} {w u : World} (h : FQ a b x y w u) (o : Obj) : FQ a b x y w (u.alloc o) := h.after (below_alloc (Below.refl _ _) o)
theorem FQ.other2 {a b x y : Fc} {w u : World} {k : Nat} (h : FQ a b x y w u) (hk : w.heap.size + 1 + 1 + 1 < k) (p q : Value) : FQ a b x y w ((u.setCell ⟨k, 0, none⟩ p).setCell ⟨k, 1, none⟩ q) :=
  h.two (by omega) 0 1 p q ((h.2.1.other _ (by omega)).other _ (by omega)) ((h.2.2.other _ (by omega)).other _ (by omega))
theorem FQ.other4 {a b x y : Fc} {w u : World} {k : Nat} (h : FQ a b x y w u) (hk : w.heap.size + 1 + 1 + 1 < k) (p q r s : Value) :
    FQ a b x y w ((((u.setCell ⟨k, 0, none⟩ p).setCell ⟨k, 1, none⟩ q).setCell ⟨k, 2, none⟩ r).setCell ⟨k, 3, none⟩ s) :=
  (h.other2 hk p q).two (by omega) 2 3 r s (((h.other2 hk p q).2.1.other _ (by omega)).other _ (by omega)) (((h.other2 hk p q).2.2.other _ (by omega)).other _ (by omega))

set_option maxRecDepth 100000 in
set_option maxHeartbeats 8000000 in
theorem rf_if_a_ttw (op : Int) (ho : (op == 16) = false) (kx ky : Bool) (hk : (kx && ky) = false) (a b : Fc) (w : World)
    (R1 : Hid (∀ w, Calls Try.prog 18 #[fV a] w (Gives (.bool true) w)))
    (R2 : Hid (∀ w, Calls Try.prog 18 #[fV b] w (Gives (.bool true) w)))
    (p : BitVec 64) (K1 : Hid (∀ w, Calls Try.prog 15 #[fV a] w (Gives (.tuple #[uV p, .bool kx]) w)))
    (q : BitVec 64) (K2 : Hid (∀ w, Calls Try.prog 15 #[fV b] w (Gives (.tuple #[uV q, .bool ky]) w)))
    (s1 : Sp) (k1 : Bool) (I1 : Hid (∀ w, Calls Try.prog 70 #[.int .u8 op, sV a.2, sV b.2] w (Gives (sBV s1 k1) w)))
    (x : Fc) (V1 : Hid (∀ w, Calls Try.prog 71 #[fV a, sV s1, .bool k1] w (Gives (fBV x true) w)))
    (tn : Int) (T : Hid (∀ w, Calls Try.prog 72 #[.int .u8 op] w (Gives (.tuple #[.int .u8 tn, .bool false]) w)))
    (y : Fc) (V2 : Hid (∀ w, Calls Try.prog 71 #[fV b, sV b.2, .bool true] w (Gives (fBV y true) w))) :
    Calls Try.prog 34 #[.int .u8 op, .bool true, fV a, fV b] w (Gives (fTV x y true) w) := by
  cases kx <;> cases ky
  case true.true => cases hk
  all_goals
    clear hk
    have hx : Hid (FQ a b fZ fZ w ((((w.alloc (.cells #[uV a.1.1, uV a.1.2, .int .u64 a.2.1, .int .u64 a.2.2] 28)).alloc (.cells #[uV b.1.1, uV b.1.2, .int .u64 b.2.1, .int .u64 b.2.2] 28)).alloc (.cells #[.int .u64 0, .int .u64 0, .int .u64 0, .int .u64 0] 28)).alloc (.cells #[.int .u64 0, .int .u64 0, .int .u64 0, .int .u64 0] 28))) := Lib.hid (FQ.new a b fZ fZ w)
    go_enter Try.func34, Try.ntmps34
    go_wp2_with fail
    refine (R1.out _).mono ?_; rintro e w1 ⟨rfl, b1⟩
    have Q1 := hx.out.after b1
    clear hx b1 R1 
    obtain ⟨p0, p1, p2, p3⟩ := Q1.1.2.1.cells
    obtain ⟨q0, q1, q2, q3⟩ := Q1.1.2.2.cells
    obtain ⟨c0, c1, c2, c3⟩ := Q1.2.1.cells
    obtain ⟨d0, d1, d2, d3⟩ := Q1.2.2.cells
    obtain ⟨f0, f1, f2, f3⟩ := Q1.2.1.free
    obtain ⟨h0, h1, h2, h3⟩ := Q1.2.2.free
    have la := Q1.1.2.1.lt
    have lb := Q1.1.2.2.lt
    have lc := Q1.2.1.lt
    have ld := Q1.2.2.lt
    have QH1 := Lib.hid Q1
    clear Q1
    go_wp2_with fail
    refine (R2.out _).mono ?_; rintro e w2 ⟨rfl, b2⟩
    have Q2 := QH1.out.after b2
    clear QH1 b2 R2 p0 p1 p2 p3 q0 q1 q2 q3 c0 c1 c2 c3 d0 d1 d2 d3 f0 f1 f2 f3 h0 h1 h2 h3 la lb lc ld
    obtain ⟨p0, p1, p2, p3⟩ := Q2.1.2.1.cells
    obtain ⟨q0, q1, q2, q3⟩ := Q2.1.2.2.cells
    obtain ⟨c0, c1, c2, c3⟩ := Q2.2.1.cells
    obtain ⟨d0, d1, d2, d3⟩ := Q2.2.2.cells
    obtain ⟨f0, f1, f2, f3⟩ := Q2.2.1.free
    obtain ⟨h0, h1, h2, h3⟩ := Q2.2.2.free
    have la := Q2.1.2.1.lt
    have lb := Q2.1.2.2.lt
    have lc := Q2.2.1.lt
    have ld := Q2.2.2.lt
    have QH2 := Lib.hid Q2
    clear Q2
    go_wp2_with fail
    refine (K1.out _).mono ?_; rintro e w3 ⟨rfl, b3⟩
    have Q3 := QH2.out.after b3
    clear QH2 b3 K1 p0 p1 p2 p3 q0 q1 q2 q3 c0 c1 c2 c3 d0 d1 d2 d3 f0 f1 f2 f3 h0 h1 h2 h3 la lb lc ld
    obtain ⟨p0, p1, p2, p3⟩ := Q3.1.2.1.cells
    obtain ⟨q0, q1, q2, q3⟩ := Q3.1.2.2.cells
    obtain ⟨c0, c1, c2, c3⟩ := Q3.2.1.cells
    obtain ⟨d0, d1, d2, d3⟩ := Q3.2.2.cells
    obtain ⟨f0, f1, f2, f3⟩ := Q3.2.1.free
    obtain ⟨h0, h1, h2, h3⟩ := Q3.2.2.free
    have la := Q3.1.2.1.lt
    have lb := Q3.1.2.2.lt
    have lc := Q3.2.1.lt
    have ld := Q3.2.2.lt
    have QH3 := Lib.hid Q3
    clear Q3
    go_wp2_with fail
    refine (K2.out _).mono ?_; rintro e w4 ⟨rfl, b4⟩
    have Q4 := QH3.out.after b4
    clear QH3 b4 K2 p0 p1 p2 p3 q0 q1 q2 q3 c0 c1 c2 c3 d0 d1 d2 d3 f0 f1 f2 f3 h0 h1 h2 h3 la lb lc ld
    obtain ⟨p0, p1, p2, p3⟩ := Q4.1.2.1.cells
    obtain ⟨q0, q1, q2, q3⟩ := Q4.1.2.2.cells
    obtain ⟨c0, c1, c2, c3⟩ := Q4.2.1.cells
    obtain ⟨d0, d1, d2, d3⟩ := Q4.2.2.cells
    obtain ⟨f0, f1, f2, f3⟩ := Q4.2.1.free
    obtain ⟨h0, h1, h2, h3⟩ := Q4.2.2.free
    have la := Q4.1.2.1.lt
    have lb := Q4.1.2.2.lt
    have lc := Q4.2.1.lt
    have ld := Q4.2.2.lt
    have QH4 := Lib.hid Q4
    clear Q4
    go_wp2_with fail
    refine (I1.out _).mono ?_; rintro e w5 ⟨rfl, b5⟩
    have Q5 := ((QH4.out.alloc (.cells #[uV a.1.1, uV a.1.2, .int .u64 a.2.1, .int .u64 a.2.2] 28)).alloc (.cells #[uV b.1.1, uV b.1.2, .int .u64 b.2.1, .int .u64 b.2.2] 28)).after b5
    have x5 : Blk w4.heap.size #[uV a.1.1, uV a.1.2, .int .u64 a.2.1, .int .u64 a.2.2] 28 w5 := ((Blk.new w4 _ _ rfl).allocd (.cells #[uV b.1.1, uV b.1.2, .int .u64 b.2.1, .int .u64 b.2.2] 28)).after b5
    have y5 : Blk (w4.heap.size + 1) #[uV b.1.1, uV b.1.2, .int .u64 b.2.1, .int .u64 b.2.2] 28 w5 := Blk.after (Blk.new (w4.alloc (.cells #[uV a.1.1, uV a.1.2, .int .u64 a.2.1, .int .u64 a.2.2] 28)) _ _ (by simp)) b5
    have kg : w.heap.size + 1 + 1 + 1 < w4.heap.size := ld
    clear QH4 b5 p0 p1 p2 p3 q0 q1 q2 q3 c0 c1 c2 c3 d0 d1 d2 d3 f0 f1 f2 f3 h0 h1 h2 h3 la lb lc ld
    generalize w4.heap.size = g at *
    obtain ⟨p0, p1, p2, p3⟩ := Q5.1.2.1.cells
    obtain ⟨q0, q1, q2, q3⟩ := Q5.1.2.2.cells
    obtain ⟨c0, c1, c2, c3⟩ := Q5.2.1.cells
    obtain ⟨d0, d1, d2, d3⟩ := Q5.2.2.cells
    obtain ⟨f0, f1, f2, f3⟩ := Q5.2.1.free
    obtain ⟨h0, h1, h2, h3⟩ := Q5.2.2.free
    have la := Q5.1.2.1.lt
    have lb := Q5.1.2.2.lt
    have lc := Q5.2.1.lt
    have ld := Q5.2.2.lt
    obtain ⟨x0, x1, x2, x3⟩ := Blk.four x5
    obtain ⟨xf0, xf1, xf2, xf3⟩ := Blk.frees x5
    have xl := Blk.lt x5
    obtain ⟨y0, y1, y2, y3⟩ := Blk.four y5
    obtain ⟨yf0, yf1, yf2, yf3⟩ := Blk.frees y5
    have yl := Blk.lt y5
    clear I1
    have QH := Lib.hid Q5
    have xH := Lib.hid x5
    have yH := Lib.hid y5
    clear Q5 x5 y5
    go_wp2_with fail
    refine (V1.out _).mono ?_; rintro e w6 ⟨rfl, b6⟩
    have Q6 := (QH.out.alloc (.cells #[.int .u64 s1.1, .int .u64 s1.2] 26)).after b6
    have x6 := Blk.after (xH.out.allocd (.cells #[.int .u64 s1.1, .int .u64 s1.2] 26)) b6
    have y6 := Blk.after (yH.out.allocd (.cells #[.int .u64 s1.1, .int .u64 s1.2] 26)) b6
    clear QH xH yH b6 p0 p1 p2 p3 q0 q1 q2 q3 c0 c1 c2 c3 d0 d1 d2 d3 f0 f1 f2 f3 h0 h1 h2 h3 la lb lc ld x0 x1 x2 x3 xf0 xf1 xf2 xf3 xl y0 y1 y2 y3 yf0 yf1 yf2 yf3 yl
    obtain ⟨p0, p1, p2, p3⟩ := Q6.1.2.1.cells
    obtain ⟨q0, q1, q2, q3⟩ := Q6.1.2.2.cells
    obtain ⟨c0, c1, c2, c3⟩ := Q6.2.1.cells
    obtain ⟨d0, d1, d2, d3⟩ := Q6.2.2.cells
    obtain ⟨f0, f1, f2, f3⟩ := Q6.2.1.free
    obtain ⟨h0, h1, h2, h3⟩ := Q6.2.2.free
    have la := Q6.1.2.1.lt
    have lb := Q6.1.2.2.lt
    have lc := Q6.2.1.lt
    have ld := Q6.2.2.lt
    obtain ⟨x0, x1, x2, x3⟩ := Blk.four x6
    obtain ⟨xf0, xf1, xf2, xf3⟩ := Blk.frees x6
    have xl := Blk.lt x6
    obtain ⟨y0, y1, y2, y3⟩ := Blk.four y6
    obtain ⟨yf0, yf1, yf2, yf3⟩ := Blk.frees y6
    have yl := Blk.lt y6
    have QH := Lib.hid Q6
    have xH := Lib.hid x6
    have yH := Lib.hid y6
    clear Q6 x6 y6
    clear V1
    go_wp2_with fail
    refine (T.out _).mono ?_; rintro e w7 ⟨rfl, b7⟩
    have Q7 := (QH.out.other4 (k := g) (by omega) (uV x.1.1) (uV x.1.2) (.int .u64 x.2.1) (.int .u64 x.2.2)).after b7
    have x7 := Blk.after (Blk.set4 xH.out (uV x.1.1) (uV x.1.2) (.int .u64 x.2.1) (.int .u64 x.2.2)) b7
    have y7 := Blk.after (Blk.other4 (k := g) yH.out (by omega) (uV x.1.1) (uV x.1.2) (.int .u64 x.2.1) (.int .u64 x.2.2)) b7
    clear QH xH yH b7 p0 p1 p2 p3 q0 q1 q2 q3 c0 c1 c2 c3 d0 d1 d2 d3 f0 f1 f2 f3 h0 h1 h2 h3 la lb lc ld x0 x1 x2 x3 xf0 xf1 xf2 xf3 xl y0 y1 y2 y3 yf0 yf1 yf2 yf3 yl
    obtain ⟨p0, p1, p2, p3⟩ := Q7.1.2.1.cells
    obtain ⟨q0, q1, q2, q3⟩ := Q7.1.2.2.cells
    obtain ⟨c0, c1, c2, c3⟩ := Q7.2.1.cells
    obtain ⟨d0, d1, d2, d3⟩ := Q7.2.2.cells
    obtain ⟨f0, f1, f2, f3⟩ := Q7.2.1.free
    obtain ⟨h0, h1, h2, h3⟩ := Q7.2.2.free
    have la := Q7.1.2.1.lt
    have lb := Q7.1.2.2.lt
    have lc := Q7.2.1.lt
    have ld := Q7.2.2.lt
    obtain ⟨x0, x1, x2, x3⟩ := Blk.four x7
    obtain ⟨xf0, xf1, xf2, xf3⟩ := Blk.frees x7
    have xl := Blk.lt x7
    obtain ⟨y0, y1, y2, y3⟩ := Blk.four y7
    obtain ⟨yf0, yf1, yf2, yf3⟩ := Blk.frees y7
    have yl := Blk.lt y7
    have QH := Lib.hid Q7
    have xH := Lib.hid x7
    have yH := Lib.hid y7
    clear Q7 x7 y7
    clear T
    go_wp2_with fail
    refine (V2.out _).mono ?_; rintro e w9 ⟨rfl, b9⟩
    have Q9 := (QH.out.alloc (.cells #[.int .u64 b.2.1, .int .u64 b.2.2] 26)).after b9
    have x9 := Blk.after (xH.out.allocd (.cells #[.int .u64 b.2.1, .int .u64 b.2.2] 26)) b9
    have y9 := Blk.after (yH.out.allocd (.cells #[.int .u64 b.2.1, .int .u64 b.2.2] 26)) b9
    clear QH xH yH b9 p0 p1 p2 p3 q0 q1 q2 q3 c0 c1 c2 c3 d0 d1 d2 d3 f0 f1 f2 f3 h0 h1 h2 h3 la lb lc ld x0 x1 x2 x3 xf0 xf1 xf2 xf3 xl y0 y1 y2 y3 yf0 yf1 yf2 yf3 yl
    obtain ⟨p0, p1, p2, p3⟩ := Q9.1.2.1.cells
    obtain ⟨q0, q1, q2, q3⟩ := Q9.1.2.2.cells
    obtain ⟨c0, c1, c2, c3⟩ := Q9.2.1.cells
    obtain ⟨d0, d1, d2, d3⟩ := Q9.2.2.cells
    obtain ⟨f0, f1, f2, f3⟩ := Q9.2.1.free
    obtain ⟨h0, h1, h2, h3⟩ := Q9.2.2.free
    have la := Q9.1.2.1.lt
    have lb := Q9.1.2.2.lt
    have lc := Q9.2.1.lt
    have ld := Q9.2.2.lt
    obtain ⟨x0, x1, x2, x3⟩ := Blk.four x9
    obtain ⟨xf0, xf1, xf2, xf3⟩ := Blk.frees x9
    have xl := Blk.lt x9
    obtain ⟨y0, y1, y2, y3⟩ := Blk.four y9
    obtain ⟨yf0, yf1, yf2, yf3⟩ := Blk.frees y9
    have yl := Blk.lt y9
    have QH := Lib.hid Q9
    have xH := Lib.hid x9
    have yH := Lib.hid y9
    clear Q9 x9 y9
    clear V2
    have Q10 := QH.out.other4 (k := g + 1) (by omega) (uV y.1.1) (uV y.1.2) (.int .u64 y.2.1) (.int .u64 y.2.2)
    have x10 := Blk.other4 (k := g + 1) xH.out (by omega) (uV y.1.1) (uV y.1.2) (.int .u64 y.2.1) (.int .u64 y.2.2)
    have y10 := Blk.set4 yH.out (uV y.1.1) (uV y.1.2) (.int .u64 y.2.1) (.int .u64 y.2.2)
    clear QH xH yH
    go_wp2_with fail
    clear p0 p1 p2 p3 q0 q1 q2 q3 c0 c1 c2 c3 d0 d1 d2 d3 f0 f1 f2 f3 h0 h1 h2 h3 la lb lc ld x0 x1 x2 x3 xf0 xf1 xf2 xf3 xl y0 y1 y2 y3 yf0 yf1 yf2 yf3 yl
    generalize (World.setCell (World.setCell (World.setCell (World.setCell w9 ⟨g + 1, 0, none⟩ (uV y.1.1)) ⟨g + 1, 1, none⟩ (uV y.1.2)) ⟨g + 1, 2, none⟩ (.int .u64 y.2.1)) ⟨g + 1, 3, none⟩ (.int .u64 y.2.2)) = uf at *
    obtain ⟨p0, p1, p2, p3⟩ := Q10.1.2.1.cells
    obtain ⟨q0, q1, q2, q3⟩ := Q10.1.2.2.cells
    obtain ⟨c0, c1, c2, c3⟩ := Q10.2.1.cells
    obtain ⟨d0, d1, d2, d3⟩ := Q10.2.2.cells
    obtain ⟨f0, f1, f2, f3⟩ := Q10.2.1.free
    obtain ⟨h0, h1, h2, h3⟩ := Q10.2.2.free
    have la := Q10.1.2.1.lt
    have lb := Q10.1.2.2.lt
    have lc := Q10.2.1.lt
    have ld := Q10.2.2.lt
    obtain ⟨x0, x1, x2, x3⟩ := Blk.four x10
    obtain ⟨xf0, xf1, xf2, xf3⟩ := Blk.frees x10
    have xl := Blk.lt x10
    obtain ⟨y0, y1, y2, y3⟩ := Blk.four y10
    obtain ⟨yf0, yf1, yf2, yf3⟩ := Blk.frees y10
    have yl := Blk.lt y10
    have XE := Lib.hid (((Q10.xs x).ys y).after (Below.drew (Below.refl _ _)))
    clear Q10 x10 y10
    go_region
    go_wp2_with fail
    exact bodyPost_ret (v := fTV x y true) (by simp [results, Try.results34, go_sem, c0, c1, c2, c3, d0, d1, d2, d3]) rfl ⟨rfl, XE.out.1.1⟩

set_option maxRecDepth 100000 in
set_option maxHeartbeats 8000000 in
theorem rf_if_a_ttn (op : Int) (ho : (op == 16) = false) (kx ky : Bool) (hk : (kx && ky) = false) (a b : Fc) (w : World)
    (R1 : Hid (∀ w, Calls Try.prog 18 #[fV a] w (Gives (.bool true) w)))
    (R2 : Hid (∀ w, Calls Try.prog 18 #[fV b] w (Gives (.bool true) w)))
    (p : BitVec 64) (K1 : Hid (∀ w, Calls Try.prog 15 #[fV a] w (Gives (.tuple #[uV p, .bool kx]) w)))
    (q : BitVec 64) (K2 : Hid (∀ w, Calls Try.prog 15 #[fV b] w (Gives (.tuple #[uV q, .bool ky]) w)))
    (s1 : Sp) (k1 : Bool) (I1 : Hid (∀ w, Calls Try.prog 70 #[.int .u8 op, sV a.2, sV b.2] w (Gives (sBV s1 k1) w)))
    (x : Fc) (V1 : Hid (∀ w, Calls Try.prog 71 #[fV a, sV s1, .bool k1] w (Gives (fBV x true) w)))
    (tn : Int) (T : Hid (∀ w, Calls Try.prog 72 #[.int .u8 op] w (Gives (.tuple #[.int .u8 tn, .bool false]) w)))
    (y : Fc) (V2 : Hid (∀ w, Calls Try.prog 71 #[fV b, sV b.2, .bool true] w (Gives (fBV y true) w)))
    (hs : a.2.2 < 4294967296 ∧ b.2.2 < 4294967296) :
    Calls Try.prog 34 #[.int .u8 op, .bool false, fV a, fV b] w (Gives (fTV x y true) w) := by
  cases kx <;> cases ky
  case true.true => cases hk
  all_goals
    clear hk
    obtain ⟨hs1, hs2⟩ := hs
    have hx : Hid (FQ a b fZ fZ w ((((w.alloc (.cells #[uV a.1.1, uV a.1.2, .int .u64 a.2.1, .int .u64 a.2.2] 28)).alloc (.cells #[uV b.1.1, uV b.1.2, .int .u64 b.2.1, .int .u64 b.2.2] 28)).alloc (.cells #[.int .u64 0, .int .u64 0, .int .u64 0, .int .u64 0] 28)).alloc (.cells #[.int .u64 0, .int .u64 0, .int .u64 0, .int .u64 0] 28))) := Lib.hid (FQ.new a b fZ fZ w)
    go_enter Try.func34, Try.ntmps34
    go_wp2_with fail
    refine (R1.out _).mono ?_; rintro e w1 ⟨rfl, b1⟩
    have Q1 := hx.out.after b1
    clear hx b1 R1 
    obtain ⟨p0, p1, p2, p3⟩ := Q1.1.2.1.cells
    obtain ⟨q0, q1, q2, q3⟩ := Q1.1.2.2.cells
    obtain ⟨c0, c1, c2, c3⟩ := Q1.2.1.cells
    obtain ⟨d0, d1, d2, d3⟩ := Q1.2.2.cells
    obtain ⟨f0, f1, f2, f3⟩ := Q1.2.1.free
    obtain ⟨h0, h1, h2, h3⟩ := Q1.2.2.free
    have la := Q1.1.2.1.lt
    have lb := Q1.1.2.2.lt
    have lc := Q1.2.1.lt
    have ld := Q1.2.2.lt
    have QH1 := Lib.hid Q1
    clear Q1
    go_wp2_with fail
    refine (R2.out _).mono ?_; rintro e w2 ⟨rfl, b2⟩
    have Q2 := QH1.out.after b2
    clear QH1 b2 R2 p0 p1 p2 p3 q0 q1 q2 q3 c0 c1 c2 c3 d0 d1 d2 d3 f0 f1 f2 f3 h0 h1 h2 h3 la lb lc ld
    obtain ⟨p0, p1, p2, p3⟩ := Q2.1.2.1.cells
    obtain ⟨q0, q1, q2, q3⟩ := Q2.1.2.2.cells
    obtain ⟨c0, c1, c2, c3⟩ := Q2.2.1.cells
    obtain ⟨d0, d1, d2, d3⟩ := Q2.2.2.cells
    obtain ⟨f0, f1, f2, f3⟩ := Q2.2.1.free
    obtain ⟨h0, h1, h2, h3⟩ := Q2.2.2.free
    have la := Q2.1.2.1.lt
    have lb := Q2.1.2.2.lt
    have lc := Q2.2.1.lt
    have ld := Q2.2.2.lt
    have QH2 := Lib.hid Q2
    clear Q2
    go_wp2_with fail
    refine (K1.out _).mono ?_; rintro e w3 ⟨rfl, b3⟩
    have Q3 := QH2.out.after b3
    clear QH2 b3 K1 p0 p1 p2 p3 q0 q1 q2 q3 c0 c1 c2 c3 d0 d1 d2 d3 f0 f1 f2 f3 h0 h1 h2 h3 la lb lc ld
    obtain ⟨p0, p1, p2, p3⟩ := Q3.1.2.1.cells
    obtain ⟨q0, q1, q2, q3⟩ := Q3.1.2.2.cells
    obtain ⟨c0, c1, c2, c3⟩ := Q3.2.1.cells
    obtain ⟨d0, d1, d2, d3⟩ := Q3.2.2.cells
    obtain ⟨f0, f1, f2, f3⟩ := Q3.2.1.free
    obtain ⟨h0, h1, h2, h3⟩ := Q3.2.2.free
    have la := Q3.1.2.1.lt
    have lb := Q3.1.2.2.lt
    have lc := Q3.2.1.lt
    have ld := Q3.2.2.lt
    have QH3 := Lib.hid Q3
    clear Q3
    go_wp2_with fail
    refine (K2.out _).mono ?_; rintro e w4 ⟨rfl, b4⟩
    have Q4 := QH3.out.after b4
    clear QH3 b4 K2 p0 p1 p2 p3 q0 q1 q2 q3 c0 c1 c2 c3 d0 d1 d2 d3 f0 f1 f2 f3 h0 h1 h2 h3 la lb lc ld
    obtain ⟨p0, p1, p2, p3⟩ := Q4.1.2.1.cells
    obtain ⟨q0, q1, q2, q3⟩ := Q4.1.2.2.cells
    obtain ⟨c0, c1, c2, c3⟩ := Q4.2.1.cells
    obtain ⟨d0, d1, d2, d3⟩ := Q4.2.2.cells
    obtain ⟨f0, f1, f2, f3⟩ := Q4.2.1.free
    obtain ⟨h0, h1, h2, h3⟩ := Q4.2.2.free
    have la := Q4.1.2.1.lt
    have lb := Q4.1.2.2.lt
    have lc := Q4.2.1.lt
    have ld := Q4.2.2.lt
    have QH4 := Lib.hid Q4
    clear Q4
    go_wp2_with fail
    refine (I1.out _).mono ?_; rintro e w5 ⟨rfl, b5⟩
    have Q5 := ((QH4.out.alloc (.cells #[uV a.1.1, uV a.1.2, .int .u64 a.2.1, .int .u64 a.2.2] 28)).alloc (.cells #[uV b.1.1, uV b.1.2, .int .u64 b.2.1, .int .u64 b.2.2] 28)).after b5
    have x5 : Blk w4.heap.size #[uV a.1.1, uV a.1.2, .int .u64 a.2.1, .int .u64 a.2.2] 28 w5 := ((Blk.new w4 _ _ rfl).allocd (.cells #[uV b.1.1, uV b.1.2, .int .u64 b.2.1, .int .u64 b.2.2] 28)).after b5
    have y5 : Blk (w4.heap.size + 1) #[uV b.1.1, uV b.1.2, .int .u64 b.2.1, .int .u64 b.2.2] 28 w5 := Blk.after (Blk.new (w4.alloc (.cells #[uV a.1.1, uV a.1.2, .int .u64 a.2.1, .int .u64 a.2.2] 28)) _ _ (by simp)) b5
    have kg : w.heap.size + 1 + 1 + 1 < w4.heap.size := ld
    clear QH4 b5 p0 p1 p2 p3 q0 q1 q2 q3 c0 c1 c2 c3 d0 d1 d2 d3 f0 f1 f2 f3 h0 h1 h2 h3 la lb lc ld
    generalize w4.heap.size = g at *
    obtain ⟨p0, p1, p2, p3⟩ := Q5.1.2.1.cells
    obtain ⟨q0, q1, q2, q3⟩ := Q5.1.2.2.cells
    obtain ⟨c0, c1, c2, c3⟩ := Q5.2.1.cells
    obtain ⟨d0, d1, d2, d3⟩ := Q5.2.2.cells
    obtain ⟨f0, f1, f2, f3⟩ := Q5.2.1.free
    obtain ⟨h0, h1, h2, h3⟩ := Q5.2.2.free
    have la := Q5.1.2.1.lt
    have lb := Q5.1.2.2.lt
    have lc := Q5.2.1.lt
    have ld := Q5.2.2.lt
    obtain ⟨x0, x1, x2, x3⟩ := Blk.four x5
    obtain ⟨xf0, xf1, xf2, xf3⟩ := Blk.frees x5
    have xl := Blk.lt x5
    obtain ⟨y0, y1, y2, y3⟩ := Blk.four y5
    obtain ⟨yf0, yf1, yf2, yf3⟩ := Blk.frees y5
    have yl := Blk.lt y5
    clear I1
    have QH := Lib.hid Q5
    have xH := Lib.hid x5
    have yH := Lib.hid y5
    clear Q5 x5 y5
    go_wp2_with fail
    refine (V1.out _).mono ?_; rintro e w6 ⟨rfl, b6⟩
    have Q6 := (QH.out.alloc (.cells #[.int .u64 s1.1, .int .u64 s1.2] 26)).after b6
    have x6 := Blk.after (xH.out.allocd (.cells #[.int .u64 s1.1, .int .u64 s1.2] 26)) b6
    have y6 := Blk.after (yH.out.allocd (.cells #[.int .u64 s1.1, .int .u64 s1.2] 26)) b6
    clear QH xH yH b6 p0 p1 p2 p3 q0 q1 q2 q3 c0 c1 c2 c3 d0 d1 d2 d3 f0 f1 f2 f3 h0 h1 h2 h3 la lb lc ld x0 x1 x2 x3 xf0 xf1 xf2 xf3 xl y0 y1 y2 y3 yf0 yf1 yf2 yf3 yl
    obtain ⟨p0, p1, p2, p3⟩ := Q6.1.2.1.cells
    obtain ⟨q0, q1, q2, q3⟩ := Q6.1.2.2.cells
    obtain ⟨c0, c1, c2, c3⟩ := Q6.2.1.cells
    obtain ⟨d0, d1, d2, d3⟩ := Q6.2.2.cells
    obtain ⟨f0, f1, f2, f3⟩ := Q6.2.1.free
    obtain ⟨h0, h1, h2, h3⟩ := Q6.2.2.free
    have la := Q6.1.2.1.lt
    have lb := Q6.1.2.2.lt
    have lc := Q6.2.1.lt
    have ld := Q6.2.2.lt
    obtain ⟨x0, x1, x2, x3⟩ := Blk.four x6
    obtain ⟨xf0, xf1, xf2, xf3⟩ := Blk.frees x6
    have xl := Blk.lt x6
    obtain ⟨y0, y1, y2, y3⟩ := Blk.four y6
    obtain ⟨yf0, yf1, yf2, yf3⟩ := Blk.frees y6
    have yl := Blk.lt y6
    have QH := Lib.hid Q6
    have xH := Lib.hid x6
    have yH := Lib.hid y6
    clear Q6 x6 y6
    clear V1
    go_wp2_with fail
    refine (T.out _).mono ?_; rintro e w7 ⟨rfl, b7⟩
    have Q7 := (QH.out.other4 (k := g) (by omega) (uV x.1.1) (uV x.1.2) (.int .u64 x.2.1) (.int .u64 x.2.2)).after b7
    have x7 := Blk.after (Blk.set4 xH.out (uV x.1.1) (uV x.1.2) (.int .u64 x.2.1) (.int .u64 x.2.2)) b7
    have y7 := Blk.after (Blk.other4 (k := g) yH.out (by omega) (uV x.1.1) (uV x.1.2) (.int .u64 x.2.1) (.int .u64 x.2.2)) b7
    clear QH xH yH b7 p0 p1 p2 p3 q0 q1 q2 q3 c0 c1 c2 c3 d0 d1 d2 d3 f0 f1 f2 f3 h0 h1 h2 h3 la lb lc ld x0 x1 x2 x3 xf0 xf1 xf2 xf3 xl y0 y1 y2 y3 yf0 yf1 yf2 yf3 yl
    obtain ⟨p0, p1, p2, p3⟩ := Q7.1.2.1.cells
    obtain ⟨q0, q1, q2, q3⟩ := Q7.1.2.2.cells
    obtain ⟨c0, c1, c2, c3⟩ := Q7.2.1.cells
    obtain ⟨d0, d1, d2, d3⟩ := Q7.2.2.cells
    obtain ⟨f0, f1, f2, f3⟩ := Q7.2.1.free
    obtain ⟨h0, h1, h2, h3⟩ := Q7.2.2.free
    have la := Q7.1.2.1.lt
    have lb := Q7.1.2.2.lt
    have lc := Q7.2.1.lt
    have ld := Q7.2.2.lt
    obtain ⟨x0, x1, x2, x3⟩ := Blk.four x7
    obtain ⟨xf0, xf1, xf2, xf3⟩ := Blk.frees x7
    have xl := Blk.lt x7
    obtain ⟨y0, y1, y2, y3⟩ := Blk.four y7
    obtain ⟨yf0, yf1, yf2, yf3⟩ := Blk.frees y7
    have yl := Blk.lt y7
    have QH := Lib.hid Q7
    have xH := Lib.hid x7
    have yH := Lib.hid y7
    clear Q7 x7 y7
    clear T
    go_wp2_with fail
    refine (V2.out _).mono ?_; rintro e w9 ⟨rfl, b9⟩
    have Q9 := (QH.out.alloc (.cells #[.int .u64 b.2.1, .int .u64 b.2.2] 26)).after b9
    have x9 := Blk.after (xH.out.allocd (.cells #[.int .u64 b.2.1, .int .u64 b.2.2] 26)) b9
    have y9 := Blk.after (yH.out.allocd (.cells #[.int .u64 b.2.1, .int .u64 b.2.2] 26)) b9
    clear QH xH yH b9 p0 p1 p2 p3 q0 q1 q2 q3 c0 c1 c2 c3 d0 d1 d2 d3 f0 f1 f2 f3 h0 h1 h2 h3 la lb lc ld x0 x1 x2 x3 xf0 xf1 xf2 xf3 xl y0 y1 y2 y3 yf0 yf1 yf2 yf3 yl
    obtain ⟨p0, p1, p2, p3⟩ := Q9.1.2.1.cells
    obtain ⟨q0, q1, q2, q3⟩ := Q9.1.2.2.cells
    obtain ⟨c0, c1, c2, c3⟩ := Q9.2.1.cells
    obtain ⟨d0, d1, d2, d3⟩ := Q9.2.2.cells
    obtain ⟨f0, f1, f2, f3⟩ := Q9.2.1.free
    obtain ⟨h0, h1, h2, h3⟩ := Q9.2.2.free
    have la := Q9.1.2.1.lt
    have lb := Q9.1.2.2.lt
    have lc := Q9.2.1.lt
    have ld := Q9.2.2.lt
    obtain ⟨x0, x1, x2, x3⟩ := Blk.four x9
    obtain ⟨xf0, xf1, xf2, xf3⟩ := Blk.frees x9
    have xl := Blk.lt x9
    obtain ⟨y0, y1, y2, y3⟩ := Blk.four y9
    obtain ⟨yf0, yf1, yf2, yf3⟩ := Blk.frees y9
    have yl := Blk.lt y9
    have QH := Lib.hid Q9
    have xH := Lib.hid x9
    have yH := Lib.hid y9
    clear Q9 x9 y9
    clear V2
    have Q10 := QH.out.other4 (k := g + 1) (by omega) (uV y.1.1) (uV y.1.2) (.int .u64 y.2.1) (.int .u64 y.2.2)
    have x10 := Blk.other4 (k := g + 1) xH.out (by omega) (uV y.1.1) (uV y.1.2) (.int .u64 y.2.1) (.int .u64 y.2.2)
    have y10 := Blk.set4 yH.out (uV y.1.1) (uV y.1.2) (.int .u64 y.2.1) (.int .u64 y.2.2)
    clear QH xH yH
    go_wp2_with fail
    clear p0 p1 p2 p3 q0 q1 q2 q3 c0 c1 c2 c3 d0 d1 d2 d3 f0 f1 f2 f3 h0 h1 h2 h3 la lb lc ld x0 x1 x2 x3 xf0 xf1 xf2 xf3 xl y0 y1 y2 y3 yf0 yf1 yf2 yf3 yl
    generalize (World.setCell (World.setCell (World.setCell (World.setCell w9 ⟨g + 1, 0, none⟩ (uV y.1.1)) ⟨g + 1, 1, none⟩ (uV y.1.2)) ⟨g + 1, 2, none⟩ (.int .u64 y.2.1)) ⟨g + 1, 3, none⟩ (.int .u64 y.2.2)) = uf at *
    obtain ⟨p0, p1, p2, p3⟩ := Q10.1.2.1.cells
    obtain ⟨q0, q1, q2, q3⟩ := Q10.1.2.2.cells
    obtain ⟨c0, c1, c2, c3⟩ := Q10.2.1.cells
    obtain ⟨d0, d1, d2, d3⟩ := Q10.2.2.cells
    obtain ⟨f0, f1, f2, f3⟩ := Q10.2.1.free
    obtain ⟨h0, h1, h2, h3⟩ := Q10.2.2.free
    have la := Q10.1.2.1.lt
    have lb := Q10.1.2.2.lt
    have lc := Q10.2.1.lt
    have ld := Q10.2.2.lt
    obtain ⟨x0, x1, x2, x3⟩ := Blk.four x10
    obtain ⟨xf0, xf1, xf2, xf3⟩ := Blk.frees x10
    have xl := Blk.lt x10
    obtain ⟨y0, y1, y2, y3⟩ := Blk.four y10
    obtain ⟨yf0, yf1, yf2, yf3⟩ := Blk.frees y10
    have yl := Blk.lt y10
    have XE := Lib.hid (((Q10.xs x).ys y).after (Below.drew (Below.refl _ _)))
    clear Q10 x10 y10
    go_region
    go_wp2_with fail
    exact bodyPost_ret (v := fTV x y true) (by simp [results, Try.results34, go_sem, c0, c1, c2, c3, d0, d1, d2, d3]) rfl ⟨rfl, XE.out.1.1⟩

end Go.Proofs.Ytfepokiibdkoeaa

