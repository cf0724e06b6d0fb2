/-
  The document's own answers of layer 4: Join, add, Meet, Cut.
  Conditions: none.
-/
import Derived.Test.YtkiekbkjhlbnhaaRef04b
import Derived.Test.YtkiekbkjhlbnhaaTnumJoin
import Derived.StillTailTactics
namespace Go.Proofs.Ytkiekbkjhlbnhaa
open Go.RowKit
set_option linter.unusedVariables false

set_option maxHeartbeats 1000000 in
theorem rjoin_says (a b : Tn) (w : World) : Calls Try.prog 21 #[tV a, tV b] w (Gives (tV (tJ a b)) w) := by
  have hx := Lib.hid (Trio.new a b w)
  have h1 := Lib.hid (rboth_says a b)
  unfold tJ
  generalize tRR a b = r1 at *
  cases r1
  · rw [if_neg (by decide)]
    go_enter Try.func21, Try.ntmps21
    go_wp2_with fail
    refine (h1.out _).mono ?_; rintro e w1 ⟨rfl, b1⟩
    have x1 := hx.out.after b1
    obtain ⟨c0, c1⟩ := x1.2.cells
    obtain ⟨f0, f1⟩ := x1.2.free
    have X1 := Lib.hid (x1.set (0#64, 0#64))
    clear x1 hx b1
    go_wp2_with fail
    exact bodyPost_ret (v := tV (0#64, 0#64)) (by simp [results, Try.results21, go_sem, c0, c1]) rfl ⟨rfl, X1.out.1.1⟩
  · rw [if_pos rfl]
    generalize ht : tMade a.1 (a.2 ||| b.2 ||| (a.1 ^^^ b.1)) = t at *
    have ht := Lib.hid ht
    go_enter Try.func21, Try.ntmps21
    go_wp2_with fail
    refine (h1.out _).mono ?_; rintro e w1 ⟨rfl, b1⟩
    have x1 := hx.out.after b1
    obtain ⟨p0, p1, p2, p3⟩ := x1.1.cells
    obtain ⟨c0, c1⟩ := x1.2.cells
    obtain ⟨f0, f1⟩ := x1.2.free
    have X1 := Lib.hid x1
    clear x1 hx b1
    go_wp2_with fail
    simp only [bv_xor, bv_or]
    refine (rmade_says _ _ _).mono ?_; rintro e w2 ⟨rfl, b2⟩
    rw [ht.out]
    have x2 := X1.out.after b2
    clear p0 p1 p2 p3 c0 c1 f0 f1 X1 b2 ht
    obtain ⟨c0, c1⟩ := x2.2.cells
    obtain ⟨f0, f1⟩ := x2.2.free
    have X2 := Lib.hid (x2.set t)
    clear x2
    go_wp2_with fail
    exact bodyPost_ret (v := tV t) (by simp [results, Try.results21, go_sem, c0, c1]) rfl ⟨rfl, X2.out.1.1⟩


set_option maxHeartbeats 1000000 in
theorem radd_says (a b : Tn) (w : World) : Calls Try.prog 38 #[tV a, tV b] w (Gives (tV (tAdd a b)) w) := by
  have hx := Lib.hid (Trio.new a b w)
  have ht := Lib.hid (show tMade (a.1 + b.1) (((a.2 + b.2 + (a.1 + b.1)) ^^^ (a.1 + b.1)) ||| a.2 ||| b.2) = tAdd a b from rfl)
  go_enter Try.func38, Try.ntmps38
  go_wp2_with fail
  simp only [bv_add', bv_xor, bv_or]
  refine (rmade_says _ _ _).mono ?_; rintro e w1 ⟨rfl, b1⟩
  rw [ht.out]
  have x1 := hx.out.after b1
  clear ht hx b1
  generalize tAdd a b = t at *
  obtain ⟨c0, c1⟩ := x1.2.cells
  obtain ⟨f0, f1⟩ := x1.2.free
  have X1 := Lib.hid (x1.set t)
  clear x1
  go_wp2_with fail
  exact bodyPost_ret (v := tV t) (by simp [results, Try.results38, go_sem, c0, c1]) rfl ⟨rfl, X1.out.1.1⟩

theorem mod_low (x : BitVec 64) (k : Nat) (h : k ≤ 63) : (x.toNat : Int).tmod (IntKind.u64.wrap (2 ^ k)) = ((tLow x k).toNat : Int) := by
  rw [IntKind.wrap_u64, pow_lt_64 k h, low_int]; exact Int.tmod_eq_emod_of_nonneg (bv_rng x).1
theorem rcut_no (t : Tn) (width : Int) (w : World) (h : tR t = false) : Calls Try.prog 23 #[tV t, .int .i64 width] w (Gives (tV (0#64, 0#64)) w) := by
  have hx := Lib.hid (Duo.new t w)
  have h1 := Lib.hid (rright_says t)
  rw [h] at h1
  clear h
  go_enter Try.func23, Try.ntmps23
  go_wp2_with fail
  refine (h1.out _).mono ?_; rintro e w1 ⟨rfl, b1⟩
  have x1 := hx.out.after b1
  obtain ⟨c0, c1⟩ := x1.2.2.cells
  obtain ⟨f0, f1⟩ := x1.2.2.free
  have X1 := Lib.hid (x1.set (0#64, 0#64))
  clear x1 hx b1
  go_wp2_with fail
  exact bodyPost_ret (v := tV (0#64, 0#64)) (by simp [results, Try.results23, go_sem, c0, c1]) rfl ⟨rfl, X1.out.1⟩
theorem rcut_all (t : Tn) (width : Int) (w : World) (h : tR t = true) (hw : width < 1 ∨ (1 ≤ width ∧ 63 < width)) : Calls Try.prog 23 #[tV t, .int .i64 width] w (Gives (tV t) w) := by
  have hx := Lib.hid (Duo.new t w)
  have h1 := Lib.hid (rright_says t)
  rw [h] at h1
  clear h
  rcases hw with hw | ⟨hw, hw'⟩
  all_goals
    go_enter Try.func23, Try.ntmps23
    go_wp2_with fail
    refine (h1.out _).mono ?_; rintro e w1 ⟨rfl, b1⟩
    have x1 := hx.out.after b1
    obtain ⟨p0, p1⟩ := x1.2.1.cells
    obtain ⟨c0, c1⟩ := x1.2.2.cells
    obtain ⟨f0, f1⟩ := x1.2.2.free
    have X1 := Lib.hid (x1.set t)
    clear x1 hx b1
    go_wp2_with fail
    exact bodyPost_ret (v := tV t) (by simp [results, Try.results23, go_sem, c0, c1]) rfl ⟨rfl, X1.out.1⟩
theorem rcut_some (t : Tn) (width : Int) (w : World) (h : tR t = true) (h1 : 1 ≤ width) (h2 : width ≤ 63) : Calls Try.prog 23 #[tV t, .int .i64 width] w (Gives (tV (tLow t.1 width.toNat, tLow t.2 width.toNat)) w) := by
  have hx := Lib.hid (Duo.new t w)
  have hr := Lib.hid (rright_says t)
  rw [h] at hr
  clear h
  obtain ⟨P, hP, hP1⟩ : ∃ P : Int, IntKind.u64.wrap (2 ^ width.toNat) = P ∧ 1 ≤ P := ⟨_, rfl, by rw [IntKind.wrap_u64, pow_lt_64 _ (by omega)]; exact (pow_le_64 _ (by omega)).1⟩
  have e1 := mod_low t.1 width.toNat (by omega)
  have e2 := mod_low t.2 width.toNat (by omega)
  rw [hP] at e1 e2
  have e8 : (P == 0) = false := beq_eq_false_iff_ne.mpr (by omega)
  have e9 : ¬ P = 0 := by omega
  generalize tLow t.1 width.toNat = l1 at *
  generalize tLow t.2 width.toNat = l2 at *
  go_enter Try.func23, Try.ntmps23
  go_wp2_with fail
  refine (hr.out _).mono ?_; rintro e w1 ⟨rfl, b1⟩
  have x1 := hx.out.after b1
  obtain ⟨p0, p1⟩ := x1.2.1.cells
  obtain ⟨c0, c1⟩ := x1.2.2.cells
  obtain ⟨f0, f1⟩ := x1.2.2.free
  have X1 := Lib.hid x1
  clear x1 hx b1
  go_wp2_with fail
  go_still_tail 11, (by kernel_rfl)
  change wpList _ _ _ _ _ w1.drew
  have X2 := Lib.hid (X1.out.after (Below.drew (Below.refl _ _)))
  clear X1 p0 p1 c0 c1 f0 f1
  generalize w1.drew = w2 at *
  obtain ⟨c0, c1⟩ := X2.out.2.2.cells
  obtain ⟨f0, f1⟩ := X2.out.2.2.free
  have X3 := Lib.hid (X2.out.set (l1, l2))
  go_wp2_with fail
  exact bodyPost_ret (v := tV (l1, l2)) (by simp [results, Try.results23, go_sem, c0, c1]) rfl ⟨rfl, X3.out.1⟩
theorem rcut_says (t : Tn) (width : Int) (w : World) : Calls Try.prog 23 #[tV t, .int .i64 width] w (Gives (tV (tC t width)) w) := by
  unfold tC
  cases h : tR t
  · exact rcut_no t width w h
  · rw [if_pos rfl]
    by_cases hw : width < 1 ∨ 63 < width
    · rw [if_pos hw]
      exact rcut_all t width w h (by omega)
    · rw [if_neg hw]
      exact rcut_some t width w h (by omega) (by omega)

end Go.Proofs.Ytkiekbkjhlbnhaa
