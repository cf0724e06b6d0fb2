/-
  P4.1: what is joined with itself, or met, is itself; what is known is within what it may be alone; Cut has the lowest bits.
  Conditions: none beyond the row's own.
-/
import Derived.Test.YtkiekbkjhlbnhaaTnumKnown
namespace Go.Proofs.Ytkiekbkjhlbnhaa
open Go.RowKit
set_option linter.unusedVariables false

/-! The contracts, part by part: one for each function, whatever its arguments. -/
theorem within_c (p q r s : BitVec 64) (w : World) : Calls Try.prog 18 #[.agg #[uV p, uV q], .agg #[uV r, uV s]] w (Gives (.bool (tW (p, q) (r, s))) w) := within_says (p, q) (r, s) w
theorem has_c (p q n : BitVec 64) (w : World) : Calls Try.prog 16 #[.agg #[uV p, uV q], uV n] w (Gives (.bool (tH (p, q) n)) w) := has_says (p, q) n w
theorem of_c (z0 : BitVec 64) (h : z0 = 0#64) (x : BitVec 64) (w : World) : Calls Try.prog 15 #[uV x] w (Gives (.agg #[uV x, uV z0]) w) := by subst h; exact of_says x w

set_option maxHeartbeats 4000000 in
theorem self_go (v m n o : BitVec 64) (width : Int) (w : World) (h0 : 0 ≤ width) (h1 : width ≤ 255) (q : Bool) (hq : tH (tMade v m) o = q) (hb : q = true ∨ q = false) :
    Calls Try.prog 8 #[uV v, uV m, uV n, uV o, .int .u8 width] w (Fine w) := by
  have hm : width.tmod 63 = width % 63 := Int.tmod_eq_emod_of_nonneg h0
  have M1 := Lib.hid (made_pick v m n)
  have rt := made_right v m
  have ht := pick_has v m n
  generalize tMade v m = t at *
  generalize pick v m n = x at *
  obtain ⟨k, P, L, e1, e2, e3, e4, e5, e6, e7⟩ := width_facts width h0 x
  have e8 : (P == 0) = false := beq_eq_false_iff_ne.mpr (by omega)
  have e9 : ¬ P = 0 := by omega
  have U := Lib.hid (meet_to (meet_self rt).2 (meet_self rt).1)
  have J' : ∀ w, Calls _ _ _ _ _ := join_says t t
  rw [join_self rt] at J'
  have J := Lib.hid J'
  clear J'
  have C := Lib.hid (cut_says t k)
  obtain ⟨z0, hz0⟩ : ∃ z0 : BitVec 64, z0 = 0#64 := ⟨_, rfl⟩
  have f1 : tW (t.1, t.2) (t.1, t.2) = true := within_self rt
  have f2 : tW (x, z0) (t.1, t.2) = true := by rw [hz0]; exact (of_within x t).trans ht
  have f3 : tW (o, z0) (t.1, t.2) = q := by rw [hz0]; exact (of_within o t).trans hq
  have f4 : tH (t.1, t.2) o = q := hq
  have f5 : tH ((tC t k).1, (tC t k).2) L = true := by rw [e7]; exact cut_has rt ht k e2 e3
  have O := Lib.hid (of_c z0 hz0)
  have F1 := Lib.hid f1
  have F2 := Lib.hid f2
  have F3 := Lib.hid f3
  have F4 := Lib.hid f4
  have F5 := Lib.hid f5
  clear e7 rt ht hq hz0 f1 f2 f3 f4 f5
  generalize tC t k = c at *
  rcases hb with rfl | rfl
  all_goals
    go_enter Try.func8, Try.ntmps8
    go_wp2_with fail
    refine (tnum_shown _).mono ?_; rintro e w0 ⟨rfl, b0⟩
    go_wp2_with fail
    refine (M1.out _).mono ?_; rintro e w1 ⟨rfl, b1⟩
    have X1 := Lib.hid (((Boxes.none_ b0).after b1).new t)
    clear b0 b1
    go_wp2_with fail
    refine (U.out _).mono ?_; rintro e w2 ⟨rfl, b2⟩
    have x2 := X1.out.after b2
    generalize w1.heap.size = g1 at *
    have X2 := Lib.hid (x2.new t)
    clear X1 b2 x2
    go_wp2_with fail
    generalize w2.heap.size = g2 at *
    generalize w2.alloc (.cells #[uV t.1, uV t.2] 24) = w3 at *
    have HB : Below w3.heap.size w3 w3.drew := Below.drew (Below.refl _ _)
    have H := Lib.hid (fun (wx : World) (hx : Below w3.heap.size w3 wx) => And.intro ((X2.out.after hx).at_ (p := (g1, t)) (by simp)).2 ((X2.out.after hx).at_ (p := (g2, t)) (by simp)).2)
    go_region_held3 (fun w' => (w'.cell? ⟨g1, 0, none⟩ = some (uV t.1) ∧ w'.cell? ⟨g1, 1, none⟩ = some (uV t.2)) ∧ (w'.cell? ⟨g2, 0, none⟩ = some (uV t.1) ∧ w'.cell? ⟨g2, 1, none⟩ = some (uV t.2)))
      (first | exact (Hid.out H) _ (by assumption) | exact (Hid.out H) _ (Below.drew (by assumption)))
      (first
        | (go_at_call 18; refine (within_c _ _ _ _ _).mono ?_; rintro e w6 ⟨rfl, hb6⟩; (first | rw [F1.out] | rw [F2.out] | rw [F3.out]); replace HB := below_next' HB hb6; clear hb6)
        | (go_at_call 16; refine (has_c _ _ _ _).mono ?_; rintro e w6 ⟨rfl, hb6⟩; (first | rw [F4.out] | rw [F5.out]); replace HB := below_next' HB hb6; clear hb6)
        | (go_at_call 15; refine (O.out _ _).mono ?_; rintro e w6 ⟨rfl, hb6⟩; replace HB := below_next' HB hb6; clear hb6)
        | (go_at_call 22; refine (C.out _).mono ?_; rintro e w6 ⟨rfl, hb6⟩; replace HB := below_next' HB hb6; clear hb6)
        | (go_at_call 20; refine (J.out _).mono ?_; rintro e w6 ⟨rfl, hb6⟩; replace HB := below_next' HB hb6; clear hb6))
    all_goals
      clear H
      go_wp2_with fail
      go_ret
      exact ⟨rfl, below_next' X2.out.1 HB⟩

theorem self_walk (v m n o : BitVec 64) (width : Int) (w : World) (h : 0 ≤ width ∧ width ≤ 255) : Calls Try.prog 8 #[uV v, uV m, uV n, uV o, .int .u8 width] w (Fine w) :=
  self_go v m n o width w h.1 h.2 _ rfl (by cases tH (tMade v m) o <;> simp)

end Go.Proofs.Ytkiekbkjhlbnhaa
