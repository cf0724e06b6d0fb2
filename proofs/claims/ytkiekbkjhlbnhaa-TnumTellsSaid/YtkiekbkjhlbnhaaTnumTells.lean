/-
  P4.1: what may be known, what may be one of both, both, one within the other, and the lowest bits, are the document's; the walk.
  Conditions: none beyond the row's own.
-/
import Derived.Test.YtkiekbkjhlbnhaaTnumBoxes
import Derived.Test.YtkiekbkjhlbnhaaTnumDoes
import Derived.Test.YtkiekbkjhlbnhaaRef04c
import Derived.Test.YtkiekbkjhlbnhaaRef04m
import Derived.Deep.RegionHeld3
namespace Go.Proofs.Ytkiekbkjhlbnhaa
open Go.RowKit
set_option linter.unusedVariables false

set_option maxHeartbeats 4000000 in
theorem tells_walk (a b : Tn) (n : BitVec 64) (width : Int) (w : World) (h : -9223372036854775808 ≤ width ∧ width ≤ 9223372036854775807) :
    Calls Try.prog 3 #[tV a, tV b, uV n, .int .i64 width] w (Fine w) := by
  have D1 := Lib.hid (meet_says a b)
  have D2 := Lib.hid (rmeet_says a b)
  generalize tM a b = t at *
  generalize tMok a b = k at *
  have hx := Lib.hid (Pair.new a b w)
  go_enter Try.func3, Try.ntmps3
  go_wp2_with fail
  refine (D1.out _).mono ?_; rintro e w1 ⟨rfl, b1⟩
  have x1 := (hx.out.after b1).boxes
  obtain ⟨z1, p0, p1⟩ := x1.at_ (p := (w.heap.size, a)) (by simp)
  obtain ⟨z2, p2, p3⟩ := x1.at_ (p := (w.heap.size + 1, b)) (by simp)
  have X1 := Lib.hid (x1.new t)
  clear x1 b1 hx
  go_wp2_with fail
  refine (D2.out _).mono ?_; rintro e w2 ⟨rfl, b2⟩
  have x2 := X1.out.after b2
  generalize w1.heap.size = g1 at *
  have X2 := Lib.hid (x2.new t)
  clear x2 b2 X1 p0 p1 p2 p3 z1 z2
  go_wp2_with fail
  generalize w2.heap.size = g2 at *
  generalize w2.alloc (.cells #[uV t.1, uV t.2] 24) = w3 at *
  have HB : Below w3.heap.size w3 w3.drew := Below.drew (Below.refl _ _)
  have H := Lib.hid (fun (wx : World) (hx : Below w3.heap.size w3 wx) => And.intro ((X2.out.after hx).at_ (p := (w.heap.size, a)) (by simp)).2 (And.intro ((X2.out.after hx).at_ (p := (w.heap.size + 1, b)) (by simp)).2 (And.intro ((X2.out.after hx).at_ (p := (g1, t)) (by simp)).2 ((X2.out.after hx).at_ (p := (g2, t)) (by simp)).2)))
  have R1 := Lib.hid (right_says a)
  have R2 := Lib.hid (rright_says a)
  have O1 : Hid (∀ w, Calls Try.prog 15 #[uV n] w (Gives (.agg #[uV n, .int .u64 0]) w)) := Lib.hid fun w => of_says n w
  have H1 := Lib.hid (has_says a n)
  have H2 := Lib.hid (rhas_says a n)
  have W1 := Lib.hid (within_says a b)
  have W2 := Lib.hid (rwithin_says a b)
  have J1 := Lib.hid (join_says a b)
  have J2 := Lib.hid (rjoin_says a b)
  have C1 := Lib.hid (cut_says a width)
  have C2 := Lib.hid (rcut_says a width)
  generalize tR a = r1 at *
  generalize tH a n = r2 at *
  generalize tW a b = r3 at *
  generalize tJ a b = j at *
  generalize tC a width = c at *
  clear D1 D2 h
  go_region_held3 (fun w' => (w'.cell? ⟨w.heap.size, 0, none⟩ = some (uV a.1) ∧ w'.cell? ⟨w.heap.size, 1, none⟩ = some (uV a.2)) ∧ (w'.cell? ⟨w.heap.size + 1, 0, none⟩ = some (uV b.1) ∧ w'.cell? ⟨w.heap.size + 1, 1, none⟩ = some (uV b.2)) ∧
      (w'.cell? ⟨g1, 0, none⟩ = some (uV t.1) ∧ w'.cell? ⟨g1, 1, none⟩ = some (uV t.2)) ∧ (w'.cell? ⟨g2, 0, none⟩ = some (uV t.1) ∧ w'.cell? ⟨g2, 1, none⟩ = some (uV t.2)))
    (first | exact (Hid.out H) _ (by assumption) | exact (Hid.out H) _ (Below.drew (by assumption)))
    (first
      | (go_at_call 12; refine (tnum_shown _).mono ?_; rintro e w6 ⟨rfl, hb6⟩; replace HB := below_next' HB hb6; clear hb6)
      | (go_at_call 13; refine (R1.out _).mono ?_; rintro e w6 ⟨rfl, hb6⟩; replace HB := below_next' HB hb6; clear hb6)
      | (go_at_call 14; refine (R2.out _).mono ?_; rintro e w6 ⟨rfl, hb6⟩; replace HB := below_next' HB hb6; clear hb6)
      | (go_at_call 15; refine (O1.out _).mono ?_; rintro e w6 ⟨rfl, hb6⟩; replace HB := below_next' HB hb6; clear hb6)
      | (go_at_call 16; refine (H1.out _).mono ?_; rintro e w6 ⟨rfl, hb6⟩; replace HB := below_next' HB hb6; clear hb6)
      | (go_at_call 17; refine (H2.out _).mono ?_; rintro e w6 ⟨rfl, hb6⟩; replace HB := below_next' HB hb6; clear hb6)
      | (go_at_call 18; refine (W1.out _).mono ?_; rintro e w6 ⟨rfl, hb6⟩; replace HB := below_next' HB hb6; clear hb6)
      | (go_at_call 19; refine (W2.out _).mono ?_; rintro e w6 ⟨rfl, hb6⟩; replace HB := below_next' HB hb6; clear hb6)
      | (go_at_call 20; refine (J1.out _).mono ?_; rintro e w6 ⟨rfl, hb6⟩; replace HB := below_next' HB hb6; clear hb6)
      | (go_at_call 21; refine (J2.out _).mono ?_; rintro e w6 ⟨rfl, hb6⟩; replace HB := below_next' HB hb6; clear hb6)
      | (go_at_call 22; refine (C1.out _).mono ?_; rintro e w6 ⟨rfl, hb6⟩; replace HB := below_next' HB hb6; clear hb6)
      | (go_at_call 23; refine (C2.out _).mono ?_; rintro e w6 ⟨rfl, hb6⟩; replace HB := below_next' HB hb6; clear hb6))
  all_goals
    clear H
    go_wp2_with fail
    go_ret
    exact ⟨rfl, below_next' X2.out.1 HB⟩

end Go.Proofs.Ytkiekbkjhlbnhaa
