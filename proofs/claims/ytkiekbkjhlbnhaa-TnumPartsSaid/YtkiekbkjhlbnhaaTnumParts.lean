/-
  P4.1: a number that may be one of two may be their Join, one that may be both their Meet; what is within another may be it; and no other number may be both.
  Conditions: none beyond the row's own.
-/
import Derived.Test.YtkiekbkjhlbnhaaTnumSelf
namespace Go.Proofs.Ytkiekbkjhlbnhaa
open Go.RowKit
set_option linter.unusedVariables false

/-- What is asked in TnumParts, and answered. -/
structure PartsCase (a b j t : Tn) (p o : BitVec 64) (q r1 r2 ok r3 : Bool) : Prop where
  hjp : tH (j.1, j.2) p = true
  haj : tW (a.1, a.2) (j.1, j.2) = true
  hbj : tW (b.1, b.2) (j.1, j.2) = true
  hab : tW (a.1, a.2) (b.1, b.2) = q
  hbp : q = true → tH (b.1, b.2) p = true
  hao : tH (a.1, a.2) o = r1
  hbo : tH (b.1, b.2) o = r2
  hto : tH (t.1, t.2) o = r3
  hta : ok = true → tW (t.1, t.2) (a.1, a.2) = true
  htb : ok = true → tW (t.1, t.2) (b.1, b.2) = true
  one : (r1 && r2) = (ok && r3)

set_option maxHeartbeats 4000000 in
theorem parts_go (v m x k n o : BitVec 64) (a b j t : Tn) (p p' : BitVec 64) (w : World) (q r1 r2 ok r3 : Bool) (hc : PartsCase a b j t p o q r1 r2 ok r3)
    (M1 : Hid (∀ w, Calls Try.prog 26 #[uV v, uV m, uV n] w (Gives (.tuple #[tV a, uV p]) w)))
    (M2 : Hid (∀ w, Calls Try.prog 26 #[uV x, uV k, uV n] w (Gives (.tuple #[tV b, uV p']) w)))
    (J : Hid (∀ w, Calls Try.prog 20 #[tV a, tV b] w (Gives (tV j) w)))
    (T : Hid (∀ w, Calls Try.prog 10 #[tV a, tV b] w (Gives (tBV t ok) w))) :
    Calls Try.prog 6 #[uV v, uV m, uV x, uV k, uV n, uV o] w (Fine w) := by
  obtain ⟨f1, f2, f3, f4, f5, f6, f7, f8, f9, f10, one⟩ := hc
  have F1 := Lib.hid f1
  have F2 := Lib.hid f2
  have F3 := Lib.hid f3
  have F4 := Lib.hid f4
  have F5 := Lib.hid f5
  have F6 := Lib.hid f6
  have F7 := Lib.hid f7
  have F8 := Lib.hid f8
  have F9 := Lib.hid f9
  have F10 := Lib.hid f10
  clear f1 f2 f3 f4 f5 f6 f7 f8 f9 f10
  have hr : (r1 = false ∧ ok = false) ∨ (r1 = false ∧ ok = true ∧ r3 = false) ∨ (r1 = true ∧ r2 = false ∧ ok = false) ∨ (r1 = true ∧ r2 = false ∧ ok = true ∧ r3 = false) ∨ (r1 = true ∧ r2 = true ∧ ok = true ∧ r3 = true) := by
    cases r1 <;> cases r2 <;> cases ok <;> cases r3 <;> simp at one ⊢
  have hq : q = true ∨ q = false := by cases q <;> simp
  clear one
  rcases hr with ⟨rfl, rfl⟩ | ⟨rfl, rfl, rfl⟩ | ⟨rfl, rfl, rfl⟩ | ⟨rfl, rfl, rfl, rfl⟩ | ⟨rfl, rfl, rfl, rfl⟩ <;> rcases hq with rfl | rfl
  all_goals
    try have G5 := Lib.hid (F5.out rfl)
    try have G9 := Lib.hid (F9.out rfl)
    try have G10 := Lib.hid (F10.out rfl)
    clear F5 F9 F10
    go_enter Try.func6, Try.ntmps6
    go_wp2_with fail
    refine (tnum_shown _).mono ?_; rintro e w0 ⟨rfl, b0⟩
    go_wp2_with fail
    refine (M1.out _).mono ?_; rintro e w1 ⟨rfl, b1⟩
    have X1 := Lib.hid (((Boxes.none_ b0).after b1).new a)
    clear b0 b1
    go_wp2_with fail
    refine (M2.out _).mono ?_; rintro e w2 ⟨rfl, b2⟩
    have x2 := X1.out.after b2
    generalize w1.heap.size = g1 at *
    obtain ⟨z1, p0, p1⟩ := x2.at_ (p := (g1, a)) (by simp)
    have X2 := Lib.hid (x2.new b)
    clear X1 b2 x2
    go_wp2_with fail
    refine (J.out _).mono ?_; rintro e w3 ⟨rfl, b3⟩
    have x3 := X2.out.after b3
    generalize w2.heap.size = g2 at *
    clear p0 p1 z1
    obtain ⟨z1, p0, p1⟩ := x3.at_ (p := (g1, a)) (by simp)
    obtain ⟨z2, p2, p3⟩ := x3.at_ (p := (g2, b)) (by simp)
    have X3 := Lib.hid (x3.new j)
    clear X2 b3 x3
    go_wp2_with fail
    refine (T.out _).mono ?_; rintro e w4 ⟨rfl, b4⟩
    have x4 := X3.out.after b4
    generalize w3.heap.size = g3 at *
    clear p0 p1 z1 p2 p3 z2
    obtain ⟨z1, p0, p1⟩ := x4.at_ (p := (g1, a)) (by simp)
    obtain ⟨z2, p2, p3⟩ := x4.at_ (p := (g2, b)) (by simp)
    obtain ⟨z3, p4, p5⟩ := x4.at_ (p := (g3, j)) (by simp)
    have X4 := Lib.hid (x4.new t)
    clear X3 b4 x4
    go_wp2_with fail
    generalize w4.heap.size = g4 at *
    generalize w4.alloc (.cells #[uV t.1, uV t.2] 24) = w5 at *
    have H := Lib.hid (fun (wx : World) (hx : Below w5.heap.size w5 wx) => And.intro ((X4.out.after hx).at_ (p := (g1, a)) (by simp)).2 (And.intro ((X4.out.after hx).at_ (p := (g2, b)) (by simp)).2 (And.intro ((X4.out.after hx).at_ (p := (g3, j)) (by simp)).2 ((X4.out.after hx).at_ (p := (g4, t)) (by simp)).2)))
    have Y := Lib.hid X4.out.1
    clear X4 p0 p1 p2 p3 p4 p5 z1 z2 z3
    have HB : Below w5.heap.size w5 w5 := Below.refl _ _
    refine (has_c _ _ _ _).mono ?_; rintro e w6 ⟨rfl, b6⟩; rw [F1.out]
    replace HB := below_next' HB b6
    clear b6
    obtain ⟨⟨p0, p1⟩, ⟨p2, p3⟩, ⟨p4, p5⟩, p6, p7⟩ := H.out _ HB
    go_wp2_with (first
      | (go_at_call 18; refine (within_c _ _ _ _ _).mono ?_; rintro e w7 ⟨rfl, b7⟩; (first | rw [F2.out] | rw [F3.out] | rw [F4.out] | rw [G9.out] | rw [G10.out]); replace HB := below_next' HB b7; clear b7 p0 p1 p2 p3 p4 p5 p6 p7; obtain ⟨⟨p0, p1⟩, ⟨p2, p3⟩, ⟨p4, p5⟩, p6, p7⟩ := H.out _ HB)
      | (go_at_call 16; refine (has_c _ _ _ _).mono ?_; rintro e w7 ⟨rfl, b7⟩; (first | rw [G5.out] | rw [F6.out] | rw [F7.out] | rw [F8.out]); replace HB := below_next' HB b7; clear b7 p0 p1 p2 p3 p4 p5 p6 p7; obtain ⟨⟨p0, p1⟩, ⟨p2, p3⟩, ⟨p4, p5⟩, p6, p7⟩ := H.out _ HB))
    go_ret
    exact ⟨rfl, below_next' Y.out HB⟩

set_option maxHeartbeats 1000000 in
theorem parts_walk (v m x k n o : BitVec 64) (w : World) : Calls Try.prog 6 #[uV v, uV m, uV x, uV k, uV n, uV o] w (Fine w) := by
  have ra := made_right v m
  have rb := made_right x k
  have ha := pick_has v m n
  have hp : PartsCase (tMade v m) (tMade x k) (tJ (tMade v m) (tMade x k)) (tM (tMade v m) (tMade x k)) (pick v m n) o (tW (tMade v m) (tMade x k)) (tH (tMade v m) o) (tH (tMade x k) o) (tMok (tMade v m) (tMade x k)) (tH (tM (tMade v m) (tMade x k)) o) :=
    { hjp := join_has ra rb ha, haj := join_left ra rb, hbj := join_right_of ra rb, hab := rfl, hbp := fun h => within_has h ha, hao := rfl, hbo := rfl, hto := rfl,
      hta := fun h => (meet_within ra rb h).1, htb := fun h => (meet_within ra rb h).2, one := meet_has ra rb o }
  exact parts_go v m x k n o _ _ _ _ _ (pick x k n) w _ _ _ _ _ hp (Lib.hid (made_pick v m n)) (Lib.hid (made_pick x k n)) (Lib.hid (join_says _ _)) (Lib.hid (meet_says _ _))

end Go.Proofs.Ytkiekbkjhlbnhaa
