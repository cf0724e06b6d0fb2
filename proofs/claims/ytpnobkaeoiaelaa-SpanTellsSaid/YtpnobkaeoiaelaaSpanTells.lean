/-
  P5.1: whether a span is right, has a number, is within another one, and what both have, are the document's; the walk.
  Conditions: the numbers fit their kinds.
-/
import Derived.Test.YtpnobkaeoiaelaaSpanBoxes
import Derived.Test.YtpnobkaeoiaelaaRef05Meet
import Derived.Deep.RegionHeld3
namespace Go.Proofs.Ytpnobkaeoiaelaa
open Go.RowKit
set_option linter.unusedVariables false

theorem SPair.boxes {a b : Sp} {w u : World} (h : SPair a b w u) : SBoxes w [(w.heap.size, a), (w.heap.size + 1, b)] u := ⟨h.1, fun p hp => by
  rcases List.mem_cons.mp hp with rfl | hp
  · exact h.2.1
  · rcases List.mem_cons.mp hp with rfl | hp
    · exact h.2.2
    · cases hp⟩

set_option maxHeartbeats 4000000 in
theorem stells_walk (a b : Sp) (n : Int) (w : World) (ha : sIn a) (hb : sIn b) :
    Calls Try.prog 3 #[sV a, sV b, .int .u64 n] w (Fine w) := by
  have D1 := Lib.hid (smeet_says a b)
  have D2 := Lib.hid (rs_meet a b)
  generalize sM a b = t at *
  generalize sMok a b = k at *
  have hx := Lib.hid (SPair.new a b w)
  go_enter Try.func3, Try.ntmps3
  go_wp2_with fail
  refine (D1.out _).mono ?_; rintro e w1 ⟨rfl, b1⟩
  have x1 := (hx.out.after b1).boxes
  obtain ⟨z1, p0, p1⟩ := x1.at_ (p := (w.heap.size, a)) (by simp)
  obtain ⟨z2, p2, p3⟩ := x1.at_ (p := (w.heap.size + 1, b)) (by simp)
  have X1 := Lib.hid (x1.new t)
  clear x1 b1 hx
  go_wp2_with fail
  refine (D2.out _).mono ?_; rintro e w2 ⟨rfl, b2⟩
  have x2 := X1.out.after b2
  generalize w1.heap.size = g1 at *
  have X2 := Lib.hid (x2.new t)
  clear x2 b2 X1 p0 p1 p2 p3 z1 z2
  go_wp2_with fail
  generalize w2.heap.size = g2 at *
  generalize w2.alloc (.cells #[.int .u64 t.1, .int .u64 t.2] 24) = w3 at *
  have HB : Below w3.heap.size w3 w3.drew := Below.drew (Below.refl _ _)
  have H := Lib.hid (fun (wx : World) (hx : Below w3.heap.size w3 wx) => And.intro ((X2.out.after hx).at_ (p := (w.heap.size, a)) (by simp)).2 (And.intro ((X2.out.after hx).at_ (p := (w.heap.size + 1, b)) (by simp)).2 (And.intro ((X2.out.after hx).at_ (p := (g1, t)) (by simp)).2 (((X2.out.after hx).at_ (p := (g2, t)) (by simp)).2))))
  have R1 := Lib.hid (sright_says a)
  have R2 := Lib.hid (rs_right a)
  have A1 := Lib.hid sall_says
  have A2 := Lib.hid rs_all
  have H1 := Lib.hid (shas_says a n)
  have H2 := Lib.hid (rs_has a n)
  have W1 := Lib.hid (swithin_says a b)
  have W2 := Lib.hid (rs_within a b)
  have J1 := Lib.hid (sjoin_says a b)
  have J2 := Lib.hid (rs_join a b)
  generalize sR a = r1 at *
  generalize sH a n = r2 at *
  generalize sW a b = r3 at *
  generalize sJ a b = j at *
  generalize sAll = u at *
  clear D1 D2 ha hb
  go_region_held3 (fun w' => (w'.cell? ⟨w.heap.size, 0, none⟩ = some (.int .u64 a.1) ∧ w'.cell? ⟨w.heap.size, 1, none⟩ = some (.int .u64 a.2)) ∧ (w'.cell? ⟨w.heap.size + 1, 0, none⟩ = some (.int .u64 b.1) ∧ w'.cell? ⟨w.heap.size + 1, 1, none⟩ = some (.int .u64 b.2)) ∧ (w'.cell? ⟨g1, 0, none⟩ = some (.int .u64 t.1) ∧ w'.cell? ⟨g1, 1, none⟩ = some (.int .u64 t.2)) ∧ (w'.cell? ⟨g2, 0, none⟩ = some (.int .u64 t.1) ∧ w'.cell? ⟨g2, 1, none⟩ = some (.int .u64 t.2)))
    (first | exact (Hid.out H) _ (by assumption) | exact (Hid.out H) _ (Below.drew (by assumption)))
    (first
      | (go_at_call 10; refine (span_shown _).mono ?_; rintro e w6 ⟨rfl, hb6⟩; replace HB := below_next' HB hb6; clear hb6)
      | (go_at_call 11; refine (R1.out _).mono ?_; rintro e w6 ⟨rfl, hb6⟩; replace HB := below_next' HB hb6; clear hb6)
      | (go_at_call 12; refine (R2.out _).mono ?_; rintro e w6 ⟨rfl, hb6⟩; replace HB := below_next' HB hb6; clear hb6)
      | (go_at_call 13; refine (A1.out _).mono ?_; rintro e w6 ⟨rfl, hb6⟩; replace HB := below_next' HB hb6; clear hb6)
      | (go_at_call 14; refine (A2.out _).mono ?_; rintro e w6 ⟨rfl, hb6⟩; replace HB := below_next' HB hb6; clear hb6)
      | (go_at_call 15; refine (H1.out _).mono ?_; rintro e w6 ⟨rfl, hb6⟩; replace HB := below_next' HB hb6; clear hb6)
      | (go_at_call 16; refine (H2.out _).mono ?_; rintro e w6 ⟨rfl, hb6⟩; replace HB := below_next' HB hb6; clear hb6)
      | (go_at_call 17; refine (W1.out _).mono ?_; rintro e w6 ⟨rfl, hb6⟩; replace HB := below_next' HB hb6; clear hb6)
      | (go_at_call 18; refine (W2.out _).mono ?_; rintro e w6 ⟨rfl, hb6⟩; replace HB := below_next' HB hb6; clear hb6)
      | (go_at_call 19; refine (J1.out _).mono ?_; rintro e w6 ⟨rfl, hb6⟩; replace HB := below_next' HB hb6; clear hb6)
      | (go_at_call 20; refine (J2.out _).mono ?_; rintro e w6 ⟨rfl, hb6⟩; replace HB := below_next' HB hb6; clear hb6))
  all_goals
    clear H
    go_wp2_with fail
    go_ret
    exact ⟨rfl, below_next' X2.out.1 HB⟩

end Go.Proofs.Ytpnobkaeoiaelaa
