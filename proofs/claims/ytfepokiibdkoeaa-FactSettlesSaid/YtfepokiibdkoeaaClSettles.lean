/-
  The statement FactSettles: for every input the law returns true, and its arguments read as they did.
  Conditions: those that each theorem states.
-/
import Derived.Test.YtfepokiibdkoeaaAllA3
import Derived.Deep.RegionHeld3

/-
  P6.1: whether a fact is settled, what it is settled to, what number it tells, and whether a number may be it, are the document's; the walk.
  Conditions: the numbers fit their kinds.
-/
namespace Go.Proofs.Ytfepokiibdkoeaa
open Go.RowKit
set_option linter.unusedVariables false

set_option maxRecDepth 100000 in
set_option maxHeartbeats 8000000 in
theorem fsettles_walk (f : Fc) (n : BitVec 64) (w : World) (hf : fIn f) : Calls Try.prog 3 #[fV f, uV n] w (Fine w) := by
  have S1 := Lib.hid fun w => fp_settle f w hf
  have S2 := Lib.hid fun w => rf_settle f w hf
  have K1 := Lib.hid fun w => fp_known f w hf
  have K2 := Lib.hid fun w => rf_known f w hf
  have R1 := Lib.hid fun w => fp_right f w hf
  have R2 := Lib.hid fun w => rf_right f w hf
  have O1 := Lib.hid (fp_of n)
  have O2 := Lib.hid (rf_of n)
  have A1 := Lib.hid fp_any
  have A2 := Lib.hid rf_any
  have H1 := Lib.hid fun w => fp_has f n w hf
  have H2 := Lib.hid fun w => rf_has f n w hf
  have hx := Lib.hid ((Blks.start w).new (fCells f) 28)
  generalize (fS f).getD fZ = g at *
  generalize (fS f).isSome = k at *
  generalize fKv f = q at *
  generalize fK f = l at *
  generalize fR f = r at *
  generalize fHs f n = h at *
  generalize fOf n = y at *
  generalize fAny = u at *
  go_enter Try.func3, Try.ntmps3
  go_wp2_with fail
  refine (S1.out _).mono ?_; rintro e w1 ⟨rfl, b1⟩
  have x1 := hx.out.after b1
  have y1 : fB w.heap.size f w1 := x1.get (by simp)
  obtain ⟨c0, c1, c2, c3⟩ := y1.cells
  have z1 := y1.lt
  have X1 := Lib.hid (x1.new (fCells g) 28)
  clear hx b1 x1 y1
  go_wp2_with fail
  refine (S2.out _).mono ?_; rintro e w2 ⟨rfl, b2⟩
  have x2 := X1.out.after b2
  generalize w1.heap.size = g1 at *
  have y2 : fB w.heap.size f w2 := x2.get (by simp)
  clear c0 c1 c2 c3 z1
  obtain ⟨c0, c1, c2, c3⟩ := y2.cells
  have z1 := y2.lt
  have X2 := Lib.hid (x2.new (fCells g) 28)
  clear X1 b2 x2 y2
  go_wp2_with fail
  refine (K1.out _).mono ?_; rintro e w3 ⟨rfl, b3⟩
  have x3 := X2.out.after b3
  generalize w2.heap.size = g2 at *
  have y3 : fB w.heap.size f w3 := x3.get (by simp)
  clear c0 c1 c2 c3 z1
  obtain ⟨c0, c1, c2, c3⟩ := y3.cells
  clear X2 b3 y3
  go_wp2_with fail
  refine (K2.out _).mono ?_; rintro e w4 ⟨rfl, b4⟩
  have X4 := Lib.hid (x3.after b4)
  clear x3 b4 c0 c1 c2 c3
  go_wp2_with fail
  have HB : Below w4.heap.size w4 w4.drew := Below.drew (Below.refl _ _)
  have H := Lib.hid (fun (wx : World) (hx : Below w4.heap.size w4 wx) => And.intro (fB.cells ((X4.out.after hx).get (g := w.heap.size) (cs := fCells f) (t := 28) (by simp))) (And.intro (fB.cells ((X4.out.after hx).get (g := g1) (cs := fCells g) (t := 28) (by simp))) (fB.cells ((X4.out.after hx).get (g := g2) (cs := fCells g) (t := 28) (by simp)))))
  clear S1 S2 K1 K2 hf
  go_region_held3 (fun w' => (w'.cell? ⟨w.heap.size, 0, none⟩ = some (uV f.1.1) ∧ w'.cell? ⟨w.heap.size, 1, none⟩ = some (uV f.1.2) ∧ w'.cell? ⟨w.heap.size, 2, none⟩ = some (.int .u64 f.2.1) ∧ w'.cell? ⟨w.heap.size, 3, none⟩ = some (.int .u64 f.2.2)) ∧ (w'.cell? ⟨g1, 0, none⟩ = some (uV g.1.1) ∧ w'.cell? ⟨g1, 1, none⟩ = some (uV g.1.2) ∧ w'.cell? ⟨g1, 2, none⟩ = some (.int .u64 g.2.1) ∧ w'.cell? ⟨g1, 3, none⟩ = some (.int .u64 g.2.2)) ∧ (w'.cell? ⟨g2, 0, none⟩ = some (uV g.1.1) ∧ w'.cell? ⟨g2, 1, none⟩ = some (uV g.1.2) ∧ w'.cell? ⟨g2, 2, none⟩ = some (.int .u64 g.2.1) ∧ w'.cell? ⟨g2, 3, none⟩ = some (.int .u64 g.2.2)))
    (first | exact (Hid.out H) _ (by assumption) | exact (Hid.out H) _ (Below.drew (by assumption)))
    (first
      | (go_at_call 16; refine (fact_shown _).mono ?_; rintro e w6 ⟨rfl, hb6⟩; replace HB := below_next' HB hb6; clear hb6)
      | (go_at_call 17; refine (R1.out _).mono ?_; rintro e w6 ⟨rfl, hb6⟩; replace HB := below_next' HB hb6; clear hb6)
      | (go_at_call 18; refine (R2.out _).mono ?_; rintro e w6 ⟨rfl, hb6⟩; replace HB := below_next' HB hb6; clear hb6)
      | (go_at_call 19; refine (O1.out _).mono ?_; rintro e w6 ⟨rfl, hb6⟩; replace HB := below_next' HB hb6; clear hb6)
      | (go_at_call 20; refine (O2.out _).mono ?_; rintro e w6 ⟨rfl, hb6⟩; replace HB := below_next' HB hb6; clear hb6)
      | (go_at_call 21; refine (A1.out _).mono ?_; rintro e w6 ⟨rfl, hb6⟩; replace HB := below_next' HB hb6; clear hb6)
      | (go_at_call 22; refine (A2.out _).mono ?_; rintro e w6 ⟨rfl, hb6⟩; replace HB := below_next' HB hb6; clear hb6)
      | (go_at_call 23; refine (H1.out _).mono ?_; rintro e w6 ⟨rfl, hb6⟩; replace HB := below_next' HB hb6; clear hb6)
      | (go_at_call 24; refine (H2.out _).mono ?_; rintro e w6 ⟨rfl, hb6⟩; replace HB := below_next' HB hb6; clear hb6))
  all_goals
    clear H
    go_wp2_with fail
    go_ret
    exact ⟨rfl, below_next' X4.out.1 HB⟩

end Go.Proofs.Ytfepokiibdkoeaa


/-
  The statement FactSettles: for every fact and number, the law returns true, and its arguments read as they did.
  Conditions: none beyond the row's own.
-/
namespace Go.Proofs.Ytfepokiibdkoeaa
open Go.ChangeShapes Go.WideShapes Go.ChangeAt Go.RowKit
set_option linter.unusedVariables false

set_option maxRecDepth 100000 in
theorem fsettles_lifted (os : Os) (started : os.Started) (H : Type) (enc : TypeId × Value → H) :
    ReturnsInHanded {} Try.checked os 3 .any (Rows.factSettlesSpec.pre6 enc Try.prog Try.f3 Rows.factSettlesRow.domain false) (Rows.factSettlesSpec.post enc Try.prog Try.f3 false true false false) := by
  refine law_lifted (C := Try.checked) own_none started (by kernel_rfl) Try.func3
    (ChangeSpec.witness6 (enc := enc) (C := Try.checked) false ⟨#[], #[.agg #[.int .u64 0, .int .u64 0, .int .u64 0, .int .u64 0], .int .u64 0], []⟩ 8 (by kernel_rfl) (by kernel_rfl) (by kernel_rfl) (by kernel_rfl))
    laid_out rfl rfl Try.underlying4 (by kernel_rfl) (fun ds hd => by match ds, hd with | [d1, d2], _ => rfl) ?_
  intro W base args ds p hval hA
  rw [Try.params3] at hval hA
  obtain ⟨v0, v1, d0, d1, p0, p1, rfl, rfl, rfl, h0, h1⟩ := trodAll_two hA
  obtain ⟨f, rfl, wf⟩ := open_fact (hval 0 _ _ rfl rfl) h0
  obtain ⟨n, rfl, _, _, wn⟩ := open_int Try.underlying22 (hval 1 _ _ rfl rfl) h1
  obtain ⟨n, rfl⟩ := bv_of (bounds_u64 wn)
  exact fsettles_walk f n W wf

theorem fsettles_holds : Rows.FactSettlesSaid :=
  OpenClaim.holds_of_wide 3 Try.f3 rfl rfl rfl rfl rfl rfl rfl ⟨rfl, rfl, rfl, rfl, rfl⟩ rfl rfl rfl rfl rfl (by kernel_rfl) Try.func3 (by kernel_rfl)
    (of_decide_eq_true (by kernel_rfl)) (by unfold Func.isWrapper; first | (rw [if_pos (by decide +kernel)]; kernel_rfl) | (rw [if_neg (by decide +kernel)]; exact ⟨rfl, rfl⟩))
    (fun os started H enc _ => fsettles_lifted os started H enc)

end Go.Proofs.Ytfepokiibdkoeaa

