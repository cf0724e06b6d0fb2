/-
  The statement FactTwo: for every input the law returns true, and its arguments read as they did.
  Conditions: those that each theorem states.
-/
import Derived.Test.YtfepokiibdkoeaaAllA3
import Derived.Deep.RegionHeld3
import Derived.LoopTactic

/-
  P6.1: whether one fact is within another one, what may be one of both, and what is known of the lowest 32 bits, are the document's; the walk.
  Conditions: the numbers fit their kinds.
-/
namespace Go.Proofs.Ytfepokiibdkoeaa
open Go.RowKit
set_option linter.unusedVariables false

theorem Blk.eight_ftwo {g : Nat} {cs : Array Value} {t : TypeId} {w : World} (h : Blk g cs t w) (k : Nat) : w.cell? ⟨g, k, none⟩ = cs[k]? ∧ w.cell? ⟨g, k + 1, none⟩ = cs[k + 1]? ∧ w.cell? ⟨g, k + 2, none⟩ = cs[k + 2]? ∧ w.cell? ⟨g, k + 3, none⟩ = cs[k + 3]? ∧ w.cell? ⟨g, k + 4, none⟩ = cs[k + 4]? ∧ w.cell? ⟨g, k + 5, none⟩ = cs[k + 5]? ∧ w.cell? ⟨g, k + 6, none⟩ = cs[k + 6]? ∧ w.cell? ⟨g, k + 7, none⟩ = cs[k + 7]? :=
  ⟨Blk.cell h _, Blk.cell h _, Blk.cell h _, Blk.cell h _, Blk.cell h _, Blk.cell h _, Blk.cell h _, Blk.cell h _⟩
theorem eight_at_ftwo {g : Nat} {u v : Fc} {t : TypeId} {w : World} (h : Blk g #[uV u.1.1, uV u.1.2, .int .u64 u.2.1, .int .u64 u.2.2, uV v.1.1, uV v.1.2, .int .u64 v.2.1, .int .u64 v.2.2] t w) : w.cell? ⟨g, 0, none⟩ = some (uV u.1.1) ∧ w.cell? ⟨g, 1, none⟩ = some (uV u.1.2) ∧ w.cell? ⟨g, 2, none⟩ = some (.int .u64 u.2.1) ∧ w.cell? ⟨g, 3, none⟩ = some (.int .u64 u.2.2) ∧ w.cell? ⟨g, 4, none⟩ = some (uV v.1.1) ∧ w.cell? ⟨g, 5, none⟩ = some (uV v.1.2) ∧ w.cell? ⟨g, 6, none⟩ = some (.int .u64 v.2.1) ∧ w.cell? ⟨g, 7, none⟩ = some (.int .u64 v.2.2) :=
  ⟨Blk.cell h 0, Blk.cell h 1, Blk.cell h 2, Blk.cell h 3, Blk.cell h 4, Blk.cell h 5, Blk.cell h 6, Blk.cell h 7⟩
theorem fJ_in {a b : Fc} (ha : fIn a) (hb : fIn b) : fIn (fJ a b) := by
  unfold fJ
  split
  · exact fSd_in (f := (tJ a.1 b.1, sJ a.2 b.2)) (sJ_in ha hb)
  · exact fOf_in 0#64
/-- Two facts that lie side by side. -/
def Side_ftwo (w : World) (g k : Nat) (u v : Fc) : Prop := w.cell? ⟨g, k, none⟩ = some (uV u.1.1) ∧ w.cell? ⟨g, k + 1, none⟩ = some (uV u.1.2) ∧ w.cell? ⟨g, k + 2, none⟩ = some (.int .u64 u.2.1) ∧ w.cell? ⟨g, k + 3, none⟩ = some (.int .u64 u.2.2) ∧
  w.cell? ⟨g, k + 4, none⟩ = some (uV v.1.1) ∧ w.cell? ⟨g, k + 5, none⟩ = some (uV v.1.2) ∧ w.cell? ⟨g, k + 6, none⟩ = some (.int .u64 v.2.1) ∧ w.cell? ⟨g, k + 7, none⟩ = some (.int .u64 v.2.2)
theorem sides_ftwo (a b c d j0 : Fc) {w : World} {g : Nat} (h : Blk g #[uV a.1.1, uV a.1.2, .int .u64 a.2.1, .int .u64 a.2.2, uV b.1.1, uV b.1.2, .int .u64 b.2.1, .int .u64 b.2.2, uV c.1.1, uV c.1.2, .int .u64 c.2.1, .int .u64 c.2.2, uV d.1.1, uV d.1.2, .int .u64 d.2.1, .int .u64 d.2.2, uV c.1.1, uV c.1.2, .int .u64 c.2.1, .int .u64 c.2.2, uV j0.1.1, uV j0.1.2, .int .u64 j0.2.1, .int .u64 j0.2.2] 38 w) (ha : fIn a) (hb : fIn b) (hc : fIn c) (hd : fIn d) (hj0 : fIn j0) (j : Nat) (hj : j < 3) : ∃ u v, fIn u ∧ fIn v ∧ Side_ftwo w g (j * 8) u v := by
  have hj' : j = 0 ∨ j = 1 ∨ j = 2 := by omega
  rcases hj' with rfl | rfl | rfl
  · exact ⟨a, b, ha, hb, Blk.eight_ftwo h (0 * 8)⟩
  · exact ⟨c, d, hc, hd, Blk.eight_ftwo h (1 * 8)⟩
  · exact ⟨c, j0, hc, hj0, Blk.eight_ftwo h (2 * 8)⟩

set_option maxRecDepth 100000 in
set_option maxHeartbeats 16000000 in
theorem ftwo_walk (a b : Fc) (w : World) (ha : fIn a) (hb : fIn b) : Calls Try.prog 4 #[fV a, fV b] w (Fine w) := by
  have S1 := Lib.hid fun w => rf_settle a w ha
  have S2 := Lib.hid fun w => rf_settle b w hb
  have hc : fIn ((fS a).getD fZ) := fSd_in ha
  have hd : fIn ((fS b).getD fZ) := fSd_in hb
  generalize (fS a).getD fZ = c at *
  generalize (fS a).isSome = k at *
  generalize (fS b).getD fZ = d at *
  generalize (fS b).isSome = l at *
  have J1 := Lib.hid fun w => rf_join c d w hc hd
  have hj := fJ_in hc hd
  generalize fJ c d = j0 at *
  have hx := Lib.hid (((Blks.start w).new (fCells a) 28).new (fCells b) 28)
  go_enter Try.func4, Try.ntmps4
  go_wp2_with fail
  refine (fact_shown _).mono ?_; rintro e w1 ⟨rfl, b1⟩
  have x1 := hx.out.after b1
  clear hx b1
  have y1 : fB w.heap.size a w1 := x1.get (by simp)
  obtain ⟨c0, c1, c2, c3⟩ := y1.cells
  go_wp2_with fail
  refine (S1.out _).mono ?_; rintro e w2 ⟨rfl, b2⟩
  have x2 := x1.after b2
  have y2 : fB (w.heap.size + 1) b w2 := x2.get (by simp)
  clear c0 c1 c2 c3
  obtain ⟨d0, d1, d2, d3⟩ := y2.cells
  have z2 := y2.lt
  have X2 := Lib.hid (x2.new (fCells c) 28)
  clear x1 b2 x2 y1 y2
  go_wp2_with fail
  refine (S2.out _).mono ?_; rintro e w3 ⟨rfl, b3⟩
  have x3 := X2.out.after b3
  generalize w2.heap.size = gc at *
  have X3 := Lib.hid (x3.new (fCells d) 28)
  clear X2 b3 x3 d0 d1 d2 d3 S1 S2
  go_wp2_with fail
  generalize w3.heap.size = gd at *
  generalize w3.alloc (.cells #[uV d.1.1, uV d.1.2, .int .u64 d.2.1, .int .u64 d.2.2] 28) = w4 at *
  have HB : Below w4.heap.size w4 w4.drew := Below.drew (Below.refl _ _)
  have H := Lib.hid (fun (wx : World) (hx : Below w4.heap.size w4 wx) => And.intro (fB.cells ((X3.out.after hx).get (g := w.heap.size) (cs := fCells a) (t := 28) (by simp))) (And.intro (fB.cells ((X3.out.after hx).get (g := w.heap.size + 1) (cs := fCells b) (t := 28) (by simp))) (And.intro (fB.cells ((X3.out.after hx).get (g := gc) (cs := fCells c) (t := 28) (by simp))) (fB.cells ((X3.out.after hx).get (g := gd) (cs := fCells d) (t := 28) (by simp))))))
  go_region_held3 (fun w' => (w'.cell? ⟨w.heap.size, 0, none⟩ = some (uV a.1.1) ∧ w'.cell? ⟨w.heap.size, 1, none⟩ = some (uV a.1.2) ∧ w'.cell? ⟨w.heap.size, 2, none⟩ = some (.int .u64 a.2.1) ∧ w'.cell? ⟨w.heap.size, 3, none⟩ = some (.int .u64 a.2.2)) ∧ (w'.cell? ⟨w.heap.size + 1, 0, none⟩ = some (uV b.1.1) ∧ w'.cell? ⟨w.heap.size + 1, 1, none⟩ = some (uV b.1.2) ∧ w'.cell? ⟨w.heap.size + 1, 2, none⟩ = some (.int .u64 b.2.1) ∧ w'.cell? ⟨w.heap.size + 1, 3, none⟩ = some (.int .u64 b.2.2)) ∧ (w'.cell? ⟨gc, 0, none⟩ = some (uV c.1.1) ∧ w'.cell? ⟨gc, 1, none⟩ = some (uV c.1.2) ∧ w'.cell? ⟨gc, 2, none⟩ = some (.int .u64 c.2.1) ∧ w'.cell? ⟨gc, 3, none⟩ = some (.int .u64 c.2.2)) ∧ (w'.cell? ⟨gd, 0, none⟩ = some (uV d.1.1) ∧ w'.cell? ⟨gd, 1, none⟩ = some (uV d.1.2) ∧ w'.cell? ⟨gd, 2, none⟩ = some (.int .u64 d.2.1) ∧ w'.cell? ⟨gd, 3, none⟩ = some (.int .u64 d.2.2)))
    (first | exact (Hid.out H) _ (by assumption) | exact (Hid.out H) _ (Below.drew (by assumption)) | exact (Hid.out H) _ (below_alloc (by assumption) _))
    (first | (go_at_call 25; refine (J1.out _).mono ?_; rintro e w6 ⟨rfl, hb6⟩; replace HB := below_next' HB hb6; clear hb6))
  rename_i hh
  clear hh
  have BB := (X3.out.after HB).1
  clear HB H X3
  have L6 := Lib.hid (Blk.new w6 #[uV a.1.1, uV a.1.2, .int .u64 a.2.1, .int .u64 a.2.2, uV b.1.1, uV b.1.2, .int .u64 b.2.1, .int .u64 b.2.2, uV c.1.1, uV c.1.2, .int .u64 c.2.1, .int .u64 c.2.2, uV d.1.1, uV d.1.2, .int .u64 d.2.1, .int .u64 d.2.2, uV c.1.1, uV c.1.2, .int .u64 c.2.1, .int .u64 c.2.2, uV j0.1.1, uV j0.1.2, .int .u64 j0.2.1, .int .u64 j0.2.2] 38 (g := w6.heap.size) rfl)
  have B6 := below_alloc BB (.cells #[uV a.1.1, uV a.1.2, .int .u64 a.2.1, .int .u64 a.2.2, uV b.1.1, uV b.1.2, .int .u64 b.2.1, .int .u64 b.2.2, uV c.1.1, uV c.1.2, .int .u64 c.2.1, .int .u64 c.2.2, uV d.1.1, uV d.1.2, .int .u64 d.2.1, .int .u64 d.2.2, uV c.1.1, uV c.1.2, .int .u64 c.2.1, .int .u64 c.2.2, uV j0.1.1, uV j0.1.2, .int .u64 j0.2.1, .int .u64 j0.2.2] 38)
  clear BB
  generalize w6.heap.size = gs at *
  generalize w6.alloc (.cells #[uV a.1.1, uV a.1.2, .int .u64 a.2.1, .int .u64 a.2.2, uV b.1.1, uV b.1.2, .int .u64 b.2.1, .int .u64 b.2.2, uV c.1.1, uV c.1.2, .int .u64 c.2.1, .int .u64 c.2.2, uV d.1.1, uV d.1.2, .int .u64 d.2.1, .int .u64 d.2.2, uV c.1.1, uV c.1.2, .int .u64 c.2.1, .int .u64 c.2.2, uV j0.1.1, uV j0.1.2, .int .u64 j0.2.1, .int .u64 j0.2.2] 38) = w7 at *
  go_wp2_with fail
  go_loopw [36] (fun i wr => ∃ j : Nat, j ≤ 3 ∧ i = .int .i64 j ∧ Hid (Below w.heap.size w wr ∧ Blk gs #[uV a.1.1, uV a.1.2, .int .u64 a.2.1, .int .u64 a.2.2, uV b.1.1, uV b.1.2, .int .u64 b.2.1, .int .u64 b.2.2, uV c.1.1, uV c.1.2, .int .u64 c.2.1, .int .u64 c.2.2, uV d.1.1, uV d.1.2, .int .u64 d.2.1, .int .u64 d.2.2, uV c.1.1, uV c.1.2, .int .u64 c.2.1, .int .u64 c.2.2, uV j0.1.1, uV j0.1.2, .int .u64 j0.2.1, .int .u64 j0.2.2] 38 wr)) (fun i _ => 3 - (intOf i).toNat)
  case atStart => exact ⟨0, by omega, rfl, Lib.hid ⟨B6, L6.out⟩⟩
  case round =>
    clear B6 L6
    obtain ⟨j, hj3, rfl, X⟩ := hrel
    by_cases hlt : (j : Int) < 3
    · obtain ⟨u, v, hu, hv, t0, t1, t2, t3, t4, t5, t6, t7⟩ := sides_ftwo a b c d j0 X.out.2 ha hb hc hd hj j (by omega)
      have kg := Blk.lt X.out.2
      have W1 := Lib.hid fun w => fp_within u v w hu hv
      have W2 := Lib.hid fun w => rf_within u v w hu hv
      have J1 := Lib.hid fun w => fp_join u v w hu hv
      have J2 := Lib.hid fun w => rf_join u v w hu hv
      have C1 := Lib.hid fun w => fp_cut u w hu
      have C2 := Lib.hid fun w => rf_cut u w hu
      generalize fWi u v = r at *
      generalize fJ u v = y at *
      generalize fC u = z at *
      go_wp2_with fail
      have XB := Lib.hid (Blk.new wr #[uV u.1.1, uV u.1.2, .int .u64 u.2.1, .int .u64 u.2.2, uV v.1.1, uV v.1.2, .int .u64 v.2.1, .int .u64 v.2.2] 38 (g := wr.heap.size) rfl)
      have XL := Lib.hid (And.intro (below_alloc X.out.1 (.cells #[uV u.1.1, uV u.1.2, .int .u64 u.2.1, .int .u64 u.2.2, uV v.1.1, uV v.1.2, .int .u64 v.2.1, .int .u64 v.2.2] 38)) (Blk.after X.out.2 (below_alloc (Below.refl _ _) (.cells #[uV u.1.1, uV u.1.2, .int .u64 u.2.1, .int .u64 u.2.2, uV v.1.1, uV v.1.2, .int .u64 v.2.1, .int .u64 v.2.2] 38))))
      clear t0 t1 t2 t3 t4 t5 t6 t7 X
      generalize wr.heap.size = gx at *
      generalize wr.alloc (.cells #[uV u.1.1, uV u.1.2, .int .u64 u.2.1, .int .u64 u.2.2, uV v.1.1, uV v.1.2, .int .u64 v.2.1, .int .u64 v.2.2] 38) = w7 at *
      have HB : Below w7.heap.size w7 w7.drew := Below.drew (Below.refl _ _)
      have H := Lib.hid (fun (wx : World) (hx : Below w7.heap.size w7 wx) => eight_at_ftwo (Blk.after XB.out hx))
      go_region_held3 (fun w' => w'.cell? ⟨gx, 0, none⟩ = some (uV u.1.1) ∧ w'.cell? ⟨gx, 1, none⟩ = some (uV u.1.2) ∧ w'.cell? ⟨gx, 2, none⟩ = some (.int .u64 u.2.1) ∧ w'.cell? ⟨gx, 3, none⟩ = some (.int .u64 u.2.2) ∧ w'.cell? ⟨gx, 4, none⟩ = some (uV v.1.1) ∧ w'.cell? ⟨gx, 5, none⟩ = some (uV v.1.2) ∧ w'.cell? ⟨gx, 6, none⟩ = some (.int .u64 v.2.1) ∧ w'.cell? ⟨gx, 7, none⟩ = some (.int .u64 v.2.2))
        (first | exact (Hid.out H) _ (by assumption) | exact (Hid.out H) _ (Below.drew (by assumption)))
        (first
          | (go_at_call 26; refine (W1.out _).mono ?_; rintro e w8 ⟨rfl, hb8⟩; replace HB := below_next' HB hb8; clear hb8)
          | (go_at_call 27; refine (W2.out _).mono ?_; rintro e w8 ⟨rfl, hb8⟩; replace HB := below_next' HB hb8; clear hb8)
          | (go_at_call 28; refine (J1.out _).mono ?_; rintro e w8 ⟨rfl, hb8⟩; replace HB := below_next' HB hb8; clear hb8)
          | (go_at_call 25; refine (J2.out _).mono ?_; rintro e w8 ⟨rfl, hb8⟩; replace HB := below_next' HB hb8; clear hb8)
          | (go_at_call 29; refine (C1.out _).mono ?_; rintro e w8 ⟨rfl, hb8⟩; replace HB := below_next' HB hb8; clear hb8)
          | (go_at_call 30; refine (C2.out _).mono ?_; rintro e w8 ⟨rfl, hb8⟩; replace HB := below_next' HB hb8; clear hb8))
      all_goals
        rename_i hh
        clear hh
        go_wp2_with fail
        go_round
        case rel => exact ⟨j + 1, by omega, by go_num, Lib.hid ⟨below_next' XL.out.1 HB, Blk.after XL.out.2 HB⟩⟩
        case measure => first | (simp [intOf]; done) | (simp [intOf]; omega)

    · have hj2 : j = 3 := by omega
      subst hj2
      go_wp2_with fail
      go_ret
      exact ⟨rfl, X.out.1⟩

end Go.Proofs.Ytfepokiibdkoeaa


/-
  The statement FactTwo: for every two facts, the law returns true, and its arguments read as they did.
  Conditions: none beyond the row's own.
-/
namespace Go.Proofs.Ytfepokiibdkoeaa
open Go.ChangeShapes Go.WideShapes Go.ChangeAt Go.RowKit
set_option linter.unusedVariables false

set_option maxRecDepth 100000 in
theorem ftwo_lifted (os : Os) (started : os.Started) (H : Type) (enc : TypeId × Value → H) :
    ReturnsInHanded {} Try.checked os 4 .any (Rows.factTwoSpec.pre6 enc Try.prog Try.f4 Rows.factTwoRow.domain false) (Rows.factTwoSpec.post enc Try.prog Try.f4 false true false false) := by
  refine law_lifted (C := Try.checked) own_none started (by kernel_rfl) Try.func4
    (ChangeSpec.witness6 (enc := enc) (C := Try.checked) false ⟨#[], #[.agg #[.int .u64 0, .int .u64 0, .int .u64 0, .int .u64 0], .agg #[.int .u64 0, .int .u64 0, .int .u64 0, .int .u64 0]], []⟩ 8 (by kernel_rfl) (by kernel_rfl) (by kernel_rfl) (by kernel_rfl))
    laid_out rfl rfl Try.underlying4 (by kernel_rfl) (fun ds hd => by match ds, hd with | [d1, d2], _ => rfl) ?_
  intro W base args ds p hval hA
  rw [Try.params4] at hval hA
  obtain ⟨v0, v1, d0, d1, p0, p1, rfl, rfl, rfl, h0, h1⟩ := trodAll_two hA
  obtain ⟨a, rfl, wa⟩ := open_fact (hval 0 _ _ rfl rfl) h0
  obtain ⟨b, rfl, wb⟩ := open_fact (hval 1 _ _ rfl rfl) h1
  exact ftwo_walk a b W wa wb

theorem ftwo_holds : Rows.FactTwoSaid :=
  OpenClaim.holds_of_wide 4 Try.f4 rfl rfl rfl rfl rfl rfl rfl ⟨rfl, rfl, rfl, rfl, rfl⟩ rfl rfl rfl rfl rfl (by kernel_rfl) Try.func4 (by kernel_rfl)
    (of_decide_eq_true (by kernel_rfl)) (by unfold Func.isWrapper; first | (rw [if_pos (by decide +kernel)]; kernel_rfl) | (rw [if_neg (by decide +kernel)]; exact ⟨rfl, rfl⟩))
    (fun os started H enc _ => ftwo_lifted os started H enc)

end Go.Proofs.Ytfepokiibdkoeaa

