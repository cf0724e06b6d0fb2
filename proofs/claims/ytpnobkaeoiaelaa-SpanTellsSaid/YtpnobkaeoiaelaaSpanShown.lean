/-
  The document's examples of layer 5, as the statements' head holds them: 'shown' answers true; and the statements' own 'made'.
  Conditions: the numbers fit their kinds.
-/
import Derived.Test.YtpnobkaeoiaelaaSpanDoes
import Derived.Test.YtpnobkaeoiaelaaSpanIfSays
import Derived.RegionTactic
import Derived.BigRegion
namespace Go.Proofs.Ytpnobkaeoiaelaa
open Go.RowKit
set_option linter.unusedVariables false

theorem sdo_to {op : Int} {a b t : Sp} (ha : sIn a) (hb : sIn b) (h : sDo op a b = t) (w : World) : Calls Try.prog 23 #[.int .u8 op, sV a, sV b] w (Gives (sV t) w) := by
  rw [← h]; exact sdo_says op a b w ha hb
theorem sif_to {op : Int} {a b t : Sp} {k : Bool} (ha : sIn a) (hb : sIn b) (h : sIf op a b = t) (h' : sIfok op a b = k) (w : World) : Calls Try.prog 25 #[.int .u8 op, sV a, sV b] w (Gives (sBV t k) w) := by
  rw [← h, ← h']; exact sif_says op a b w ha hb

set_option maxHeartbeats 1000000 in
theorem span_shown (w : World) : Calls Try.prog 10 #[] w (Fine w) := by
  have d1 : ∀ w, Calls Try.prog 23 #[.int .u8 0, .agg #[.int .u64 1, .int .u64 2], .agg #[.int .u64 3, .int .u64 4]] w (Gives (.agg #[.int .u64 4, .int .u64 6]) w) :=
    sdo_to (op := 0) (a := (1, 2)) (b := (3, 4)) (t := (4, 6)) (by unfold sIn In64; decide) (by unfold sIn In64; decide) (by decide +kernel)
  have d2 : ∀ w, Calls Try.prog 25 #[.int .u8 160, .agg #[.int .u64 0, .int .u64 9], .agg #[.int .u64 5, .int .u64 7]] w (Gives (.tuple #[.agg #[.int .u64 0, .int .u64 6], .bool true]) w) :=
    sif_to (op := 160) (a := (0, 9)) (b := (5, 7)) (t := (0, 6)) (k := true) (by unfold sIn In64; decide) (by unfold sIn In64; decide) (by decide +kernel) (by decide +kernel)
  have D1 := Lib.hid d1
  have D2 := Lib.hid d2
  clear d1 d2
  go_enter Try.func10, Try.ntmps10
  go_wp2_with fail
  refine (D1.out _).mono ?_; rintro e w1 ⟨rfl, b1⟩
  have A0 := Lib.hid (sB.new w1 (4, 6) (g := w1.heap.size) rfl)
  go_wp2_with fail
  refine (D2.out _).mono ?_; rintro e w2 ⟨rfl, b2⟩
  have A2 := A0.out.after b2
  have bb := below_next' (below_alloc b1 _) b2
  clear b1 b2 A0
  have p0 : w2.cell? ⟨w1.heap.size, 0, none⟩ = some (.int .u64 4) := A2.cells.1
  have p1 : w2.cell? ⟨w1.heap.size, 1, none⟩ = some (.int .u64 6) := A2.cells.2
  have z1 := A2.lt
  clear A2
  go_wp2_with fail
  go_ret
  exact ⟨rfl, below_alloc bb _⟩

set_option maxHeartbeats 1000000 in
theorem smade_all_lt (l h n d : Int) (w : World) (hc : l < h) (h1 : IntKind.u64.wrap (h - l) = d) (h2 : IntKind.u64.wrap (d + 1) = 0) :
    Calls Try.prog 21 #[.int .u64 l, .int .u64 h, .int .u64 n] w (Gives (.tuple #[sV (l, h), .int .u64 n]) w) := by
  go_enter Try.func21, Try.ntmps21
  go_wp2_with fail
  exact bodyPost_ret (v := .tuple #[sV (l, h), .int .u64 n]) (by simp [results, Try.results21, go_sem]) rfl ⟨rfl, below_alloc (below_alloc (Below.refl _ _) _) _⟩

set_option maxHeartbeats 2000000 in
theorem smade_some_lt (l h n d D r x : Int) (w : World) (hc : l < h) (h1 : IntKind.u64.wrap (h - l) = d) (h2 : IntKind.u64.wrap (d + 1) = D)
    (h3 : ¬ D = 0) (h4 : n.tmod D = r) (h5 : IntKind.u64.wrap r = r) (h6 : IntKind.u64.wrap (l + r) = x) :
    Calls Try.prog 21 #[.int .u64 l, .int .u64 h, .int .u64 n] w (Gives (.tuple #[sV (l, h), .int .u64 x]) w) := by
  have h7 : (D == 0) = false := beq_eq_false_iff_ne.mpr h3
  go_enter Try.func21, Try.ntmps21
  go_wp2_with fail
  have X := Lib.hid (SPair.new (0, 0) (l, h) w)
  generalize (w.alloc _).alloc _ = u at *
  obtain ⟨c0, c1⟩ := X.out.2.1.cells
  obtain ⟨p0, p1⟩ := X.out.2.2.cells
  obtain ⟨f0, f1⟩ := X.out.2.1.free
  go_region
  all_goals
    go_wp2
    exact bodyPost_ret (v := .tuple #[sV (l, h), .int .u64 x]) (by simp [results, Try.results21, go_sem, c0, c1]) rfl ⟨rfl, ((X.out.1.setCell (by simp) _).setCell (by simp) _).drew⟩

set_option maxHeartbeats 1000000 in
theorem smade_all_gt (l h n d : Int) (w : World) (hc : l < h) (h1 : IntKind.u64.wrap (h - l) = d) (h2 : IntKind.u64.wrap (d + 1) = 0) :
    Calls Try.prog 21 #[.int .u64 h, .int .u64 l, .int .u64 n] w (Gives (.tuple #[sV (l, h), .int .u64 n]) w) := by
  go_enter Try.func21, Try.ntmps21
  go_wp2_with fail
  exact bodyPost_ret (v := .tuple #[sV (l, h), .int .u64 n]) (by simp [results, Try.results21, go_sem]) rfl ⟨rfl, below_alloc (below_alloc (Below.refl _ _) _) _⟩

set_option maxHeartbeats 2000000 in
theorem smade_some_gt (l h n d D r x : Int) (w : World) (hc : l < h) (h1 : IntKind.u64.wrap (h - l) = d) (h2 : IntKind.u64.wrap (d + 1) = D)
    (h3 : ¬ D = 0) (h4 : n.tmod D = r) (h5 : IntKind.u64.wrap r = r) (h6 : IntKind.u64.wrap (l + r) = x) :
    Calls Try.prog 21 #[.int .u64 h, .int .u64 l, .int .u64 n] w (Gives (.tuple #[sV (l, h), .int .u64 x]) w) := by
  have h7 : (D == 0) = false := beq_eq_false_iff_ne.mpr h3
  go_enter Try.func21, Try.ntmps21
  go_wp2_with fail
  have X := Lib.hid (SPair.new (0, 0) (l, h) w)
  generalize (w.alloc _).alloc _ = u at *
  obtain ⟨c0, c1⟩ := X.out.2.1.cells
  obtain ⟨p0, p1⟩ := X.out.2.2.cells
  obtain ⟨f0, f1⟩ := X.out.2.1.free
  go_region
  all_goals
    go_wp2
    exact bodyPost_ret (v := .tuple #[sV (l, h), .int .u64 x]) (by simp [results, Try.results21, go_sem, c0, c1]) rfl ⟨rfl, ((X.out.1.setCell (by simp) _).setCell (by simp) _).drew⟩

set_option maxHeartbeats 2000000 in
theorem smade_eq (l n : Int) (w : World) (h1 : IntKind.u64.wrap l = l) :
    Calls Try.prog 21 #[.int .u64 l, .int .u64 l, .int .u64 n] w (Gives (.tuple #[sV (l, l), .int .u64 l]) w) := by
  go_enter Try.func21, Try.ntmps21
  go_wp2_with fail
  have X := Lib.hid (SPair.new (0, 0) (l, l) w)
  generalize (w.alloc _).alloc _ = u at *
  obtain ⟨c0, c1⟩ := X.out.2.1.cells
  obtain ⟨p0, p1⟩ := X.out.2.2.cells
  obtain ⟨f0, f1⟩ := X.out.2.1.free
  go_region
  all_goals
    go_wp2
    exact bodyPost_ret (v := .tuple #[sV (l, l), .int .u64 l]) (by simp [results, Try.results21, go_sem, c0, c1]) rfl ⟨rfl, ((X.out.1.setCell (by simp) _).setCell (by simp) _).drew⟩

theorem smade_says (a b n : Int) (w : World) (ha : In64 a) (hb : In64 b) (hn : In64 n) : Calls Try.prog 21 #[.int .u64 a, .int .u64 b, .int .u64 n] w (Gives (.tuple #[sV (sMade a b), .int .u64 (sPick a b n)]) w) := by
  have hp := (pick_in ha hb hn).1
  have H : ∀ l h : Int, l ≤ h → In64 l → In64 h → In64 (sPick l h n) → max l h = h → min l h = l → True →
      ((l < h → Calls Try.prog 21 #[.int .u64 l, .int .u64 h, .int .u64 n] w (Gives (.tuple #[sV (l, h), .int .u64 (sPick l h n)]) w)) ∧
       (l < h → Calls Try.prog 21 #[.int .u64 h, .int .u64 l, .int .u64 n] w (Gives (.tuple #[sV (l, h), .int .u64 (sPick l h n)]) w))) := by
    intro l h hle hl hh hp em en _
    unfold In64 at hl hh hp hn
    have h1 : IntKind.u64.wrap (h - l) = h - l := by rw [IntKind.wrap_u64]; omega
    by_cases hd : h - l + 1 = 18446744073709551616
    · have e : sPick l h n = n := by unfold sPick; rw [em, en, if_pos hd]
      have h2 : IntKind.u64.wrap (h - l + 1) = 0 := by rw [hd]; rfl
      rw [e]
      exact ⟨fun k => smade_all_lt l h n _ w k h1 h2, fun k => smade_all_gt l h n _ w k h1 h2⟩
    · have e : sPick l h n = l + n % (h - l + 1) := by unfold sPick; rw [em, en, if_neg hd]
      have h2 : IntKind.u64.wrap (h - l + 1) = h - l + 1 := by rw [IntKind.wrap_u64]; omega
      have m1 := Int.emod_nonneg n (b := h - l + 1) (by omega)
      have m2 := Int.emod_lt_of_pos n (b := h - l + 1) (by omega)
      have h4 : n.tmod (h - l + 1) = n % (h - l + 1) := Int.tmod_eq_emod_of_nonneg hn.1
      have h5 : IntKind.u64.wrap (n % (h - l + 1)) = n % (h - l + 1) := by rw [IntKind.wrap_u64]; omega
      have h6 : IntKind.u64.wrap (l + n % (h - l + 1)) = sPick l h n := by rw [e, IntKind.wrap_u64]; omega
      exact ⟨fun k => smade_some_lt l h n _ _ _ _ w k h1 h2 (by omega) h4 h5 h6, fun k => smade_some_gt l h n _ _ _ _ w k h1 h2 (by omega) h4 h5 h6⟩
  rcases int_lt_or a b with h | h
  · have e : sMade a b = (a, b) := by unfold sMade; rw [show min a b = a by omega, show max a b = b by omega]
    rw [e]
    exact (H a b (by omega) ha hb hp (by omega) (by omega) trivial).1 h
  · rcases int_lt_or b a with k | k
    · have e : sMade a b = (b, a) := by unfold sMade; rw [show min a b = b by omega, show max a b = a by omega]
      have e2 : sPick a b n = sPick b a n := by unfold sPick; rw [show min a b = min b a by omega, show max a b = max b a by omega]
      rw [e, e2]
      rw [e2] at hp
      exact (H b a (by omega) hb ha hp (by omega) (by omega) trivial).2 k
    · have e : a = b := by omega
      subst e
      have e : sMade a a = (a, a) := by unfold sMade; rw [show min a a = a by omega, show max a a = a by omega]
      rw [e]
      have e2 : sPick a a n = a := by
        unfold sPick
        rw [show min a a = a by omega, show max a a = a by omega, if_neg (by omega), show a - a + 1 = 1 by omega]
        omega
      rw [e2]
      unfold In64 at ha
      exact smade_eq a n w (by rw [IntKind.wrap_u64]; omega)

end Go.Proofs.Ytpnobkaeoiaelaa
