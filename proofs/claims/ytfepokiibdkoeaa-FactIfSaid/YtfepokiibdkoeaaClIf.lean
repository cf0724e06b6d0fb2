/-
  The statement FactIf: for every input the law returns true, and its arguments read as they did.
  Conditions: those that each theorem states.
-/
import Derived.Test.YtfepokiibdkoeaaAllF1
import Derived.Test.YtfepokiibdkoeaaAllF2
import Derived.Test.YtfepokiibdkoeaaAllF3
import Derived.Test.YtfepokiibdkoeaaAllF4
import Derived.Deep.RegionHeld3
import Derived.LoopTactic

/-
  The document's own answers of layer 6: what is known of both, if a condition holds: all its ways.
  Conditions: the numbers fit their kinds.
-/
namespace Go.Proofs.Ytfepokiibdkoeaa
open Go.RowKit
set_option linter.unusedVariables false

theorem turned_ref (op : Int) (w : World) : Calls Try.prog 72 #[.int .u8 op] w (Gives (.tuple #[.int .u8 (turnOf op), .bool (turns op)]) w) := by
  have h := ref_turned_any op w
  unfold Paired at h
  rw [turn_pair] at h
  exact h
/-- What comes of a fact with another range, and whether anything comes. -/
def fWd (f : Fc) (s : Sp) (k : Bool) : Option Fc := if k then fS (f.1, s) else none
theorem with_says (f : Fc) (s : Sp) (k : Bool) (hs : k = true → sIn s) : ∃ g, (∀ w, Calls Try.prog 71 #[fV f, sV s, .bool k] w (Gives (fBV g (fWd f s k).isSome) w)) ∧ ∀ x, fWd f s k = some x → x = g := by
  unfold fWd
  cases k
  · exact ⟨fZ, fun w => rf_with_no f s w, fun x h => by cases h⟩
  · rw [if_pos rfl]
    refine ⟨(fS (f.1, s)).getD fZ, fun w => rf_with_yes f s w (hs rfl), fun x h => by rw [h]; rfl⟩

theorem rf_if_parts (op : Int) (wide : Bool) (a b : Fc) (w : World) (kx ky : Bool) (hk : (kx && ky) = false) (p q : BitVec 64) (ia : fIn a) (ib : fIn b) (ra : sR a.2 = true) (rb : sR b.2 = true)
    (R1 : Hid (∀ w, Calls Try.prog 18 #[fV a] w (Gives (.bool true) w)))
    (R2 : Hid (∀ w, Calls Try.prog 18 #[fV b] w (Gives (.bool true) w)))
    (K1 : Hid (∀ w, Calls Try.prog 15 #[fV a] w (Gives (.tuple #[uV p, .bool kx]) w)))
    (K2 : Hid (∀ w, Calls Try.prog 15 #[fV b] w (Gives (.tuple #[uV q, .bool ky]) w)))
    (hs : wide = false → a.2.2 < 4294967296 ∧ b.2.2 < 4294967296) :
    Calls Try.prog 34 #[.int .u8 op, .bool wide, fV a, fV b] w (Gives (match fI op a b with | some p => fTV p.1 p.2 true | none => fTV fZ fZ false) w) := by
  have I1 := Lib.hid fun w => rsif_says op a.2 b.2 w ia ib
  have T := Lib.hid fun w => turned_ref op w
  have I2 := Lib.hid fun w => rsif_says (turnOf op) b.2 a.2 w ib ia
  have n1 := fun k => sIf_in (op := op) (b := b.2) ia ra k
  have n2 := fun k => sIf_in (op := turnOf op) (b := a.2) ib rb k
  by_cases o : op = 16
  · subst o
    have M := Lib.hid fun w => rmeet_says a.1 b.1 w
    cases k3 : tMok a.1 b.1
    · rw [k3] at M
      have hn : fI 16 a b = none := by
        unfold fI fItok
        rw [if_pos rfl, k3]
        rfl
      rw [hn]
      cases wide
      · exact rf_if_c_mn kx ky hk a b w R1 R2 p K1 q K2 _ M (hs rfl)
      · exact rf_if_c_mw kx ky hk a b w R1 R2 p K1 q K2 _ M
    · rw [k3] at M
      obtain ⟨x, V1, e1⟩ := with_says (tM a.1 b.1, a.2) (sIf 16 a.2 b.2) (sIfok 16 a.2 b.2) n1
      obtain ⟨y, V2, e2⟩ := with_says (tM a.1 b.1, b.2) (sIf (turnOf 16) b.2 a.2) (sIfok (turnOf 16) b.2 a.2) n2
      have hI : fI 16 a b = (fWd (tM a.1 b.1, a.2) (sIf 16 a.2 b.2) (sIfok 16 a.2 b.2)).bind fun x => (fWd (tM a.1 b.1, b.2) (sIf (turnOf 16) b.2 a.2) (sIfok (turnOf 16) b.2 a.2)).map fun y => (x, y) := by
        unfold fI fIx fIy fItok fIt1 fIt2 fIrok fIr fWd
        rw [if_pos rfl, if_pos rfl, if_pos rfl, k3, if_pos rfl]
        rfl
      rw [hI]
      cases h1 : fWd (tM a.1 b.1, a.2) (sIf 16 a.2 b.2) (sIfok 16 a.2 b.2) with
      | none =>
        rw [h1] at V1
        cases wide
        · exact rf_if_c_fn _ kx ky hk a b w R1 R2 p K1 q K2 _ M _ _ I1 _ (Lib.hid V1) _ T _ _ I2 _ (Lib.hid V2) (hs rfl)
        · exact rf_if_c_fw _ kx ky hk a b w R1 R2 p K1 q K2 _ M _ _ I1 _ (Lib.hid V1) _ T _ _ I2 _ (Lib.hid V2)
      | some x' =>
        rw [h1] at V1
        rw [e1 x' h1]
        cases h2 : fWd (tM a.1 b.1, b.2) (sIf (turnOf 16) b.2 a.2) (sIfok (turnOf 16) b.2 a.2) with
        | none =>
          rw [h2] at V2
          cases wide
          · exact rf_if_c_tfn kx ky hk a b w R1 R2 p K1 q K2 _ M _ _ I1 _ (Lib.hid V1) _ T _ _ I2 _ (Lib.hid V2) (hs rfl)
          · exact rf_if_c_tfw kx ky hk a b w R1 R2 p K1 q K2 _ M _ _ I1 _ (Lib.hid V1) _ T _ _ I2 _ (Lib.hid V2)
        | some y' =>
          rw [h2] at V2
          rw [e2 y' h2]
          cases wide
          · exact rf_if_c_ttn kx ky hk a b w R1 R2 p K1 q K2 _ M _ _ I1 _ (Lib.hid V1) _ T _ _ I2 _ (Lib.hid V2) (hs rfl)
          · exact rf_if_c_ttw kx ky hk a b w R1 R2 p K1 q K2 _ M _ _ I1 _ (Lib.hid V1) _ T _ _ I2 _ (Lib.hid V2)
  have ho : (op == 16) = false := beq_eq_false_iff_ne.mpr o
  obtain ⟨x, V1, e1⟩ := with_says a (sIf op a.2 b.2) (sIfok op a.2 b.2) n1
  cases t : turns op
  · rw [t] at T
    obtain ⟨y, V2, e2⟩ := with_says b b.2 true (fun _ => ib)
    have hI : fI op a b = (fWd a (sIf op a.2 b.2) (sIfok op a.2 b.2)).bind fun x => (fWd b b.2 true).map fun y => (x, y) := by
      unfold fI fIx fIy fItok fIt1 fIt2 fIrok fIr fWd
      rw [if_neg o, if_neg o, if_neg o, t]
      rfl
    rw [hI]
    cases h1 : fWd a (sIf op a.2 b.2) (sIfok op a.2 b.2) with
    | none =>
      rw [h1] at V1
      cases wide
      · exact rf_if_a_fn op ho _ kx ky hk a b w R1 R2 p K1 q K2 _ _ I1 _ (Lib.hid V1) _ T _ (Lib.hid V2) (hs rfl)
      · exact rf_if_a_fw op ho _ kx ky hk a b w R1 R2 p K1 q K2 _ _ I1 _ (Lib.hid V1) _ T _ (Lib.hid V2)
    | some x' =>
      rw [h1] at V1
      rw [e1 x' h1]
      cases h2 : fWd b b.2 true with
      | none =>
        rw [h2] at V2
        cases wide
        · exact rf_if_a_tfn op ho kx ky hk a b w R1 R2 p K1 q K2 _ _ I1 _ (Lib.hid V1) _ T _ (Lib.hid V2) (hs rfl)
        · exact rf_if_a_tfw op ho kx ky hk a b w R1 R2 p K1 q K2 _ _ I1 _ (Lib.hid V1) _ T _ (Lib.hid V2)
      | some y' =>
        rw [h2] at V2
        rw [e2 y' h2]
        cases wide
        · exact rf_if_a_ttn op ho kx ky hk a b w R1 R2 p K1 q K2 _ _ I1 _ (Lib.hid V1) _ T _ (Lib.hid V2) (hs rfl)
        · exact rf_if_a_ttw op ho kx ky hk a b w R1 R2 p K1 q K2 _ _ I1 _ (Lib.hid V1) _ T _ (Lib.hid V2)
  · rw [t] at T
    obtain ⟨y, V2, e2⟩ := with_says b (sIf (turnOf op) b.2 a.2) (sIfok (turnOf op) b.2 a.2) n2
    have hI : fI op a b = (fWd a (sIf op a.2 b.2) (sIfok op a.2 b.2)).bind fun x => (fWd b (sIf (turnOf op) b.2 a.2) (sIfok (turnOf op) b.2 a.2)).map fun y => (x, y) := by
      unfold fI fIx fIy fItok fIt1 fIt2 fIrok fIr fWd
      rw [if_neg o, if_neg o, if_neg o, t]
      rfl
    rw [hI]
    cases h1 : fWd a (sIf op a.2 b.2) (sIfok op a.2 b.2) with
    | none =>
      rw [h1] at V1
      cases wide
      · exact rf_if_b_fn op ho _ kx ky hk a b w R1 R2 p K1 q K2 _ _ I1 _ (Lib.hid V1) _ T _ _ I2 _ (Lib.hid V2) (hs rfl)
      · exact rf_if_b_fw op ho _ kx ky hk a b w R1 R2 p K1 q K2 _ _ I1 _ (Lib.hid V1) _ T _ _ I2 _ (Lib.hid V2)
    | some x' =>
      rw [h1] at V1
      rw [e1 x' h1]
      cases h2 : fWd b (sIf (turnOf op) b.2 a.2) (sIfok (turnOf op) b.2 a.2) with
      | none =>
        rw [h2] at V2
        cases wide
        · exact rf_if_b_tfn op ho kx ky hk a b w R1 R2 p K1 q K2 _ _ I1 _ (Lib.hid V1) _ T _ _ I2 _ (Lib.hid V2) (hs rfl)
        · exact rf_if_b_tfw op ho kx ky hk a b w R1 R2 p K1 q K2 _ _ I1 _ (Lib.hid V1) _ T _ _ I2 _ (Lib.hid V2)
      | some y' =>
        rw [h2] at V2
        rw [e2 y' h2]
        cases wide
        · exact rf_if_b_ttn op ho kx ky hk a b w R1 R2 p K1 q K2 _ _ I1 _ (Lib.hid V1) _ T _ _ I2 _ (Lib.hid V2) (hs rfl)
        · exact rf_if_b_ttw op ho kx ky hk a b w R1 R2 p K1 q K2 _ _ I1 _ (Lib.hid V1) _ T _ _ I2 _ (Lib.hid V2)

theorem rf_if (op : Int) (wide : Bool) (a b : Fc) (w : World) (ia : fIn a) (ib : fIn b) :
    Calls Try.prog 34 #[.int .u8 op, .bool wide, fV a, fV b] w (Gives (match fIf op wide a b with | some p => fTV p.1 p.2 true | none => fTV fZ fZ false) w) := by
  have R1 := Lib.hid fun w => rf_right a w ia
  have R2 := Lib.hid fun w => rf_right b w ib
  unfold fIf
  cases r1 : fR a
  · rw [r1] at R1
    exact rf_if_not1 op wide a b w R1
  rw [r1] at R1
  cases r2 : fR b
  · rw [r2] at R2
    exact rf_if_not2 op wide a b w R1 R2
  rw [r2] at R2
  have fa := fR_iff.mp r1
  have fb := fR_iff.mp r2
  have K1 := Lib.hid fun w => rf_known a w ia
  have K2 := Lib.hid fun w => rf_known b w ib
  rw [Bool.and_self, if_pos rfl]
  cases hk : (fK a && fK b)
  · rw [if_neg (by decide)]
    have hp := fun (h : wide = false → a.2.2 < 4294967296 ∧ b.2.2 < 4294967296) => rf_if_parts op wide a b w _ _ hk _ _ ia ib (fRR_iff.mp fa.1).2 (fRR_iff.mp fb.1).2 R1 R2 K1 K2 h
    cases wide
    · by_cases la : 4294967296 ≤ a.2.2
      · rw [if_pos ⟨rfl, Or.inl la⟩]
        exact rf_if_long_a op _ _ hk a b w R1 R2 _ K1 _ K2 la
      by_cases lb : 4294967296 ≤ b.2.2
      · rw [if_pos ⟨rfl, Or.inr lb⟩]
        exact rf_if_long_b op _ _ hk a b w R1 R2 _ K1 _ K2 (by omega) lb
      have hn : ¬ (false = false ∧ (4294967296 ≤ a.2.2 ∨ 4294967296 ≤ b.2.2)) := by
        rintro ⟨_, h | h⟩ <;> omega
      rw [if_neg hn]
      exact hp (fun _ => ⟨by omega, by omega⟩)
    · rw [if_neg (fun h => by cases h.1)]
      exact hp (fun h => by cases h)
  · rw [if_pos rfl]
    obtain ⟨k1, k2⟩ := Bool.and_eq_true_iff.mp hk
    rw [k1] at K1
    rw [k2] at K2
    have J : Hid (∀ w, Calls Try.prog 37 #[.int .u8 op, .bool wide, uV (fKv a), uV (fKv b)] w (Gives (.tuple #[.bool (condV op wide ((fKv a).toNat : Int) ((fKv b).toNat : Int)), .int .i64 (condE op)]) w)) := Lib.hid fun w => ref_is_any op wide ((fKv a).toNat : Int) ((fKv b).toNat : Int) w (bv_rng _) (bv_rng _)
    by_cases he : condE op = 0
    · rw [he] at J
      cases hv : condV op wide ((fKv a).toNat : Int) ((fKv b).toNat : Int)
      · rw [hv] at J
        rw [if_neg (fun h => by cases h.2)]
        exact rf_if_is_no op wide a b w R1 R2 _ K1 _ K2 J
      · rw [hv] at J
        rw [if_pos ⟨he, rfl⟩]
        exact rf_if_is_yes op wide a b w R1 R2 _ K1 _ K2 J
    · rw [if_neg (fun h => he h.1)]
      exact rf_if_is_err op wide _ (bne_iff_ne.mpr he) a b w R1 R2 _ K1 _ K2 _ J

end Go.Proofs.Ytfepokiibdkoeaa


/-
  P6.1: whether one fact is within another one, what may be one of both, and what is known of the lowest 32 bits, are the document's; the walk.
  Conditions: the numbers fit their kinds.
-/
namespace Go.Proofs.Ytfepokiibdkoeaa
open Go.RowKit
set_option linter.unusedVariables false

theorem Blk.eight_ftwo {g : Nat} {cs : Array Value} {t : TypeId} {w : World} (h : Blk g cs t w) (k : Nat) : w.cell? ⟨g, k, none⟩ = cs[k]? ∧ w.cell? ⟨g, k + 1, none⟩ = cs[k + 1]? ∧ w.cell? ⟨g, k + 2, none⟩ = cs[k + 2]? ∧ w.cell? ⟨g, k + 3, none⟩ = cs[k + 3]? ∧ w.cell? ⟨g, k + 4, none⟩ = cs[k + 4]? ∧ w.cell? ⟨g, k + 5, none⟩ = cs[k + 5]? ∧ w.cell? ⟨g, k + 6, none⟩ = cs[k + 6]? ∧ w.cell? ⟨g, k + 7, none⟩ = cs[k + 7]? :=
  ⟨Blk.cell h _, Blk.cell h _, Blk.cell h _, Blk.cell h _, Blk.cell h _, Blk.cell h _, Blk.cell h _, Blk.cell h _⟩
theorem eight_at_ftwo {g : Nat} {u v : Fc} {t : TypeId} {w : World} (h : Blk g #[uV u.1.1, uV u.1.2, .int .u64 u.2.1, .int .u64 u.2.2, uV v.1.1, uV v.1.2, .int .u64 v.2.1, .int .u64 v.2.2] t w) : w.cell? ⟨g, 0, none⟩ = some (uV u.1.1) ∧ w.cell? ⟨g, 1, none⟩ = some (uV u.1.2) ∧ w.cell? ⟨g, 2, none⟩ = some (.int .u64 u.2.1) ∧ w.cell? ⟨g, 3, none⟩ = some (.int .u64 u.2.2) ∧ w.cell? ⟨g, 4, none⟩ = some (uV v.1.1) ∧ w.cell? ⟨g, 5, none⟩ = some (uV v.1.2) ∧ w.cell? ⟨g, 6, none⟩ = some (.int .u64 v.2.1) ∧ w.cell? ⟨g, 7, none⟩ = some (.int .u64 v.2.2) :=
  ⟨Blk.cell h 0, Blk.cell h 1, Blk.cell h 2, Blk.cell h 3, Blk.cell h 4, Blk.cell h 5, Blk.cell h 6, Blk.cell h 7⟩
theorem fJ_in {a b : Fc} (ha : fIn a) (hb : fIn b) : fIn (fJ a b) := by
  unfold fJ
  split
  · exact fSd_in (f := (tJ a.1 b.1, sJ a.2 b.2)) (sJ_in ha hb)
  · exact fOf_in 0#64
/-- Two facts that lie side by side. -/
def Side_ftwo (w : World) (g k : Nat) (u v : Fc) : Prop := w.cell? ⟨g, k, none⟩ = some (uV u.1.1) ∧ w.cell? ⟨g, k + 1, none⟩ = some (uV u.1.2) ∧ w.cell? ⟨g, k + 2, none⟩ = some (.int .u64 u.2.1) ∧ w.cell? ⟨g, k + 3, none⟩ = some (.int .u64 u.2.2) ∧
  w.cell? ⟨g, k + 4, none⟩ = some (uV v.1.1) ∧ w.cell? ⟨g, k + 5, none⟩ = some (uV v.1.2) ∧ w.cell? ⟨g, k + 6, none⟩ = some (.int .u64 v.2.1) ∧ w.cell? ⟨g, k + 7, none⟩ = some (.int .u64 v.2.2)
theorem sides_ftwo (a b c d j0 : Fc) {w : World} {g : Nat} (h : Blk g #[uV a.1.1, uV a.1.2, .int .u64 a.2.1, .int .u64 a.2.2, uV b.1.1, uV b.1.2, .int .u64 b.2.1, .int .u64 b.2.2, uV c.1.1, uV c.1.2, .int .u64 c.2.1, .int .u64 c.2.2, uV d.1.1, uV d.1.2, .int .u64 d.2.1, .int .u64 d.2.2, uV c.1.1, uV c.1.2, .int .u64 c.2.1, .int .u64 c.2.2, uV j0.1.1, uV j0.1.2, .int .u64 j0.2.1, .int .u64 j0.2.2] 38 w) (ha : fIn a) (hb : fIn b) (hc : fIn c) (hd : fIn d) (hj0 : fIn j0) (j : Nat) (hj : j < 3) : ∃ u v, fIn u ∧ fIn v ∧ Side_ftwo w g (j * 8) u v := by
  have hj' : j = 0 ∨ j = 1 ∨ j = 2 := by omega
  rcases hj' with rfl | rfl | rfl
  · exact ⟨a, b, ha, hb, Blk.eight_ftwo h (0 * 8)⟩
  · exact ⟨c, d, hc, hd, Blk.eight_ftwo h (1 * 8)⟩
  · exact ⟨c, j0, hc, hj0, Blk.eight_ftwo h (2 * 8)⟩

set_option maxRecDepth 100000 in
set_option maxHeartbeats 16000000 in
theorem ftwo_walk (a b : Fc) (w : World) (ha : fIn a) (hb : fIn b) : Calls Try.prog 4 #[fV a, fV b] w (Fine w) := by
  have S1 := Lib.hid fun w => rf_settle a w ha
  have S2 := Lib.hid fun w => rf_settle b w hb
  have hc : fIn ((fS a).getD fZ) := fSd_in ha
  have hd : fIn ((fS b).getD fZ) := fSd_in hb
  generalize (fS a).getD fZ = c at *
  generalize (fS a).isSome = k at *
  generalize (fS b).getD fZ = d at *
  generalize (fS b).isSome = l at *
  have J1 := Lib.hid fun w => rf_join c d w hc hd
  have hj := fJ_in hc hd
  generalize fJ c d = j0 at *
  have hx := Lib.hid (((Blks.start w).new (fCells a) 28).new (fCells b) 28)
  go_enter Try.func4, Try.ntmps4
  go_wp2_with fail
  refine (fact_shown _).mono ?_; rintro e w1 ⟨rfl, b1⟩
  have x1 := hx.out.after b1
  clear hx b1
  have y1 : fB w.heap.size a w1 := x1.get (by simp)
  obtain ⟨c0, c1, c2, c3⟩ := y1.cells
  go_wp2_with fail
  refine (S1.out _).mono ?_; rintro e w2 ⟨rfl, b2⟩
  have x2 := x1.after b2
  have y2 : fB (w.heap.size + 1) b w2 := x2.get (by simp)
  clear c0 c1 c2 c3
  obtain ⟨d0, d1, d2, d3⟩ := y2.cells
  have z2 := y2.lt
  have X2 := Lib.hid (x2.new (fCells c) 28)
  clear x1 b2 x2 y1 y2
  go_wp2_with fail
  refine (S2.out _).mono ?_; rintro e w3 ⟨rfl, b3⟩
  have x3 := X2.out.after b3
  generalize w2.heap.size = gc at *
  have X3 := Lib.hid (x3.new (fCells d) 28)
  clear X2 b3 x3 d0 d1 d2 d3 S1 S2
  go_wp2_with fail
  generalize w3.heap.size = gd at *
  generalize w3.alloc (.cells #[uV d.1.1, uV d.1.2, .int .u64 d.2.1, .int .u64 d.2.2] 28) = w4 at *
  have HB : Below w4.heap.size w4 w4.drew := Below.drew (Below.refl _ _)
  have H := Lib.hid (fun (wx : World) (hx : Below w4.heap.size w4 wx) => And.intro (fB.cells ((X3.out.after hx).get (g := w.heap.size) (cs := fCells a) (t := 28) (by simp))) (And.intro (fB.cells ((X3.out.after hx).get (g := w.heap.size + 1) (cs := fCells b) (t := 28) (by simp))) (And.intro (fB.cells ((X3.out.after hx).get (g := gc) (cs := fCells c) (t := 28) (by simp))) (fB.cells ((X3.out.after hx).get (g := gd) (cs := fCells d) (t := 28) (by simp))))))
  go_region_held3 (fun w' => (w'.cell? ⟨w.heap.size, 0, none⟩ = some (uV a.1.1) ∧ w'.cell? ⟨w.heap.size, 1, none⟩ = some (uV a.1.2) ∧ w'.cell? ⟨w.heap.size, 2, none⟩ = some (.int .u64 a.2.1) ∧ w'.cell? ⟨w.heap.size, 3, none⟩ = some (.int .u64 a.2.2)) ∧ (w'.cell? ⟨w.heap.size + 1, 0, none⟩ = some (uV b.1.1) ∧ w'.cell? ⟨w.heap.size + 1, 1, none⟩ = some (uV b.1.2) ∧ w'.cell? ⟨w.heap.size + 1, 2, none⟩ = some (.int .u64 b.2.1) ∧ w'.cell? ⟨w.heap.size + 1, 3, none⟩ = some (.int .u64 b.2.2)) ∧ (w'.cell? ⟨gc, 0, none⟩ = some (uV c.1.1) ∧ w'.cell? ⟨gc, 1, none⟩ = some (uV c.1.2) ∧ w'.cell? ⟨gc, 2, none⟩ = some (.int .u64 c.2.1) ∧ w'.cell? ⟨gc, 3, none⟩ = some (.int .u64 c.2.2)) ∧ (w'.cell? ⟨gd, 0, none⟩ = some (uV d.1.1) ∧ w'.cell? ⟨gd, 1, none⟩ = some (uV d.1.2) ∧ w'.cell? ⟨gd, 2, none⟩ = some (.int .u64 d.2.1) ∧ w'.cell? ⟨gd, 3, none⟩ = some (.int .u64 d.2.2)))
    (first | exact (Hid.out H) _ (by assumption) | exact (Hid.out H) _ (Below.drew (by assumption)) | exact (Hid.out H) _ (below_alloc (by assumption) _))
    (first | (go_at_call 25; refine (J1.out _).mono ?_; rintro e w6 ⟨rfl, hb6⟩; replace HB := below_next' HB hb6; clear hb6))
  rename_i hh
  clear hh
  have BB := (X3.out.after HB).1
  clear HB H X3
  have L6 := Lib.hid (Blk.new w6 #[uV a.1.1, uV a.1.2, .int .u64 a.2.1, .int .u64 a.2.2, uV b.1.1, uV b.1.2, .int .u64 b.2.1, .int .u64 b.2.2, uV c.1.1, uV c.1.2, .int .u64 c.2.1, .int .u64 c.2.2, uV d.1.1, uV d.1.2, .int .u64 d.2.1, .int .u64 d.2.2, uV c.1.1, uV c.1.2, .int .u64 c.2.1, .int .u64 c.2.2, uV j0.1.1, uV j0.1.2, .int .u64 j0.2.1, .int .u64 j0.2.2] 38 (g := w6.heap.size) rfl)
  have B6 := below_alloc BB (.cells #[uV a.1.1, uV a.1.2, .int .u64 a.2.1, .int .u64 a.2.2, uV b.1.1, uV b.1.2, .int .u64 b.2.1, .int .u64 b.2.2, uV c.1.1, uV c.1.2, .int .u64 c.2.1, .int .u64 c.2.2, uV d.1.1, uV d.1.2, .int .u64 d.2.1, .int .u64 d.2.2, uV c.1.1, uV c.1.2, .int .u64 c.2.1, .int .u64 c.2.2, uV j0.1.1, uV j0.1.2, .int .u64 j0.2.1, .int .u64 j0.2.2] 38)
  clear BB
  generalize w6.heap.size = gs at *
  generalize w6.alloc (.cells #[uV a.1.1, uV a.1.2, .int .u64 a.2.1, .int .u64 a.2.2, uV b.1.1, uV b.1.2, .int .u64 b.2.1, .int .u64 b.2.2, uV c.1.1, uV c.1.2, .int .u64 c.2.1, .int .u64 c.2.2, uV d.1.1, uV d.1.2, .int .u64 d.2.1, .int .u64 d.2.2, uV c.1.1, uV c.1.2, .int .u64 c.2.1, .int .u64 c.2.2, uV j0.1.1, uV j0.1.2, .int .u64 j0.2.1, .int .u64 j0.2.2] 38) = w7 at *
  go_wp2_with fail
  go_loopw [36] (fun i wr => ∃ j : Nat, j ≤ 3 ∧ i = .int .i64 j ∧ Hid (Below w.heap.size w wr ∧ Blk gs #[uV a.1.1, uV a.1.2, .int .u64 a.2.1, .int .u64 a.2.2, uV b.1.1, uV b.1.2, .int .u64 b.2.1, .int .u64 b.2.2, uV c.1.1, uV c.1.2, .int .u64 c.2.1, .int .u64 c.2.2, uV d.1.1, uV d.1.2, .int .u64 d.2.1, .int .u64 d.2.2, uV c.1.1, uV c.1.2, .int .u64 c.2.1, .int .u64 c.2.2, uV j0.1.1, uV j0.1.2, .int .u64 j0.2.1, .int .u64 j0.2.2] 38 wr)) (fun i _ => 3 - (intOf i).toNat)
  case atStart => exact ⟨0, by omega, rfl, Lib.hid ⟨B6, L6.out⟩⟩
  case round =>
    clear B6 L6
    obtain ⟨j, hj3, rfl, X⟩ := hrel
    by_cases hlt : (j : Int) < 3
    · obtain ⟨u, v, hu, hv, t0, t1, t2, t3, t4, t5, t6, t7⟩ := sides_ftwo a b c d j0 X.out.2 ha hb hc hd hj j (by omega)
      have kg := Blk.lt X.out.2
      have W1 := Lib.hid fun w => fp_within u v w hu hv
      have W2 := Lib.hid fun w => rf_within u v w hu hv
      have J1 := Lib.hid fun w => fp_join u v w hu hv
      have J2 := Lib.hid fun w => rf_join u v w hu hv
      have C1 := Lib.hid fun w => fp_cut u w hu
      have C2 := Lib.hid fun w => rf_cut u w hu
      generalize fWi u v = r at *
      generalize fJ u v = y at *
      generalize fC u = z at *
      go_wp2_with fail
      have XB := Lib.hid (Blk.new wr #[uV u.1.1, uV u.1.2, .int .u64 u.2.1, .int .u64 u.2.2, uV v.1.1, uV v.1.2, .int .u64 v.2.1, .int .u64 v.2.2] 38 (g := wr.heap.size) rfl)
      have XL := Lib.hid (And.intro (below_alloc X.out.1 (.cells #[uV u.1.1, uV u.1.2, .int .u64 u.2.1, .int .u64 u.2.2, uV v.1.1, uV v.1.2, .int .u64 v.2.1, .int .u64 v.2.2] 38)) (Blk.after X.out.2 (below_alloc (Below.refl _ _) (.cells #[uV u.1.1, uV u.1.2, .int .u64 u.2.1, .int .u64 u.2.2, uV v.1.1, uV v.1.2, .int .u64 v.2.1, .int .u64 v.2.2] 38))))
      clear t0 t1 t2 t3 t4 t5 t6 t7 X
      generalize wr.heap.size = gx at *
      generalize wr.alloc (.cells #[uV u.1.1, uV u.1.2, .int .u64 u.2.1, .int .u64 u.2.2, uV v.1.1, uV v.1.2, .int .u64 v.2.1, .int .u64 v.2.2] 38) = w7 at *
      have HB : Below w7.heap.size w7 w7.drew := Below.drew (Below.refl _ _)
      have H := Lib.hid (fun (wx : World) (hx : Below w7.heap.size w7 wx) => eight_at_ftwo (Blk.after XB.out hx))
      go_region_held3 (fun w' => w'.cell? ⟨gx, 0, none⟩ = some (uV u.1.1) ∧ w'.cell? ⟨gx, 1, none⟩ = some (uV u.1.2) ∧ w'.cell? ⟨gx, 2, none⟩ = some (.int .u64 u.2.1) ∧ w'.cell? ⟨gx, 3, none⟩ = some (.int .u64 u.2.2) ∧ w'.cell? ⟨gx, 4, none⟩ = some (uV v.1.1) ∧ w'.cell? ⟨gx, 5, none⟩ = some (uV v.1.2) ∧ w'.cell? ⟨gx, 6, none⟩ = some (.int .u64 v.2.1) ∧ w'.cell? ⟨gx, 7, none⟩ = some (.int .u64 v.2.2))
        (first | exact (Hid.out H) _ (by assumption) | exact (Hid.out H) _ (Below.drew (by assumption)))
        (first
          | (go_at_call 26; refine (W1.out _).mono ?_; rintro e w8 ⟨rfl, hb8⟩; replace HB := below_next' HB hb8; clear hb8)
          | (go_at_call 27; refine (W2.out _).mono ?_; rintro e w8 ⟨rfl, hb8⟩; replace HB := below_next' HB hb8; clear hb8)
          | (go_at_call 28; refine (J1.out _).mono ?_; rintro e w8 ⟨rfl, hb8⟩; replace HB := below_next' HB hb8; clear hb8)
          | (go_at_call 25; refine (J2.out _).mono ?_; rintro e w8 ⟨rfl, hb8⟩; replace HB := below_next' HB hb8; clear hb8)
          | (go_at_call 29; refine (C1.out _).mono ?_; rintro e w8 ⟨rfl, hb8⟩; replace HB := below_next' HB hb8; clear hb8)
          | (go_at_call 30; refine (C2.out _).mono ?_; rintro e w8 ⟨rfl, hb8⟩; replace HB := below_next' HB hb8; clear hb8))
      all_goals
        rename_i hh
        clear hh
        go_wp2_with fail
        go_round
        case rel => exact ⟨j + 1, by omega, by go_num, Lib.hid ⟨below_next' XL.out.1 HB, Blk.after XL.out.2 HB⟩⟩
        case measure => first | (simp [intOf]; done) | (simp [intOf]; omega)

    · have hj2 : j = 3 := by omega
      subst hj2
      go_wp2_with fail
      go_ret
      exact ⟨rfl, X.out.1⟩

end Go.Proofs.Ytfepokiibdkoeaa


/-
  P6.3: what is known of both, if a condition holds, is the document's; the walk.
  Conditions: the numbers fit their kinds.
-/
namespace Go.Proofs.Ytfepokiibdkoeaa
open Go.RowKit
set_option linter.unusedVariables false

theorem sides_fif (a b c d : Fc) {w : World} {g : Nat} (h : Blk g #[uV a.1.1, uV a.1.2, .int .u64 a.2.1, .int .u64 a.2.2, uV b.1.1, uV b.1.2, .int .u64 b.2.1, .int .u64 b.2.2, uV c.1.1, uV c.1.2, .int .u64 c.2.1, .int .u64 c.2.2, uV d.1.1, uV d.1.2, .int .u64 d.2.1, .int .u64 d.2.2] 38 w) (ha : fIn a) (hb : fIn b) (hc : fIn c) (hd : fIn d) (j : Nat) (hj : j < 2) : ∃ u v, fIn u ∧ fIn v ∧ Side_ftwo w g (j * 8) u v := by
  have hj' : j = 0 ∨ j = 1 := by omega
  rcases hj' with rfl | rfl
  · exact ⟨a, b, ha, hb, Blk.eight_ftwo h (0 * 8)⟩
  · exact ⟨c, d, hc, hd, Blk.eight_ftwo h (1 * 8)⟩

set_option maxRecDepth 100000 in
set_option maxHeartbeats 16000000 in
theorem fif_walk (op : Int) (wide : Bool) (a b : Fc) (w : World) (ha : fIn a) (hb : fIn b) : Calls Try.prog 6 #[.int .u8 op, .bool wide, fV a, fV b] w (Fine w) := by
  have S1 := Lib.hid fun w => rf_settle a w ha
  have S2 := Lib.hid fun w => rf_settle b w hb
  have hc : fIn ((fS a).getD fZ) := fSd_in ha
  have hd : fIn ((fS b).getD fZ) := fSd_in hb
  generalize (fS a).getD fZ = c at *
  generalize (fS a).isSome = k at *
  generalize (fS b).getD fZ = d at *
  generalize (fS b).isSome = l at *
  have hx := Lib.hid (((Blks.start w).new (fCells a) 28).new (fCells b) 28)
  go_enter Try.func6, Try.ntmps6
  go_wp2_with fail
  refine (fact_shown _).mono ?_; rintro e w1 ⟨rfl, b1⟩
  have x1 := hx.out.after b1
  clear hx b1
  have y1 : fB w.heap.size a w1 := x1.get (by simp)
  obtain ⟨c0, c1, c2, c3⟩ := y1.cells
  go_wp2_with fail
  refine (S1.out _).mono ?_; rintro e w2 ⟨rfl, b2⟩
  have x2 := x1.after b2
  have y2 : fB (w.heap.size + 1) b w2 := x2.get (by simp)
  clear c0 c1 c2 c3
  obtain ⟨d0, d1, d2, d3⟩ := y2.cells
  have z2 := y2.lt
  have X2 := Lib.hid (x2.new (fCells c) 28)
  clear x1 b2 x2 y1 y2
  go_wp2_with fail
  refine (S2.out _).mono ?_; rintro e w3 ⟨rfl, b3⟩
  have x3 := X2.out.after b3
  generalize w2.heap.size = gc at *
  clear X2 b3 d0 d1 d2 d3 S1 S2
  have y3 : fB w.heap.size a w3 := x3.get (by simp)
  have y4 : fB (w.heap.size + 1) b w3 := x3.get (by simp)
  have y5 : fB gc c w3 := x3.get (by simp)
  have BB := Lib.hid x3.1
  clear x3
  obtain ⟨p0, p1, p2, p3⟩ := y3.cells
  obtain ⟨q0, q1, q2, q3⟩ := y4.cells
  obtain ⟨c0, c1, c2, c3⟩ := y5.cells
  have z3 := y3.lt
  have z4 := y4.lt
  have z5 := y5.lt
  clear y3 y4 y5
  go_wp2_with fail
  have L6 := Lib.hid (Blk.new (w3.alloc (.cells #[uV d.1.1, uV d.1.2, .int .u64 d.2.1, .int .u64 d.2.2] 28)) #[uV a.1.1, uV a.1.2, .int .u64 a.2.1, .int .u64 a.2.2, uV b.1.1, uV b.1.2, .int .u64 b.2.1, .int .u64 b.2.2, uV c.1.1, uV c.1.2, .int .u64 c.2.1, .int .u64 c.2.2, uV d.1.1, uV d.1.2, .int .u64 d.2.1, .int .u64 d.2.2] 38 (g := w3.heap.size + 1) (by simp))
  have B6 := Lib.hid (below_alloc (below_alloc BB.out (.cells #[uV d.1.1, uV d.1.2, .int .u64 d.2.1, .int .u64 d.2.2] 28)) (.cells #[uV a.1.1, uV a.1.2, .int .u64 a.2.1, .int .u64 a.2.2, uV b.1.1, uV b.1.2, .int .u64 b.2.1, .int .u64 b.2.2, uV c.1.1, uV c.1.2, .int .u64 c.2.1, .int .u64 c.2.2, uV d.1.1, uV d.1.2, .int .u64 d.2.1, .int .u64 d.2.2] 38))
  clear BB p0 p1 p2 p3 q0 q1 q2 q3 c0 c1 c2 c3 z3 z4 z5
  generalize (w3.alloc (.cells #[uV d.1.1, uV d.1.2, .int .u64 d.2.1, .int .u64 d.2.2] 28)).alloc (.cells #[uV a.1.1, uV a.1.2, .int .u64 a.2.1, .int .u64 a.2.2, uV b.1.1, uV b.1.2, .int .u64 b.2.1, .int .u64 b.2.2, uV c.1.1, uV c.1.2, .int .u64 c.2.1, .int .u64 c.2.2, uV d.1.1, uV d.1.2, .int .u64 d.2.1, .int .u64 d.2.2] 38) = w7 at *
  generalize w3.heap.size + 1 = gs at *
  go_loopw [41] (fun i wr => ∃ j : Nat, j ≤ 2 ∧ i = .int .i64 j ∧ Hid (Below w.heap.size w wr ∧ Blk gs #[uV a.1.1, uV a.1.2, .int .u64 a.2.1, .int .u64 a.2.2, uV b.1.1, uV b.1.2, .int .u64 b.2.1, .int .u64 b.2.2, uV c.1.1, uV c.1.2, .int .u64 c.2.1, .int .u64 c.2.2, uV d.1.1, uV d.1.2, .int .u64 d.2.1, .int .u64 d.2.2] 38 wr)) (fun i _ => 2 - (intOf i).toNat)
  case atStart => exact ⟨0, by omega, rfl, Lib.hid ⟨B6.out, L6.out⟩⟩
  case round =>
    clear B6 L6
    obtain ⟨j, hj3, rfl, X⟩ := hrel
    by_cases hlt : (j : Int) < 2
    · obtain ⟨u, v, hu, hv, t0, t1, t2, t3, t4, t5, t6, t7⟩ := sides_fif a b c d X.out.2 ha hb hc hd j (by omega)
      have kg := Blk.lt X.out.2
      obtain ⟨y, z, q, d1, d2⟩ : ∃ y z q, (∀ w, Calls Try.prog 33 #[.int .u8 op, .bool wide, fV u, fV v] w (Gives (fTV y z q) w)) ∧ ∀ w, Calls Try.prog 34 #[.int .u8 op, .bool wide, fV u, fV v] w (Gives (fTV y z q) w) := by
        have d1 := fun w => fp_if op wide u v w hu hv
        have d2 := fun w => rf_if op wide u v w hu hv
        cases h : fIf op wide u v with
        | none => rw [h] at d1 d2; exact ⟨fZ, fZ, false, d1, d2⟩
        | some p => rw [h] at d1 d2; exact ⟨p.1, p.2, true, d1, d2⟩
      have D1 := Lib.hid d1
      have D2 := Lib.hid d2
      clear d1 d2
      go_wp2_with fail
      have XB := Lib.hid (Blk.new wr #[uV u.1.1, uV u.1.2, .int .u64 u.2.1, .int .u64 u.2.2, uV v.1.1, uV v.1.2, .int .u64 v.2.1, .int .u64 v.2.2] 38 (g := wr.heap.size) rfl)
      have XL := Lib.hid (And.intro (below_alloc X.out.1 (.cells #[uV u.1.1, uV u.1.2, .int .u64 u.2.1, .int .u64 u.2.2, uV v.1.1, uV v.1.2, .int .u64 v.2.1, .int .u64 v.2.2] 38)) (Blk.after X.out.2 (below_alloc (Below.refl _ _) (.cells #[uV u.1.1, uV u.1.2, .int .u64 u.2.1, .int .u64 u.2.2, uV v.1.1, uV v.1.2, .int .u64 v.2.1, .int .u64 v.2.2] 38))))
      clear t0 t1 t2 t3 t4 t5 t6 t7 X
      generalize wr.heap.size = gx at *
      generalize wr.alloc (.cells #[uV u.1.1, uV u.1.2, .int .u64 u.2.1, .int .u64 u.2.2, uV v.1.1, uV v.1.2, .int .u64 v.2.1, .int .u64 v.2.2] 38) = w7 at *
      refine (D1.out _).mono ?_; rintro e w8 ⟨rfl, b8⟩
      replace XB := Lib.hid (Blk.after XB.out b8)
      replace XL := Lib.hid (And.intro (below_next' XL.out.1 b8) (Blk.after XL.out.2 b8))
      clear b8
      obtain ⟨t0, t1, t2, t3, t4, t5, t6, t7⟩ := eight_at_ftwo XB.out
      have kx := Blk.lt XB.out
      have FN := Lib.hid (And.intro ((fB.new w8 y rfl).alloc (.cells (fCells z) 28)) (fB.new (w8.alloc (.cells (fCells y) 28)) z (g := w8.heap.size + 1) (by simp)))
      have L2 := Lib.hid (below_alloc (below_alloc (Below.refl w8.heap.size w8) (.cells (fCells y) 28)) (.cells (fCells z) 28))
      replace XL := Lib.hid (And.intro (below_next' XL.out.1 L2.out) (Blk.after XL.out.2 L2.out))
      clear L2
      go_wp2_with fail
      generalize w8.heap.size = gf at *
      refine (D2.out _).mono ?_; rintro e w9 ⟨rfl, b9⟩
      have y9 := FN.out.1.after b9
      have z9 := FN.out.2.after b9
      have BL := Lib.hid (And.intro (below_next' XL.out.1 b9) (Blk.after XL.out.2 b9))
      clear XB XL FN b9 t0 t1 t2 t3 t4 t5 t6 t7 kx
      obtain ⟨f0, f1, f2, f3⟩ := y9.cells
      obtain ⟨h0, h1, h2, h3⟩ := z9.cells
      have kf := y9.lt
      have kh := z9.lt
      clear y9 z9
      have L3 := Lib.hid (below_alloc (below_alloc (Below.refl w9.heap.size w9) (.cells (fCells y) 28)) (.cells (fCells z) 28))
      have BM := Lib.hid (And.intro (below_next' BL.out.1 L3.out) (Blk.after BL.out.2 L3.out))
      clear BL L3
      go_wp2_with fail
      go_round
      case rel => exact ⟨j + 1, by omega, by go_num, BM⟩
      case measure => first | (simp [intOf]; done) | (simp [intOf]; omega)

    · have hj2 : j = 2 := by omega
      subst hj2
      go_wp2_with fail
      go_ret
      exact ⟨rfl, X.out.1⟩

end Go.Proofs.Ytfepokiibdkoeaa


/-
  The statement FactIf: for every condition, wide or not, and two facts, the law returns true, and its arguments read as they did.
  Conditions: none beyond the row's own.
-/
namespace Go.Proofs.Ytfepokiibdkoeaa
open Go.ChangeShapes Go.WideShapes Go.ChangeAt Go.RowKit
set_option linter.unusedVariables false

set_option maxRecDepth 100000 in
theorem fif_lifted (os : Os) (started : os.Started) (H : Type) (enc : TypeId × Value → H) :
    ReturnsInHanded {} Try.checked os 6 .any (Rows.factIfSpec.pre6 enc Try.prog Try.f6 Rows.factIfRow.domain false) (Rows.factIfSpec.post enc Try.prog Try.f6 false true false false) := by
  refine law_lifted (C := Try.checked) own_none started (by kernel_rfl) Try.func6
    (ChangeSpec.witness6 (enc := enc) (C := Try.checked) false ⟨#[], #[.int .u8 0, .bool false, .agg #[.int .u64 0, .int .u64 0, .int .u64 0, .int .u64 0], .agg #[.int .u64 0, .int .u64 0, .int .u64 0, .int .u64 0]], []⟩ 8 (by kernel_rfl) (by kernel_rfl) (by kernel_rfl) (by kernel_rfl))
    laid_out rfl rfl Try.underlying4 (by kernel_rfl) (fun ds hd => by match ds, hd with | [d1, d2, d3, d4], _ => rfl) ?_
  intro W base args ds p hval hA
  rw [Try.params6] at hval hA
  obtain ⟨v0, v1, v2, v3, d0, d1, d2, d3, p0, p1, p2, p3, rfl, rfl, rfl, h0, h1, h2, h3⟩ := trodAll_four hA
  obtain ⟨op, rfl, _, _, wop⟩ := open_int Try.underlying5 (hval 0 _ _ rfl rfl) h0
  obtain ⟨wide, rfl, _, _⟩ := open_bool Try.underlying4 (hval 1 _ _ rfl rfl) h1
  obtain ⟨a, rfl, wa⟩ := open_fact (hval 2 _ _ rfl rfl) h2
  obtain ⟨b, rfl, wb⟩ := open_fact (hval 3 _ _ rfl rfl) h3
  exact fif_walk op wide a b W wa wb

theorem fif_holds : Rows.FactIfSaid :=
  OpenClaim.holds_of_wide 6 Try.f6 rfl rfl rfl rfl rfl rfl rfl ⟨rfl, rfl, rfl, rfl, rfl⟩ rfl rfl rfl rfl rfl (by kernel_rfl) Try.func6 (by kernel_rfl)
    (of_decide_eq_true (by kernel_rfl)) (by unfold Func.isWrapper; first | (rw [if_pos (by decide +kernel)]; kernel_rfl) | (rw [if_neg (by decide +kernel)]; exact ⟨rfl, rfl⟩))
    (fun os started H enc _ => fif_lifted os started H enc)

end Go.Proofs.Ytfepokiibdkoeaa

