/-
  What tnum.move and mul answer.
  Conditions: none.
-/
import Derived.Test.YtkiekbkjhlbnhaaTnumJoin
import Derived.LoopTactic
import Derived.StillTailTactics
import Derived.Deep.RegionWith
namespace Go.Proofs.Ytkiekbkjhlbnhaa
open Go.RowKit
set_option linter.unusedVariables false

set_option maxHeartbeats 1000000 in
theorem move_no (op : Int) (a b : Tn) (w : World) (h : tKnown b = false) : Calls Try.prog 37 #[.int .u8 op, tV a, tV b] w (Gives (tBV (0#64, 0#64) false) w) := by
  have hx := Lib.hid (Trio.new a b w)
  have hk : ((b.2.toNat : Int) != 0) = true ∨ (((b.2.toNat : Int) != 0) = false ∧ (63 : Int) < (b.1.toNat : Int)) := by
    unfold tKnown at h
    rw [bv_ne0]
    cases hm : (b.2 == 0#64)
    · exact .inl rfl
    · rw [hm] at h
      simp at h
      exact .inr ⟨rfl, by omega⟩
  clear h
  rcases hk with hk | ⟨hk, hk2⟩
  all_goals
    go_enter Try.func37, Try.ntmps37
    go_wp2_with fail
    exact bodyPost_ret (v := tBV (0#64, 0#64) false) (by simp [results, Try.results37, go_sem]) rfl ⟨rfl, below_alloc (below_alloc (below_alloc (Below.refl _ _) _) _) _⟩
theorem known_is {b : Tn} (h : tKnown b = true) : ((b.2.toNat : Int) != 0) = false ∧ (b.1.toNat : Int) ≤ 63 := by
  unfold tKnown at h
  simp at h
  obtain ⟨hm, hl⟩ := h
  exact ⟨by rw [bv_ne0, hm]; rfl, by omega⟩
theorem bv_shl' (x : BitVec 64) (k : Nat) : IntKind.u64.wrap ((x.toNat : Int) * 2 ^ k) = ((x <<< k).toNat : Int) := by rw [IntKind.wrap_u64, bv_shl]
set_option maxHeartbeats 1000000 in
theorem move_lsh (a b : Tn) (w : World) (h : tKnown b = true) : Calls Try.prog 37 #[.int .u8 96, tV a, tV b] w (Gives (tBV (tLsh a b.1.toNat) true) w) := by
  obtain ⟨hk, hk2⟩ := known_is h
  clear h
  go_enter Try.func37, Try.ntmps37
  go_wp2_with fail
  simp only [bv_shl']
  have ht : (a.1 <<< b.1.toNat, a.2 <<< b.1.toNat) = tLsh a b.1.toNat := rfl
  generalize a.1 <<< b.1.toNat = p at *
  generalize a.2 <<< b.1.toNat = q at *
  rw [← ht]
  exact bodyPost_ret (v := tBV (p, q) true) (by simp [results, Try.results37, go_sem]) rfl ⟨rfl, below_alloc (below_alloc (below_alloc (Below.refl _ _) _) _) _⟩
set_option maxHeartbeats 1000000 in
theorem move_rsh (a b : Tn) (w : World) (h : tKnown b = true) : Calls Try.prog 37 #[.int .u8 112, tV a, tV b] w (Gives (tBV (tRsh a b.1.toNat) true) w) := by
  obtain ⟨hk, hk2⟩ := known_is h
  clear h
  go_enter Try.func37, Try.ntmps37
  go_wp2_with fail
  simp only [bv_shr]
  have ht : (a.1 >>> b.1.toNat, a.2 >>> b.1.toNat) = tRsh a b.1.toNat := rfl
  generalize a.1 >>> b.1.toNat = p at *
  generalize a.2 >>> b.1.toNat = q at *
  rw [← ht]
  exact bodyPost_ret (v := tBV (p, q) true) (by simp [results, Try.results37, go_sem]) rfl ⟨rfl, below_alloc (below_alloc (below_alloc (Below.refl _ _) _) _) _⟩

/-- The boxes of mul: both arguments, the result, and what has come together so far. -/
def Quad (a b t : Tn) (w : World) (g : Nat) (u : World) : Prop := Trio a b (0#64, 0#64) w u ∧ w.heap.size + 1 + 1 < g ∧ Box g t u
theorem Quad.after {a b t : Tn} {w u u' : World} {g : Nat} (h : Quad a b t w g u) (k : Below u.heap.size u u') : Quad a b t w g u' := ⟨h.1.after k, h.2.1, h.2.2.after k⟩
theorem Quad.set {a b t : Tn} {w u : World} {g : Nat} (h : Quad a b t w g u) (s : Tn) : Quad a b s w g ((u.setCell ⟨g, 0, none⟩ (uV s.1)).setCell ⟨g, 1, none⟩ (uV s.2)) := by
  obtain ⟨⟨⟨h1, h2, h3⟩, h4⟩, h5, h6⟩ := h
  exact ⟨⟨⟨(h1.setCell (by simp; omega) _).setCell (by simp; omega) _, (h2.other _ (by omega)).other _ (by omega), (h3.other _ (by omega)).other _ (by omega)⟩, (h4.other _ (by omega)).other _ (by omega)⟩, h5, h6.set s⟩

theorem bit_ne (x : BitVec 64) (j : Nat) (h : j < 64) : (bits .and .u64 (x.toNat : Int) (IntKind.u64.wrap (2 ^ j)) != 0) = x.getLsbD j := by
  have e1 : IntKind.u64.wrap (2 ^ j) = ((BitVec.twoPow 64 j).toNat : Int) := by
    rw [IntKind.wrap_u64, BitVec.toNat_twoPow]; simp
  rw [e1, bv_and, bv_ne0]
  cases hb : x.getLsbD j
  · have e2 : x &&& BitVec.twoPow 64 j = 0#64 := by rw [BitVec.and_twoPow, if_neg (by simp [hb])]
    rw [e2]; rfl
  · have e2 : x &&& BitVec.twoPow 64 j = BitVec.twoPow 64 j := by rw [BitVec.and_twoPow, if_pos hb]
    rw [e2]
    have e3 : (BitVec.twoPow 64 j == 0#64) = false := by
      rw [beq_eq_false_iff_ne]
      intro e
      have e4 := congrArg (fun z : BitVec 64 => z.getLsbD j) e
      simp [BitVec.getLsbD_twoPow] at e4
      omega
    rw [e3]; rfl

set_option maxHeartbeats 1000000 in
theorem mul_says (a b : Tn) (w : World) : Calls Try.prog 35 #[tV a, tV b] w (Gives (tV (tMulTo a b 64)) w) := by
  have hx := Lib.hid (Trio.new a b w)
  have h1 : ∀ w, Calls Try.prog 15 #[.int .u64 0] w (Gives (.agg #[.int .u64 0, .int .u64 0]) w) := fun w => of_says 0#64 w
  have h1 := Lib.hid h1
  go_enter Try.func35, Try.ntmps35
  go_wp2_with fail
  refine (h1.out _).mono ?_; rintro e w1 ⟨rfl, b1⟩
  have x1 := hx.out.after b1
  have hz := x1.2.lt
  have X1 := Lib.hid (show Quad a b (0#64, 0#64) w w1.heap.size (w1.alloc (.cells #[.int .u64 0, .int .u64 0] 24)) from ⟨x1.alloc _, hz, Box.new w1 (0#64, 0#64) rfl⟩)
  clear x1 b1 hx
  go_wp2_with fail
  generalize hg : w1.heap.size = g at *
  go_loopw [9] (fun i wr => ∃ j : Nat, j ≤ 64 ∧ i = .int .i64 j ∧ Hid (Quad a b (tMulTo a b j) w g wr)) (fun i wr => 64 - (intOf i).toNat)
  case atStart =>
    exact ⟨0, by omega, rfl, X1⟩
  case round =>
    obtain ⟨j, hj, rfl, X⟩ := hrel
    by_cases hlt : (j : Int) < 64
    · have E1 := Lib.hid (bit_ne b.1 j (by omega))
      have E2 := Lib.hid (bit_ne b.2 j (by omega))
      have ES := Lib.hid (show tMulTo a b (j + 1) = tStep a b j (tMulTo a b j) from rfl)
      unfold tStep at ES
      generalize tMulTo a b j = t at *
      generalize b.1.getLsbD j = c1 at *
      generalize b.2.getLsbD j = c2 at *
      obtain ⟨p0, p1, p2, p3⟩ := X.out.1.1.cells
      obtain ⟨q0, q1⟩ := X.out.2.2.cells
      obtain ⟨f0, f1⟩ := X.out.2.2.free
      cases c1
      · cases c2
        · have e1 := E1.out
          have e2 := E2.out
          have XN := Lib.hid (show Quad a b (tMulTo a b (j + 1)) w g wr by rw [ES.out]; exact X.out)
          clear E1 E2 ES
          go_wp2_with fail
          go_round
          case rel => exact ⟨j + 1, by omega, by go_num, XN⟩
          case measure => simp [intOf]; omega
        · have e1 := E1.out
          have e2 := E2.out
          have HM : Hid (∀ w, Calls Try.prog 36 #[.agg #[uV a.1, uV a.2]] w (Gives (uV (a.1 ||| a.2)) w)) := Lib.hid (maybe_says a)
          have HA := Lib.hid (add_says t (0#64, (a.1 ||| a.2) <<< j))
          have ES2 := Lib.hid (show tMulTo a b (j + 1) = tAdd t (0#64, (a.1 ||| a.2) <<< j) from ES.out)
          have HB : Below wr.heap.size wr wr.drew := Below.drew (Below.refl _ _)
          have H := Lib.hid (fun (wx : World) (hx : Below wr.heap.size wr wx) => And.intro (X.out.1.1.after hx).cells (And.intro (X.out.2.2.after hx).cells (X.out.2.2.after hx).free))
          generalize a.1 ||| a.2 = m at *
          have hm := bv_shl' m j
          generalize m <<< j = s at *
          clear E1 E2 ES h1
          go_wp2_with fail
          clear p0 p1 p2 p3 q0 q1 f0 f1
          obtain ⟨⟨p0, p1, p2, p3⟩, ⟨q0, q1⟩, f0, f1⟩ := H.out _ HB
          go_region_with (first
            | (go_at_call 36; refine (HM.out _).mono ?_; rintro e w4 ⟨rfl, hb4⟩; replace HB := below_next' HB hb4; clear hb4 p0 p1 p2 p3 q0 q1 f0 f1; obtain ⟨⟨p0, p1, p2, p3⟩, ⟨q0, q1⟩, f0, f1⟩ := H.out _ HB)
            | (go_at_call 33; refine (HA.out _).mono ?_; rintro e w5 ⟨rfl, hb5⟩; replace HB := below_next' HB hb5; clear hb5 p0 p1 p2 p3 q0 q1 f0 f1; obtain ⟨⟨p0, p1, p2, p3⟩, ⟨q0, q1⟩, f0, f1⟩ := H.out _ HB))
          all_goals
            have X5 := Lib.hid (show Quad a b (tMulTo a b (j + 1)) w g ((w5.setCell ⟨g, 0, none⟩ (uV (tAdd t (0#64, s)).1)).setCell ⟨g, 1, none⟩ (uV (tAdd t (0#64, s)).2)) by rw [ES2.out]; exact (X.out.after HB).set _)
            clear p0 p1 p2 p3 q0 q1 f0 f1 H X HA HM ES2
            go_wp2_with fail
            go_round
            case rel => exact ⟨j + 1, by omega, by go_num, X5⟩
            case measure => simp [intOf]; omega
      · have e1 := E1.out
        have HA := Lib.hid (add_says t (a.1 <<< j, a.2 <<< j))
        have ES2 := Lib.hid (show tMulTo a b (j + 1) = tAdd t (a.1 <<< j, a.2 <<< j) from ES.out)
        clear E1 E2 ES h1
        have m1 := bv_shl' a.1 j
        have m2 := bv_shl' a.2 j
        generalize a.1 <<< j = s1 at *
        generalize a.2 <<< j = s2 at *
        go_wp2_with fail
        go_still_tail 10, (by kernel_rfl)
        change wpList _ _ _ _ _ wr.drew
        have X2 := Lib.hid (X.out.after (Below.drew (Below.refl _ _)))
        clear X p0 p1 p2 p3 q0 q1 f0 f1
        generalize wr.drew = w2 at *
        go_wp2_with fail
        refine (HA.out _).mono ?_; rintro e w3 ⟨rfl, b3⟩
        have x3 := X2.out.after b3
        clear X2 b3 HA
        generalize tAdd t (s1, s2) = r at *
        obtain ⟨q0, q1⟩ := x3.2.2.cells
        obtain ⟨f0, f1⟩ := x3.2.2.free
        have X3 := Lib.hid (show Quad a b (tMulTo a b (j + 1)) w g ((w3.setCell ⟨g, 0, none⟩ (uV r.1)).setCell ⟨g, 1, none⟩ (uV r.2)) by rw [ES2.out]; exact x3.set r)
        clear x3 ES2
        go_wp2_with fail
        go_round
        case rel => exact ⟨j + 1, by omega, by go_num, X3⟩
        case measure => simp [intOf]; omega
    · have hj2 : j = 64 := by omega
      subst hj2
      generalize tMulTo a b 64 = t at *
      have x1 := X.out
      obtain ⟨p0, p1⟩ := x1.2.2.cells
      obtain ⟨c0, c1⟩ := x1.1.2.cells
      obtain ⟨f0, f1⟩ := x1.1.2.free
      have X2 := Lib.hid (x1.1.set t)
      clear x1 X
      go_wp2_with fail
      exact bodyPost_ret (v := tV t) (by simp [results, Try.results35, go_sem, c0, c1]) rfl ⟨rfl, X2.out.1.1⟩

end Go.Proofs.Ytkiekbkjhlbnhaa
