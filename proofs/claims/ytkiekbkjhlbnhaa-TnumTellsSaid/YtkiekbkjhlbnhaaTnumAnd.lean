/-
  What tnum.Do answers: And; and whole.
  Conditions: none.
-/
import Derived.Test.YtkiekbkjhlbnhaaTnumDo
namespace Go.Proofs.Ytkiekbkjhlbnhaa
open Go.RowKit
set_option linter.unusedVariables false

set_option maxHeartbeats 1000000 in
theorem do_and (a b : Tn) (w : World) (hr : tRR a b = true) : Calls Try.prog 24 #[.int .u8 80, tV a, tV b] w (Gives (tBV (tAnd a b) true) w) := by
  have hx := Lib.hid (Trio.new a b w)
  have h0 := Lib.hid (both_says a b)
  rw [hr] at h0
  clear hr
  have HMa : Hid (∀ w, Calls Try.prog 36 #[.agg #[uV a.1, uV a.2]] w (Gives (uV (a.1 ||| a.2)) w)) := Lib.hid (maybe_says a)
  have HMb : Hid (∀ w, Calls Try.prog 36 #[.agg #[uV b.1, uV b.2]] w (Gives (uV (b.1 ||| b.2)) w)) := Lib.hid (maybe_says b)
  have hv : (a.1 &&& b.1, ((a.1 ||| a.2) &&& (b.1 ||| b.2)) &&& ~~~(a.1 &&& b.1)) = tAnd a b := rfl
  generalize a.1 ||| a.2 = pa at *
  generalize b.1 ||| b.2 = pb at *
  have e1 := bv_and a.1 b.1
  generalize a.1 &&& b.1 = v at *
  have E2 := Lib.hid (show bits .andNot .u64 (bits .and .u64 (pa.toNat : Int) (pb.toNat : Int)) (v.toNat : Int) = ((((pa &&& pb) &&& ~~~v).toNat : Nat) : Int) by rw [bv_and, bv_andNot])
  generalize (pa &&& pb) &&& ~~~v = m at *
  rw [← hv]
  clear hv
  go_enter Try.func24, Try.ntmps24
  go_wp2_with fail
  refine (h0.out _).mono ?_; rintro e w1 ⟨rfl, b1⟩
  have x1 := hx.out.after b1
  obtain ⟨p0, p1, p2, p3⟩ := x1.1.cells
  obtain ⟨c0, c1⟩ := x1.2.cells
  obtain ⟨f0, f1⟩ := x1.2.free
  have X1 := Lib.hid x1
  clear x1 b1 hx h0
  go_wp2_with fail
  have HB : Below w1.heap.size w1 w1.drew := Below.drew (Below.refl _ _)
  have H := Lib.hid (fun (wx : World) (hx : Below w1.heap.size w1 wx) => And.intro (X1.out.1.after hx).cells (And.intro (X1.out.2.after hx).cells (X1.out.2.after hx).free))
  clear p0 p1 p2 p3 c0 c1 f0 f1
  obtain ⟨⟨p0, p1, p2, p3⟩, ⟨c0, c1⟩, f0, f1⟩ := H.out _ HB
  go_region_with (first
    | (go_at_call 36; refine (HMa.out _).mono ?_; rintro e w4 ⟨rfl, hb4⟩; replace HB := below_next' HB hb4; clear hb4 p0 p1 p2 p3 c0 c1 f0 f1; obtain ⟨⟨p0, p1, p2, p3⟩, ⟨c0, c1⟩, f0, f1⟩ := H.out _ HB)
    | (go_at_call 36; refine (HMb.out _).mono ?_; rintro e w5 ⟨rfl, hb5⟩; replace HB := below_next' HB hb5; clear hb5 p0 p1 p2 p3 c0 c1 f0 f1; obtain ⟨⟨p0, p1, p2, p3⟩, ⟨c0, c1⟩, f0, f1⟩ := H.out _ HB))
  all_goals
    have X2 := Lib.hid ((X1.out.after HB).set (v, m))
    clear X1 H HMa HMb HB p0 p1 p2 p3
    go_wp2_with fail
    rw [E2.out]
    exact bodyPost_ret (v := tBV (v, m) true) (by simp [results, Try.results24, go_sem, c0, c1]) rfl ⟨rfl, X2.out.1.1⟩

theorem do_says (op : Int) (a b : Tn) (w : World) : Calls Try.prog 24 #[.int .u8 op, tV a, tV b] w (Gives (tBV (tDo op a b) (tDok op a b)) w) := by
  cases hr : tRR a b
  · have e : tDok op a b = false := by unfold tDok; rw [hr]; rfl
    have e2 : tDo op a b = (0#64, 0#64) := by unfold tDo; rw [e]; rfl
    rw [e, e2]
    exact do_wrong op a b w hr
  by_cases h1 : op = 0
  · subst h1
    have e : tDok 0 a b = true := by unfold tDok; rw [hr]; rfl
    have e2 : tDo 0 a b = tAdd a b := by unfold tDo; rw [e]; rfl
    rw [e, e2]
    exact do_add a b w hr
  by_cases h2 : op = 16
  · subst h2
    have e : tDok 16 a b = true := by unfold tDok; rw [hr]; rfl
    have e2 : tDo 16 a b = tSub a b := by unfold tDo; rw [e]; rfl
    rw [e, e2]
    exact do_sub a b w hr
  by_cases h3 : op = 32
  · subst h3
    have e : tDok 32 a b = true := by unfold tDok; rw [hr]; rfl
    have e2 : tDo 32 a b = tMulTo a b 64 := by unfold tDo; rw [e, if_pos rfl]; unfold tDo'; rw [if_neg (by decide), if_neg (by decide), if_pos rfl]
    rw [e, e2]
    exact do_mul a b w hr
  by_cases h4 : op = 80
  · subst h4
    have e : tDok 80 a b = true := by unfold tDok; rw [hr]; rfl
    have e2 : tDo 80 a b = tAnd a b := by unfold tDo; rw [e]; rfl
    rw [e, e2]
    exact do_and a b w hr
  by_cases h5 : op = 64
  · subst h5
    have e : tDok 64 a b = true := by unfold tDok; rw [hr]; rfl
    have e2 : tDo 64 a b = tOr a b := by unfold tDo; rw [e]; rfl
    rw [e, e2]
    exact do_or a b w hr
  by_cases h6 : op = 160
  · subst h6
    have e : tDok 160 a b = true := by unfold tDok; rw [hr]; rfl
    have e2 : tDo 160 a b = tXor a b := by unfold tDo; rw [e]; rfl
    rw [e, e2]
    exact do_xor a b w hr
  by_cases h7 : op = 96
  · subst h7
    cases hk : tKnown b
    · have e : tDok 96 a b = false := by unfold tDok; rw [hr, hk]; rfl
      have e2 : tDo 96 a b = (0#64, 0#64) := by unfold tDo; rw [e]; rfl
      rw [e, e2]
      exact do_no_lsh a b w hr hk
    · have e : tDok 96 a b = true := by unfold tDok; rw [hr, hk]; rfl
      have e2 : tDo 96 a b = tLsh a b.1.toNat := by unfold tDo; rw [e]; rfl
      rw [e, e2]
      exact do_lsh a b w hr hk
  by_cases h8 : op = 112
  · subst h8
    cases hk : tKnown b
    · have e : tDok 112 a b = false := by unfold tDok; rw [hr, hk]; rfl
      have e2 : tDo 112 a b = (0#64, 0#64) := by unfold tDo; rw [e]; rfl
      rw [e, e2]
      exact do_no_rsh a b w hr hk
    · have e : tDok 112 a b = true := by unfold tDok; rw [hr, hk]; rfl
      have e2 : tDo 112 a b = tRsh a b.1.toNat := by unfold tDo; rw [e]; rfl
      rw [e, e2]
      exact do_rsh a b w hr hk
  have e : tDok op a b = false := by unfold tDok; simp [h1, h2, h3, h4, h5, h6, h7, h8]
  have e2 : tDo op a b = (0#64, 0#64) := by unfold tDo; rw [e]; rfl
  rw [e, e2]
  exact do_other op a b w hr h1 h2 h3 h4 h5 h6 h7 h8

end Go.Proofs.Ytkiekbkjhlbnhaa
