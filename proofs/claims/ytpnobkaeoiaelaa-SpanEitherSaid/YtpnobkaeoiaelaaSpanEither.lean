/-
  P5.3, P5.4: either a condition may hold, or the one that holds just if it does not; the walk.
  Conditions: the numbers fit their kinds.
-/
import Derived.Test.YtpnobkaeoiaelaaSpanBoxes
import Derived.Test.YtpnobkaeoiaelaaSpanMath
import Derived.Test.YtpnobkaeoiaelaaRef03Any
import Derived.Test.YtpnobkaeoiaelaaRef03Pair
namespace Go.Proofs.Ytpnobkaeoiaelaa
open Go.RowKit
set_option linter.unusedVariables false

theorem seither_none (op a b n c d m : Int) (s t : Sp) (x y k : Int) (w : World)
    (M1 : Hid (∀ w, Calls Try.prog 21 #[.int .u64 a, .int .u64 b, .int .u64 n] w (Gives (.tuple #[sV s, .int .u64 x]) w)))
    (M2 : Hid (∀ w, Calls Try.prog 21 #[.int .u64 c, .int .u64 d, .int .u64 m] w (Gives (.tuple #[sV t, .int .u64 y]) w)))
    (N : Hid (∀ w, Calls Try.prog 26 #[.int .u8 op] w (Gives (.tuple #[.int .u8 k, .bool false]) w))) :
    Calls Try.prog 7 #[.int .u8 op, .int .u64 a, .int .u64 b, .int .u64 n, .int .u64 c, .int .u64 d, .int .u64 m] w (Fine w) := by
  go_enter Try.func7, Try.ntmps7
  go_wp2_with fail
  refine (span_shown _).mono ?_; rintro e w0 ⟨rfl, b0⟩
  go_wp2_with fail
  refine (M1.out _).mono ?_; rintro e w1 ⟨rfl, b1⟩
  have X1 := Lib.hid (((SBoxes.none_ b0).after b1).new s)
  clear b0 b1
  go_wp2_with fail
  refine (M2.out _).mono ?_; rintro e w2 ⟨rfl, b2⟩
  have x2 := X1.out.after b2
  generalize w1.heap.size = g1 at *
  have X2 := Lib.hid (x2.new t)
  clear X1 b2 x2
  go_wp2_with fail
  refine (N.out _).mono ?_; rintro e w3 ⟨rfl, b3⟩
  have x3 := X2.out.after b3
  clear X2 b3
  go_wp2_with fail
  go_ret
  exact ⟨rfl, x3.1⟩

set_option maxHeartbeats 1000000 in
theorem seither_some (op no a b n c d m : Int) (s t u v : Sp) (x y : Int) (one two q : Bool) (w : World)
    (M1 : Hid (∀ w, Calls Try.prog 21 #[.int .u64 a, .int .u64 b, .int .u64 n] w (Gives (.tuple #[sV s, .int .u64 x]) w)))
    (M2 : Hid (∀ w, Calls Try.prog 21 #[.int .u64 c, .int .u64 d, .int .u64 m] w (Gives (.tuple #[sV t, .int .u64 y]) w)))
    (N : Hid (∀ w, Calls Try.prog 26 #[.int .u8 op] w (Gives (.tuple #[.int .u8 no, .bool true]) w)))
    (D1 : Hid (∀ w, Calls Try.prog 25 #[.int .u8 op, sV s, sV t] w (Gives (sBV u one) w)))
    (D2 : Hid (∀ w, Calls Try.prog 25 #[.int .u8 no, sV s, sV t] w (Gives (sBV v two) w)))
    (R : Hid (∀ w, Calls Try.prog 24 #[.int .u8 op, .bool true, .int .u64 x, .int .u64 y] w (Told q 0 w)))
    (H : (q = true ∧ one = true ∧ Hid (∀ w, Calls Try.prog 15 #[sV u, .int .u64 x] w (Gives (.bool true) w))) ∨
      (q = false ∧ two = true ∧ Hid (∀ w, Calls Try.prog 15 #[sV v, .int .u64 x] w (Gives (.bool true) w)))) :
    Calls Try.prog 7 #[.int .u8 op, .int .u64 a, .int .u64 b, .int .u64 n, .int .u64 c, .int .u64 d, .int .u64 m] w (Fine w) := by
  rcases H with ⟨rfl, rfl, H⟩ | ⟨rfl, rfl, H⟩
  all_goals
    go_enter Try.func7, Try.ntmps7
    go_wp2_with fail
    refine (span_shown _).mono ?_; rintro e w0 ⟨rfl, b0⟩
    go_wp2_with fail
    refine (M1.out _).mono ?_; rintro e w1 ⟨rfl, b1⟩
    have X1 := Lib.hid (((SBoxes.none_ b0).after b1).new s)
    clear b0 b1
    go_wp2_with fail
    refine (M2.out _).mono ?_; rintro e w2 ⟨rfl, b2⟩
    have x2 := X1.out.after b2
    generalize w1.heap.size = g1 at *
    have X2 := Lib.hid (x2.new t)
    clear X1 b2 x2
    go_wp2_with fail
    refine (N.out _).mono ?_; rintro e w3 ⟨rfl, b3⟩
    have x3 := X2.out.after b3
    generalize w2.heap.size = g2 at *
    obtain ⟨z1, p0, p1⟩ := x3.at_ (p := (g1, s)) (by simp)
    obtain ⟨z2, p2, p3⟩ := x3.at_ (p := (g2, t)) (by simp)
    have X3 := Lib.hid x3
    clear X2 x3 b3
    go_wp2_with fail
    refine (D1.out _).mono ?_; rintro e w4 ⟨rfl, b4⟩
    have x4 := X3.out.after b4
    clear p0 p1 p2 p3 z1 z2
    obtain ⟨z1, p0, p1⟩ := x4.at_ (p := (g1, s)) (by simp)
    obtain ⟨z2, p2, p3⟩ := x4.at_ (p := (g2, t)) (by simp)
    have X4 := Lib.hid (x4.new u)
    clear X3 b4 x4
    go_wp2_with fail
    generalize w4.heap.size = g4 at *
    refine (D2.out _).mono ?_; rintro e w5 ⟨rfl, b5⟩
    have x5 := X4.out.after b5
    clear p0 p1 p2 p3 z1 z2
    have X5 := Lib.hid (x5.new v)
    clear X4 b5 x5
    go_wp2_with fail
    generalize w5.heap.size = g5 at *
    refine (R.out _).mono ?_; rintro e w6 ⟨rfl, b6⟩
    have x6 := X5.out.after b6
    obtain ⟨z1, p0, p1⟩ := x6.at_ (p := (g4, u)) (by simp)
    obtain ⟨z2, p2, p3⟩ := x6.at_ (p := (g5, v)) (by simp)
    have X6 := Lib.hid x6
    clear X5 b6 x6
    go_wp2_with fail
    refine (H.out _).mono ?_; rintro e w7 ⟨rfl, b7⟩
    go_wp2_with fail
    go_ret
    exact ⟨rfl, (X6.out.after b7).1⟩

theorem notp (op : Int) : ((pairOf notPairs op).2 = false) ∨ ((pairOf notPairs op).2 = true ∧
    ((op = 16 ∧ (pairOf notPairs op).1 = 80) ∨ (op = 80 ∧ (pairOf notPairs op).1 = 16) ∨ (op = 32 ∧ (pairOf notPairs op).1 = 176) ∨ (op = 176 ∧ (pairOf notPairs op).1 = 32) ∨ (op = 48 ∧ (pairOf notPairs op).1 = 160) ∨ (op = 160 ∧ (pairOf notPairs op).1 = 48) ∨ (op = 96 ∧ (pairOf notPairs op).1 = 208) ∨ (op = 208 ∧ (pairOf notPairs op).1 = 96) ∨ (op = 112 ∧ (pairOf notPairs op).1 = 192) ∨ (op = 192 ∧ (pairOf notPairs op).1 = 112))) := by
  by_cases h : op = 16 ∨ op = 80 ∨ op = 32 ∨ op = 176 ∨ op = 48 ∨ op = 160 ∨ op = 96 ∨ op = 208 ∨ op = 112 ∨ op = 192
  · refine .inr ?_
    rcases h with rfl | rfl | rfl | rfl | rfl | rfl | rfl | rfl | rfl | rfl <;> decide
  · refine .inl ?_
    simp only [notPairs, pairOf]
    repeat rw [if_neg (by omega)]

theorem seither_walk (op a b n c d m : Int) (w : World) (ha : In64 a) (hb : In64 b) (hn : In64 n) (hc : In64 c) (hd : In64 d) (hm : In64 m) :
    Calls Try.prog 7 #[.int .u8 op, .int .u64 a, .int .u64 b, .int .u64 n, .int .u64 c, .int .u64 d, .int .u64 m] w (Fine w) := by
  have M1 := Lib.hid fun w => smade_says a b n w ha hb hn
  have M2 := Lib.hid fun w => smade_says c d m w hc hd hm
  obtain ⟨ix, hx⟩ := pick_in ha hb hn
  obtain ⟨iy, hy⟩ := pick_in hc hd hm
  have is := made_in ha hb
  have it := made_in hc hd
  have rs := made_right a b
  have rt := made_right c d
  have N := Lib.hid fun w => ref_not_any op w
  have R := Lib.hid fun w => ref_is_any op true (sPick a b n) (sPick c d m) w ix iy
  rcases notp op with h | ⟨h, hp⟩
  · unfold Paired at N
    rw [h] at N
    exact seither_none op a b n c d m _ _ _ _ _ w M1 M2 N
  · unfold Paired at N
    rw [h] at N
    have hl := not_law op _ hp true (sPick a b n) (sPick c d m)
    have hf : condE op = 0 := by rcases hp with h | h | h | h | h | h | h | h | h | h <;> (rw [h.1]; rfl)
    rw [hf] at R
    generalize (pairOf notPairs op).1 = no at *
    have D1 := Lib.hid fun w => sif_says op _ _ w is it
    have D2 := Lib.hid fun w => sif_says no _ _ w is it
    have hh : ∀ o, condV o true (sPick a b n) (sPick c d m) = true → sIfok o (sMade a b) (sMade c d) = true ∧ Hid (∀ w, Calls Try.prog 15 #[sV (sIf o (sMade a b) (sMade c d)), .int .u64 (sPick a b n)] w (Gives (.bool true) w)) := by
      intro o ho
      obtain ⟨k1, k2⟩ := sif_has rs rt ix iy hx hy ho
      refine ⟨k1, Lib.hid fun w => ?_⟩
      have h := shas_says (sIf o (sMade a b) (sMade c d)) (sPick a b n) w
      rw [k2] at h
      exact h
    refine seither_some op no a b n c d m _ _ _ _ _ _ _ _ _ w M1 M2 N D1 D2 R ?_
    cases hq : condV op true (sPick a b n) (sPick c d m)
    · right
      have hq2 : condV no true (sPick a b n) (sPick c d m) = true := by
        rw [hq] at hl
        simpa using hl
      exact ⟨rfl, hh no hq2⟩
    · left
      exact ⟨rfl, hh op hq⟩

end Go.Proofs.Ytpnobkaeoiaelaa
