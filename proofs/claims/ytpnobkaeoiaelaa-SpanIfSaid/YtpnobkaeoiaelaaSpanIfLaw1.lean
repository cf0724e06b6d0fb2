/-
  P5.4: a number of which a condition holds is in If; the walk.
  Conditions: the numbers fit their kinds.
-/
import Derived.Test.YtpnobkaeoiaelaaSpanBoxes
import Derived.Test.YtpnobkaeoiaelaaSpanMath
import Derived.Test.YtpnobkaeoiaelaaRef03Any
namespace Go.Proofs.Ytpnobkaeoiaelaa
open Go.RowKit
set_option linter.unusedVariables false

/-- Where If tells false. -/
theorem sifl_no (op a b n c d m : Int) (s t : Sp) (x y k : Int) (w : World)
    (M1 : Hid (∀ w, Calls Try.prog 21 #[.int .u64 a, .int .u64 b, .int .u64 n] w (Gives (.tuple #[sV s, .int .u64 x]) w)))
    (M2 : Hid (∀ w, Calls Try.prog 21 #[.int .u64 c, .int .u64 d, .int .u64 m] w (Gives (.tuple #[sV t, .int .u64 y]) w)))
    (R : Hid (∀ w, Calls Try.prog 24 #[.int .u8 op, .bool true, .int .u64 x, .int .u64 y] w (Told false k w)))
    (D : Hid (∀ w, Calls Try.prog 25 #[.int .u8 op, sV s, sV t] w (Gives (sBV (0, 0) false) w)))
    (hk : (k = 1) ∨ (k = 0)) :
    Calls Try.prog 5 #[.int .u8 op, .int .u64 a, .int .u64 b, .int .u64 n, .int .u64 c, .int .u64 d, .int .u64 m] w (Fine w) := by
  rcases hk with rfl | rfl
  all_goals
    go_enter Try.func5, Try.ntmps5
    go_wp2_with fail
    refine (span_shown _).mono ?_; rintro e w0 ⟨rfl, b0⟩
    go_wp2_with fail
    refine (M1.out _).mono ?_; rintro e w1 ⟨rfl, b1⟩
    have X1 := Lib.hid (((SBoxes.none_ b0).after b1).new s)
    clear b0 b1
    go_wp2_with fail
    refine (M2.out _).mono ?_; rintro e w2 ⟨rfl, b2⟩
    have x2 := X1.out.after b2
    generalize w1.heap.size = g1 at *
    have X2 := Lib.hid (x2.new t)
    clear X1 b2 x2
    go_wp2_with fail
    refine (R.out _).mono ?_; rintro e w3 ⟨rfl, b3⟩
    have x3 := X2.out.after b3
    generalize w2.heap.size = g2 at *
    obtain ⟨z1, p0, p1⟩ := x3.at_ (p := (g1, s)) (by simp)
    obtain ⟨z2, p2, p3⟩ := x3.at_ (p := (g2, t)) (by simp)
    have X3 := Lib.hid x3
    clear X2 x3 b3
    go_wp2_with fail
    refine (D.out _).mono ?_; rintro e w4 ⟨rfl, b4⟩
    have X4 := Lib.hid ((X3.out.after b4).new (0, 0))
    clear X3 b4 p0 p1 p2 p3 z1 z2
    go_wp2_with fail
    go_ret
    exact ⟨rfl, X4.out.1⟩

/-- Where If tells true. -/
theorem sifl_yes (op a b n c d m : Int) (s t u : Sp) (x y k : Int) (q : Bool) (w : World)
    (M1 : Hid (∀ w, Calls Try.prog 21 #[.int .u64 a, .int .u64 b, .int .u64 n] w (Gives (.tuple #[sV s, .int .u64 x]) w)))
    (M2 : Hid (∀ w, Calls Try.prog 21 #[.int .u64 c, .int .u64 d, .int .u64 m] w (Gives (.tuple #[sV t, .int .u64 y]) w)))
    (R : Hid (∀ w, Calls Try.prog 24 #[.int .u8 op, .bool true, .int .u64 x, .int .u64 y] w (Told q k w)))
    (D : Hid (∀ w, Calls Try.prog 25 #[.int .u8 op, sV s, sV t] w (Gives (sBV u true) w)))
    (V : Hid (∀ w, Calls Try.prog 17 #[sV u, sV s] w (Gives (.bool true) w)))
    (H : q = true → Hid (∀ w, Calls Try.prog 15 #[sV u, .int .u64 x] w (Gives (.bool true) w)))
    (hk : (k = 1) ∨ (k = 0)) :
    Calls Try.prog 5 #[.int .u8 op, .int .u64 a, .int .u64 b, .int .u64 n, .int .u64 c, .int .u64 d, .int .u64 m] w (Fine w) := by
  rcases hk with rfl | rfl
  all_goals
    cases q
  all_goals
    first | replace H := H rfl | clear H
    go_enter Try.func5, Try.ntmps5
    go_wp2_with fail
    refine (span_shown _).mono ?_; rintro e w0 ⟨rfl, b0⟩
    go_wp2_with fail
    refine (M1.out _).mono ?_; rintro e w1 ⟨rfl, b1⟩
    have X1 := Lib.hid (((SBoxes.none_ b0).after b1).new s)
    clear b0 b1
    go_wp2_with fail
    refine (M2.out _).mono ?_; rintro e w2 ⟨rfl, b2⟩
    have x2 := X1.out.after b2
    generalize w1.heap.size = g1 at *
    have X2 := Lib.hid (x2.new t)
    clear X1 b2 x2
    go_wp2_with fail
    refine (R.out _).mono ?_; rintro e w3 ⟨rfl, b3⟩
    have x3 := X2.out.after b3
    generalize w2.heap.size = g2 at *
    obtain ⟨z1, p0, p1⟩ := x3.at_ (p := (g1, s)) (by simp)
    obtain ⟨z2, p2, p3⟩ := x3.at_ (p := (g2, t)) (by simp)
    have X3 := Lib.hid x3
    clear X2 x3 b3
    go_wp2_with fail
    refine (D.out _).mono ?_; rintro e w4 ⟨rfl, b4⟩
    have x4 := X3.out.after b4
    clear p0 p1 p2 p3 z1 z2
    obtain ⟨z1, p0, p1⟩ := x4.at_ (p := (g1, s)) (by simp)
    have X4 := Lib.hid (x4.new u)
    clear X3 b4 x4
    go_wp2_with fail
    generalize w4.heap.size = g4 at *
    refine (V.out _).mono ?_; rintro e w5 ⟨rfl, b5⟩
    have x5 := X4.out.after b5
    clear p0 p1 z1
    obtain ⟨z1, p0, p1⟩ := x5.at_ (p := (g4, u)) (by simp)
    have X5 := Lib.hid x5
    clear X4 b5 x5
    go_wp2_with fail
    first
      | go_ret
        exact ⟨rfl, X5.out.1⟩
      | refine (H.out _).mono ?_
        rintro e w6 ⟨rfl, b6⟩
        go_wp2_with fail
        go_ret
        exact ⟨rfl, (X5.out.after b6).1⟩

theorem sifl_walk (op a b n c d m : Int) (w : World) (ha : In64 a) (hb : In64 b) (hn : In64 n) (hc : In64 c) (hd : In64 d) (hm : In64 m) :
    Calls Try.prog 5 #[.int .u8 op, .int .u64 a, .int .u64 b, .int .u64 n, .int .u64 c, .int .u64 d, .int .u64 m] w (Fine w) := by
  have M1 := Lib.hid fun w => smade_says a b n w ha hb hn
  have M2 := Lib.hid fun w => smade_says c d m w hc hd hm
  obtain ⟨ix, hx⟩ := pick_in ha hb hn
  obtain ⟨iy, hy⟩ := pick_in hc hd hm
  have is := made_in ha hb
  have it := made_in hc hd
  have rs := made_right a b
  have rt := made_right c d
  have R := Lib.hid fun w => ref_is_any op true (sPick a b n) (sPick c d m) w ix iy
  have D := Lib.hid fun w => sif_says op _ _ w is it
  have hk : condE op = 1 ∨ condE op = 0 := by unfold condE; split <;> simp
  cases hok : sIfok op (sMade a b) (sMade c d)
  · have hq : condV op true (sPick a b n) (sPick c d m) = false := by
      cases hq : condV op true (sPick a b n) (sPick c d m)
      · rfl
      · rw [(sif_has rs rt ix iy hx hy hq).1] at hok
        cases hok
    have hz : sIf op (sMade a b) (sMade c d) = (0, 0) := sif_zero hok
    rw [hq] at R
    rw [hok, hz] at D
    exact sifl_no op a b n c d m _ _ _ _ _ w M1 M2 R D hk
  · rw [hok] at D
    have V : Hid (∀ w, Calls Try.prog 17 #[sV (sIf op (sMade a b) (sMade c d)), sV (sMade a b)] w (Gives (.bool true) w)) := Lib.hid fun w => by
      have h := swithin_says (sIf op (sMade a b) (sMade c d)) (sMade a b) w
      rw [sif_within rs hok] at h
      exact h
    refine sifl_yes op a b n c d m _ _ _ _ _ _ _ w M1 M2 R D V (fun hq => Lib.hid fun w => ?_) hk
    have h := shas_says (sIf op (sMade a b) (sMade c d)) (sPick a b n) w
    rw [(sif_has rs rt ix iy hx hy hq).2] at h
    exact h

end Go.Proofs.Ytpnobkaeoiaelaa
