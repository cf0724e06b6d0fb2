/-
  P5.4: what arithmetic makes of numbers of two spans is in Do; the walk.
  Conditions: the numbers fit their kinds.
-/
import Derived.Test.YtpnobkaeoiaelaaSpanBoxes
import Derived.Test.YtpnobkaeoiaelaaSpanMath
import Derived.Test.YtpnobkaeoiaelaaRef02DoW
import Derived.Deep.RegionHeld3
namespace Go.Proofs.Ytpnobkaeoiaelaa
open Go.RowKit
set_option linter.unusedVariables false

set_option maxHeartbeats 4000000 in
theorem ssound_run (op a b n c d m : Int) (s t u : Sp) (x y z k : Int) (w : World)
    (M1 : Hid (∀ w, Calls Try.prog 21 #[.int .u64 a, .int .u64 b, .int .u64 n] w (Gives (.tuple #[sV s, .int .u64 x]) w)))
    (M2 : Hid (∀ w, Calls Try.prog 21 #[.int .u64 c, .int .u64 d, .int .u64 m] w (Gives (.tuple #[sV t, .int .u64 y]) w)))
    (R : Hid (∀ w, Calls Try.prog 22 #[.int .u8 op, .bool true, .int .i16 0, .int .u64 x, .int .u64 y] w (Did z k w)))
    (D : Hid (∀ w, Calls Try.prog 23 #[.int .u8 op, sV s, sV t] w (Gives (sV u) w)))
    (H : k = 0 → Hid (∀ w, Calls Try.prog 15 #[sV u, .int .u64 z] w (Gives (.bool true) w)))
    (hk : (k = 1) ∨ (k = 0)) :
    Calls Try.prog 4 #[.int .u8 op, .int .u64 a, .int .u64 b, .int .u64 n, .int .u64 c, .int .u64 d, .int .u64 m] w (Fine w) := by
  rcases hk with rfl | rfl
  all_goals
    first | replace H := H rfl | clear H
    go_enter Try.func4, Try.ntmps4
    go_wp2_with fail
    refine (span_shown _).mono ?_; rintro e w0 ⟨rfl, b0⟩
    go_wp2_with fail
    refine (M1.out _).mono ?_; rintro e w1 ⟨rfl, b1⟩
    have X1 := Lib.hid (((SBoxes.none_ b0).after b1).new s)
    clear b0 b1
    go_wp2_with fail
    refine (M2.out _).mono ?_; rintro e w2 ⟨rfl, b2⟩
    have x2 := X1.out.after b2
    generalize w1.heap.size = g1 at *
    have X2 := Lib.hid (x2.new t)
    clear X1 b2 x2
    go_wp2_with fail
    refine (R.out _).mono ?_; rintro e w3 ⟨rfl, nd, rfl⟩
    have x3 := X2.out.after (below_drewN (Below.refl _ _) nd)
    generalize w2.heap.size = g2 at *
    generalize World.drewN _ nd = w3 at *
    obtain ⟨z1, p0, p1⟩ := x3.at_ (p := (g1, s)) (by simp)
    obtain ⟨z2, p2, p3⟩ := x3.at_ (p := (g2, t)) (by simp)
    have X3 := Lib.hid x3
    clear X2 x3
    go_wp2_with fail
    first
      | go_ret
        exact ⟨rfl, X3.out.1⟩
      | refine (D.out _).mono ?_
        rintro e w4 ⟨rfl, b4⟩
        have x4 := X3.out.after b4
        clear X3 b4 p0 p1 p2 p3 z1 z2
        go_wp2_with fail
        refine (H.out _).mono ?_
        rintro e w5 ⟨rfl, b5⟩
        go_wp2_with fail
        go_ret
        exact ⟨rfl, (x4.after b5).1⟩

theorem ssound_walk (op a b n c d m : Int) (w : World) (ha : In64 a) (hb : In64 b) (hn : In64 n) (hc : In64 c) (hd : In64 d) (hm : In64 m) :
    Calls Try.prog 4 #[.int .u8 op, .int .u64 a, .int .u64 b, .int .u64 n, .int .u64 c, .int .u64 d, .int .u64 m] w (Fine w) := by
  have M1 := Lib.hid fun w => smade_says a b n w ha hb hn
  have M2 := Lib.hid fun w => smade_says c d m w hc hd hm
  obtain ⟨ix, hx⟩ := pick_in ha hb hn
  obtain ⟨iy, hy⟩ := pick_in hc hd hm
  have is := made_in ha hb
  have it := made_in hc hd
  have R := Lib.hid fun w => refdo_64 op 0 _ _ w ix.1 ix.2 iy.1 iy.2
  have D := Lib.hid fun w => sdo_says op _ _ w is it
  by_cases he : aluE true op 0 = 0
  · have hs := sdo_sound is it (made_right a b) (made_right c d) ix iy hx hy he
    refine ssound_run op a b n c d m _ _ _ _ _ _ _ w M1 M2 R D (fun _ => Lib.hid fun w => ?_) (Or.inr he)
    have h := shas_says (sDo op (sMade a b) (sMade c d)) (aluV true op 0 (sPick a b n) (sPick c d m)) w
    rw [hs] at h
    exact h
  · have h1 : aluE true op 0 = 1 := by
      unfold aluE at he ⊢
      split at he
      · exact absurd rfl he
      · rename_i hf
        rw [if_neg hf]
    exact ssound_run op a b n c d m _ _ _ _ _ _ _ w M1 M2 R D (fun hk => by rw [h1] at hk; cases hk) (Or.inl h1)

end Go.Proofs.Ytpnobkaeoiaelaa
