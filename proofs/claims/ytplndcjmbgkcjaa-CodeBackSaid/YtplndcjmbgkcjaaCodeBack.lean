/-
  P7.4: what was encoded is decoded, and what was decoded is encoded: the walk of the statement CodeBack.
  Conditions: none beyond the row's own.
-/
import Derived.Test.YtplndcjmbgkcjaaCodeShown
import Derived.Test.YtplndcjmbgkcjaaCodeMath
import Derived.Test.YtplndcjmbgkcjaaCodeBytes
import Derived.Test.YtplndcjmbgkcjaaByteStr
import Derived.LoopTactic
namespace Go.Proofs.Ytplndcjmbgkcjaa
open Go.RowKit
set_option linter.unusedVariables false
set_option linter.unusedSimpArgs false

set_option maxRecDepth 100000 in
set_option maxHeartbeats 4000000 in
theorem l7_CodeBack_yy (l : List Ins) (A : Option Addr) (c : Nat) (b : List Int) (B : Option Addr) (d : Nat) (w : World) (h : InsS w A l) (hx : OkAll l) (hc : l.length ≤ c) (hm : c ≤ maxLen) (q : List Int) (q0 : q.length = min 4200 b.length) (q1 : BytS w B q) (q2 : OkB q) (q3 : q.length ≤ 4200) (q4 : q.length ≤ d) (hd : b.length ≤ d) (hmd : d ≤ maxLen)
    (hr : (chk (fewL l)).2 = 0) (hs : (decR q).2.2 = 0) :
    Calls Try.prog 7 #[.slice A l.length c, .slice B b.length d] w (Fine w) := by
  have FE := Lib.hid fun w => l7_few l A c w hc hm
  have HI := Lib.hid (few_ins h)
  have HX := Lib.hid (few_ok hx)
  have HL := Lib.hid (few_len l)
  clear h hx hc hm
  have hle : (fewL l).length ≤ 520 := HL.out
  generalize fewL l = x at *
  have HBQ := Lib.hid q1
  have HOQ := Lib.hid q2
  have HQ4 := Lib.hid (And.intro q4 hmd)
  have S := Lib.hid l7_shown
  have C3 := Lib.hid fun w h => c7_Encode x A c w (by have := HL.out; omega) (by have := HL.out; omega) h HX.out
  have C1 := Lib.hid fun w h => c7_Check x A c w (by have := HL.out; omega) h HX.out
  have e1 : encR x = (encL x, 0, 0) := by unfold encR; rw [if_pos hr]
  have e2 : (chk x).1 = 0 := (chk_ok hr).2.2.2.2
  rw [e1] at C3
  rw [e2, hr] at C1
  have D1 : Hid (∀ A c w, BytS w A (encL x) → (encL x).length ≤ c → c ≤ maxLen → Calls Try.prog 20 #[.slice A (encL x).length c] w (DecW (x, 0, 0) w)) := Lib.hid fun A c w h hc hm => by
    have := c7_Decode (encL x) A c w (by rw [encL_len]; omega) h (encL_ok HX.out (chk_regs hr)) hc hm
    rw [decR_enc HX.out hr] at this
    exact this
  have SM : Hid (∀ A B c d w, InsS w A x → InsS w B x → Calls Try.prog 22 #[.slice A x.length c, .slice B x.length d] w (Gives (.bool true) w)) := Lib.hid fun A B c d w h h' => by
    have := r7_Same x x A B c d w (by have := HL.out; omega) (by have := HL.out; omega) h h'
    rw [(sameB_iff _ _).mpr rfl] at this
    exact this
  clear hr e1 e2
  generalize encL x = eb at *
  have C2 := Lib.hid fun w h => c7_Decode q B d w (by omega) h HOQ.out HQ4.out.1 HQ4.out.2
  obtain ⟨r1, r2, r3, r4, r5⟩ := decR_ok q2 hs
  have e3 : decR q = (decL q, 0, 0) := Prod.ext r1 (Prod.ext r2 hs)
  rw [e3] at C2
  have C4 : Hid (∀ A c w, InsS w A (decL q) → Calls Try.prog 18 #[.slice A (decL q).length c] w (EncW (q, 0, 0) w)) := Lib.hid fun A c w h => by
    have := c7_Encode (decL q) A c w (by rw [decL_len]; omega) (by rw [decL_len]; omega) h (fun k hk => decL_ok HOQ.out k hk)
    rw [r5] at this
    exact this
  clear hs r1 r2 r3 r4 r5 e3
  generalize decL q = dq at *
  have HQ0 := Lib.hid q0
  clear q0 q1 q2 q4
  have hq3 := q3
  clear q3
  generalize l.length = nl at *
  unfold maxLen at hmd
  by_cases hbig : b.length ≤ 4200
  · have e9 : q.length = b.length := by rw [HQ0.out]; exact Nat.min_eq_right hbig
    have HE9 := Lib.hid e9
    clear e9 HQ0
    generalize b.length = n at *
    have g1 : (n : Int) ≤ 4200 := by omega
    have g2 : min (n : Int) 4200 = n := by omega
    have g3 : (0 : Int) ≤ n := by omega
    have E9 : q.length = n := HE9.out
    rw [E9] at C2
    have HQ5 := Lib.hid E9
    clear E9 HE9 hbig hq3
    have hle' : (x.length : Int) ≤ 520 := by omega
    clear hle
    go_enter Try.func7, Try.ntmps7
    go_wp2_with fail
    refine (S.out _).mono ?_
    rintro e w4 ⟨rfl, b4⟩
    have V := Lib.hid b4
    clear b4
    go_wp2_with fail
    refine (FE.out _).mono ?_
    rintro e w5 ⟨rfl, b5⟩
    replace V := Lib.hid (below_next' V.out b5)
    clear b5
    go_wp2_with fail
    refine (C3.out _ (HI.out.after V.out)).mono ?_
    rintro e w6 ⟨A1, c1, rfl, h6, k1, k2, b6⟩
    replace V := Lib.hid (below_next' V.out b6)
    have H6 := Lib.hid h6
    have K6 := Lib.hid (And.intro k1 k2)
    clear b6 h6 k1 k2
    simp only at *
    have hlen : Hid True := Lib.hid trivial
    go_wp2_with fail
    refine (D1.out _ _ _ H6.out K6.out.1 K6.out.2).mono ?_
    rintro e w7 ⟨A2, c2, rfl, h7, k1, k2, b7⟩
    replace V := Lib.hid (below_next' V.out b7)
    have H7 := Lib.hid h7
    clear b7 h7 k1 k2
    try simp only [List.length_nil] at *
    go_wp2_with fail
    refine (FE.out _).mono ?_
    rintro e w8 ⟨rfl, b8⟩
    replace V := Lib.hid (below_next' V.out b8)
    replace H7 := Lib.hid (H7.out.after b8)
    clear b8
    go_wp2_with fail
    refine (C1.out _ (HI.out.after V.out)).mono ?_
    rintro e w9 ⟨rfl, b9⟩
    replace V := Lib.hid (below_next' V.out b9)
    replace H7 := Lib.hid (H7.out.after b9)
    clear b9
    go_wp2_with fail
    refine (FE.out _).mono ?_
    rintro e w10 ⟨rfl, b10⟩
    replace V := Lib.hid (below_next' V.out b10)
    replace H7 := Lib.hid (H7.out.after b10)
    clear b10
    go_wp2_with fail
    refine (SM.out _ _ _ _ _ H7.out (HI.out.after V.out)).mono ?_
    rintro e w11 ⟨rfl, b11⟩
    replace V := Lib.hid (below_next' V.out b11)
    clear b11
    go_wp2_with fail
    refine (C2.out _ (HBQ.out.after V.out)).mono ?_
    rintro e w12 ⟨A3, c3, rfl, h12, k1, k2, b12⟩
    replace V := Lib.hid (below_next' V.out b12)
    have H12 := Lib.hid h12
    clear b12 h12 k1 k2
    try simp only [List.length_nil] at *
    go_wp2_with fail
    refine (C4.out _ _ _ H12.out).mono ?_
    rintro e w13 ⟨A4, c4, rfl, h13, k1, k2, b13⟩
    replace V := Lib.hid (below_next' V.out b13)
    have H13 := Lib.hid h13
    clear b13 h13 k1 k2
    try simp only [List.length_nil] at *
    have s1 := str_bytS H13.out c4
    have s2 := str_bytS (HBQ.out.after V.out) d
    rw [HQ5.out] at s2
    try rw [HQ5.out] at s1
    try rw [HQ5.out]
    generalize strOfNums q = sq at *
    go_wp2_with fail
    go_ret
    exact ⟨rfl, V.out⟩
  · have e9 : q.length = 4200 := by rw [HQ0.out]; exact Nat.min_eq_left (by omega)
    have HE9 := Lib.hid e9
    clear e9 HQ0
    generalize b.length = n at *
    have g1 : (4200 : Int) < n := by omega
    have g2 : min (n : Int) 4200 = 4200 := by omega
    have g3 : (0 : Int) ≤ n := by omega
    have E9 : q.length = 4200 := HE9.out
    rw [E9] at C2
    have HQ5 := Lib.hid E9
    clear E9 HE9 hbig hq3
    have hle' : (x.length : Int) ≤ 520 := by omega
    clear hle
    go_enter Try.func7, Try.ntmps7
    go_wp2_with fail
    refine (S.out _).mono ?_
    rintro e w4 ⟨rfl, b4⟩
    have V := Lib.hid b4
    clear b4
    go_wp2_with fail
    refine (FE.out _).mono ?_
    rintro e w5 ⟨rfl, b5⟩
    replace V := Lib.hid (below_next' V.out b5)
    clear b5
    go_wp2_with fail
    refine (C3.out _ (HI.out.after V.out)).mono ?_
    rintro e w6 ⟨A1, c1, rfl, h6, k1, k2, b6⟩
    replace V := Lib.hid (below_next' V.out b6)
    have H6 := Lib.hid h6
    have K6 := Lib.hid (And.intro k1 k2)
    clear b6 h6 k1 k2
    simp only at *
    have hlen : Hid True := Lib.hid trivial
    go_wp2_with fail
    refine (D1.out _ _ _ H6.out K6.out.1 K6.out.2).mono ?_
    rintro e w7 ⟨A2, c2, rfl, h7, k1, k2, b7⟩
    replace V := Lib.hid (below_next' V.out b7)
    have H7 := Lib.hid h7
    clear b7 h7 k1 k2
    try simp only [List.length_nil] at *
    go_wp2_with fail
    refine (FE.out _).mono ?_
    rintro e w8 ⟨rfl, b8⟩
    replace V := Lib.hid (below_next' V.out b8)
    replace H7 := Lib.hid (H7.out.after b8)
    clear b8
    go_wp2_with fail
    refine (C1.out _ (HI.out.after V.out)).mono ?_
    rintro e w9 ⟨rfl, b9⟩
    replace V := Lib.hid (below_next' V.out b9)
    replace H7 := Lib.hid (H7.out.after b9)
    clear b9
    go_wp2_with fail
    refine (FE.out _).mono ?_
    rintro e w10 ⟨rfl, b10⟩
    replace V := Lib.hid (below_next' V.out b10)
    replace H7 := Lib.hid (H7.out.after b10)
    clear b10
    go_wp2_with fail
    refine (SM.out _ _ _ _ _ H7.out (HI.out.after V.out)).mono ?_
    rintro e w11 ⟨rfl, b11⟩
    replace V := Lib.hid (below_next' V.out b11)
    clear b11
    go_wp2_with fail
    refine (C2.out _ (HBQ.out.after V.out)).mono ?_
    rintro e w12 ⟨A3, c3, rfl, h12, k1, k2, b12⟩
    replace V := Lib.hid (below_next' V.out b12)
    have H12 := Lib.hid h12
    clear b12 h12 k1 k2
    try simp only [List.length_nil] at *
    go_wp2_with fail
    refine (C4.out _ _ _ H12.out).mono ?_
    rintro e w13 ⟨A4, c4, rfl, h13, k1, k2, b13⟩
    replace V := Lib.hid (below_next' V.out b13)
    have H13 := Lib.hid h13
    clear b13 h13 k1 k2
    try simp only [List.length_nil] at *
    have s1 := str_bytS H13.out c4
    have s2 := str_bytS (HBQ.out.after V.out) d
    rw [HQ5.out] at s2
    try rw [HQ5.out] at s1
    try rw [HQ5.out]
    generalize strOfNums q = sq at *
    go_wp2_with fail
    go_ret
    exact ⟨rfl, V.out⟩

set_option maxRecDepth 100000 in
set_option maxHeartbeats 4000000 in
theorem l7_CodeBack_yn (l : List Ins) (A : Option Addr) (c : Nat) (b : List Int) (B : Option Addr) (d : Nat) (w : World) (h : InsS w A l) (hx : OkAll l) (hc : l.length ≤ c) (hm : c ≤ maxLen) (q : List Int) (q0 : q.length = min 4200 b.length) (q1 : BytS w B q) (q2 : OkB q) (q3 : q.length ≤ 4200) (q4 : q.length ≤ d) (hd : b.length ≤ d) (hmd : d ≤ maxLen)
    (hr : (chk (fewL l)).2 = 0) (hs : ¬ (decR q).2.2 = 0) :
    Calls Try.prog 7 #[.slice A l.length c, .slice B b.length d] w (Fine w) := by
  have FE := Lib.hid fun w => l7_few l A c w hc hm
  have HI := Lib.hid (few_ins h)
  have HX := Lib.hid (few_ok hx)
  have HL := Lib.hid (few_len l)
  clear h hx hc hm
  have hle : (fewL l).length ≤ 520 := HL.out
  generalize fewL l = x at *
  have HBQ := Lib.hid q1
  have HOQ := Lib.hid q2
  have HQ4 := Lib.hid (And.intro q4 hmd)
  have S := Lib.hid l7_shown
  have C3 := Lib.hid fun w h => c7_Encode x A c w (by have := HL.out; omega) (by have := HL.out; omega) h HX.out
  have C1 := Lib.hid fun w h => c7_Check x A c w (by have := HL.out; omega) h HX.out
  have e1 : encR x = (encL x, 0, 0) := by unfold encR; rw [if_pos hr]
  have e2 : (chk x).1 = 0 := (chk_ok hr).2.2.2.2
  rw [e1] at C3
  rw [e2, hr] at C1
  have D1 : Hid (∀ A c w, BytS w A (encL x) → (encL x).length ≤ c → c ≤ maxLen → Calls Try.prog 20 #[.slice A (encL x).length c] w (DecW (x, 0, 0) w)) := Lib.hid fun A c w h hc hm => by
    have := c7_Decode (encL x) A c w (by rw [encL_len]; omega) h (encL_ok HX.out (chk_regs hr)) hc hm
    rw [decR_enc HX.out hr] at this
    exact this
  have SM : Hid (∀ A B c d w, InsS w A x → InsS w B x → Calls Try.prog 22 #[.slice A x.length c, .slice B x.length d] w (Gives (.bool true) w)) := Lib.hid fun A B c d w h h' => by
    have := r7_Same x x A B c d w (by have := HL.out; omega) (by have := HL.out; omega) h h'
    rw [(sameB_iff _ _).mpr rfl] at this
    exact this
  clear hr e1 e2
  generalize encL x = eb at *
  have C2 := Lib.hid fun w h => c7_Decode q B d w (by omega) h HOQ.out HQ4.out.1 HQ4.out.2
  have e3 : decR q = ([], (decR q).2.1, (decR q).2.2) := Prod.ext (decR_no hs) rfl
  rw [e3] at C2
  have C4 : Hid (∀ A c w, InsS w A [] → Calls Try.prog 18 #[.slice A 0 c] w (EncW ([], 0, 70) w)) := Lib.hid fun A c w h => by
    have := c7_Encode [] A c w (by simp) (by simp) h (fun k hk => absurd hk (by simp))
    rw [show encR [] = ([], 0, 70) from rfl] at this
    exact this
  have m0 : ((decR q).2.2 != 0) = true := by unfold bne; rw [beq_false_of_ne hs]; rfl
  have m1 : ((decR q).2.2 == 0) = false := beq_false_of_ne hs
  clear hs e3
  generalize (decR q).2.1 = da at *
  generalize (decR q).2.2 = dr at *
  have HQ0 := Lib.hid q0
  clear q0 q1 q2 q4
  have hq3 := q3
  clear q3
  generalize l.length = nl at *
  unfold maxLen at hmd
  by_cases hbig : b.length ≤ 4200
  · have e9 : q.length = b.length := by rw [HQ0.out]; exact Nat.min_eq_right hbig
    have HE9 := Lib.hid e9
    clear e9 HQ0
    generalize b.length = n at *
    have g1 : (n : Int) ≤ 4200 := by omega
    have g2 : min (n : Int) 4200 = n := by omega
    have g3 : (0 : Int) ≤ n := by omega
    have E9 : q.length = n := HE9.out
    rw [E9] at C2
    have HQ5 := Lib.hid E9
    clear E9 HE9 hbig hq3
    have hle' : (x.length : Int) ≤ 520 := by omega
    clear hle
    go_enter Try.func7, Try.ntmps7
    go_wp2_with fail
    refine (S.out _).mono ?_
    rintro e w4 ⟨rfl, b4⟩
    have V := Lib.hid b4
    clear b4
    go_wp2_with fail
    refine (FE.out _).mono ?_
    rintro e w5 ⟨rfl, b5⟩
    replace V := Lib.hid (below_next' V.out b5)
    clear b5
    go_wp2_with fail
    refine (C3.out _ (HI.out.after V.out)).mono ?_
    rintro e w6 ⟨A1, c1, rfl, h6, k1, k2, b6⟩
    replace V := Lib.hid (below_next' V.out b6)
    have H6 := Lib.hid h6
    have K6 := Lib.hid (And.intro k1 k2)
    clear b6 h6 k1 k2
    simp only at *
    have hlen : Hid True := Lib.hid trivial
    go_wp2_with fail
    refine (D1.out _ _ _ H6.out K6.out.1 K6.out.2).mono ?_
    rintro e w7 ⟨A2, c2, rfl, h7, k1, k2, b7⟩
    replace V := Lib.hid (below_next' V.out b7)
    have H7 := Lib.hid h7
    clear b7 h7 k1 k2
    try simp only [List.length_nil] at *
    go_wp2_with fail
    refine (FE.out _).mono ?_
    rintro e w8 ⟨rfl, b8⟩
    replace V := Lib.hid (below_next' V.out b8)
    replace H7 := Lib.hid (H7.out.after b8)
    clear b8
    go_wp2_with fail
    refine (C1.out _ (HI.out.after V.out)).mono ?_
    rintro e w9 ⟨rfl, b9⟩
    replace V := Lib.hid (below_next' V.out b9)
    replace H7 := Lib.hid (H7.out.after b9)
    clear b9
    go_wp2_with fail
    refine (FE.out _).mono ?_
    rintro e w10 ⟨rfl, b10⟩
    replace V := Lib.hid (below_next' V.out b10)
    replace H7 := Lib.hid (H7.out.after b10)
    clear b10
    go_wp2_with fail
    refine (SM.out _ _ _ _ _ H7.out (HI.out.after V.out)).mono ?_
    rintro e w11 ⟨rfl, b11⟩
    replace V := Lib.hid (below_next' V.out b11)
    clear b11
    go_wp2_with fail
    refine (C2.out _ (HBQ.out.after V.out)).mono ?_
    rintro e w12 ⟨A3, c3, rfl, h12, k1, k2, b12⟩
    replace V := Lib.hid (below_next' V.out b12)
    have H12 := Lib.hid h12
    clear b12 h12 k1 k2
    try simp only [List.length_nil] at *
    go_wp2_with fail
    refine (C4.out _ _ _ H12.out).mono ?_
    rintro e w13 ⟨A4, c4, rfl, h13, k1, k2, b13⟩
    replace V := Lib.hid (below_next' V.out b13)
    have H13 := Lib.hid h13
    clear b13 h13 k1 k2
    try simp only [List.length_nil] at *
    go_wp2_with fail
    go_ret
    exact ⟨rfl, V.out⟩
  · have e9 : q.length = 4200 := by rw [HQ0.out]; exact Nat.min_eq_left (by omega)
    have HE9 := Lib.hid e9
    clear e9 HQ0
    generalize b.length = n at *
    have g1 : (4200 : Int) < n := by omega
    have g2 : min (n : Int) 4200 = 4200 := by omega
    have g3 : (0 : Int) ≤ n := by omega
    have E9 : q.length = 4200 := HE9.out
    rw [E9] at C2
    have HQ5 := Lib.hid E9
    clear E9 HE9 hbig hq3
    have hle' : (x.length : Int) ≤ 520 := by omega
    clear hle
    go_enter Try.func7, Try.ntmps7
    go_wp2_with fail
    refine (S.out _).mono ?_
    rintro e w4 ⟨rfl, b4⟩
    have V := Lib.hid b4
    clear b4
    go_wp2_with fail
    refine (FE.out _).mono ?_
    rintro e w5 ⟨rfl, b5⟩
    replace V := Lib.hid (below_next' V.out b5)
    clear b5
    go_wp2_with fail
    refine (C3.out _ (HI.out.after V.out)).mono ?_
    rintro e w6 ⟨A1, c1, rfl, h6, k1, k2, b6⟩
    replace V := Lib.hid (below_next' V.out b6)
    have H6 := Lib.hid h6
    have K6 := Lib.hid (And.intro k1 k2)
    clear b6 h6 k1 k2
    simp only at *
    have hlen : Hid True := Lib.hid trivial
    go_wp2_with fail
    refine (D1.out _ _ _ H6.out K6.out.1 K6.out.2).mono ?_
    rintro e w7 ⟨A2, c2, rfl, h7, k1, k2, b7⟩
    replace V := Lib.hid (below_next' V.out b7)
    have H7 := Lib.hid h7
    clear b7 h7 k1 k2
    try simp only [List.length_nil] at *
    go_wp2_with fail
    refine (FE.out _).mono ?_
    rintro e w8 ⟨rfl, b8⟩
    replace V := Lib.hid (below_next' V.out b8)
    replace H7 := Lib.hid (H7.out.after b8)
    clear b8
    go_wp2_with fail
    refine (C1.out _ (HI.out.after V.out)).mono ?_
    rintro e w9 ⟨rfl, b9⟩
    replace V := Lib.hid (below_next' V.out b9)
    replace H7 := Lib.hid (H7.out.after b9)
    clear b9
    go_wp2_with fail
    refine (FE.out _).mono ?_
    rintro e w10 ⟨rfl, b10⟩
    replace V := Lib.hid (below_next' V.out b10)
    replace H7 := Lib.hid (H7.out.after b10)
    clear b10
    go_wp2_with fail
    refine (SM.out _ _ _ _ _ H7.out (HI.out.after V.out)).mono ?_
    rintro e w11 ⟨rfl, b11⟩
    replace V := Lib.hid (below_next' V.out b11)
    clear b11
    go_wp2_with fail
    refine (C2.out _ (HBQ.out.after V.out)).mono ?_
    rintro e w12 ⟨A3, c3, rfl, h12, k1, k2, b12⟩
    replace V := Lib.hid (below_next' V.out b12)
    have H12 := Lib.hid h12
    clear b12 h12 k1 k2
    try simp only [List.length_nil] at *
    go_wp2_with fail
    refine (C4.out _ _ _ H12.out).mono ?_
    rintro e w13 ⟨A4, c4, rfl, h13, k1, k2, b13⟩
    replace V := Lib.hid (below_next' V.out b13)
    have H13 := Lib.hid h13
    clear b13 h13 k1 k2
    try simp only [List.length_nil] at *
    go_wp2_with fail
    go_ret
    exact ⟨rfl, V.out⟩

set_option maxRecDepth 100000 in
set_option maxHeartbeats 4000000 in
theorem l7_CodeBack_ny (l : List Ins) (A : Option Addr) (c : Nat) (b : List Int) (B : Option Addr) (d : Nat) (w : World) (h : InsS w A l) (hx : OkAll l) (hc : l.length ≤ c) (hm : c ≤ maxLen) (q : List Int) (q0 : q.length = min 4200 b.length) (q1 : BytS w B q) (q2 : OkB q) (q3 : q.length ≤ 4200) (q4 : q.length ≤ d) (hd : b.length ≤ d) (hmd : d ≤ maxLen)
    (hr : ¬ (chk (fewL l)).2 = 0) (hs : (decR q).2.2 = 0) :
    Calls Try.prog 7 #[.slice A l.length c, .slice B b.length d] w (Fine w) := by
  have FE := Lib.hid fun w => l7_few l A c w hc hm
  have HI := Lib.hid (few_ins h)
  have HX := Lib.hid (few_ok hx)
  have HL := Lib.hid (few_len l)
  clear h hx hc hm
  have hle : (fewL l).length ≤ 520 := HL.out
  generalize fewL l = x at *
  have HBQ := Lib.hid q1
  have HOQ := Lib.hid q2
  have HQ4 := Lib.hid (And.intro q4 hmd)
  have S := Lib.hid l7_shown
  have C3 := Lib.hid fun w h => c7_Encode x A c w (by have := HL.out; omega) (by have := HL.out; omega) h HX.out
  have C1 := Lib.hid fun w h => c7_Check x A c w (by have := HL.out; omega) h HX.out
  have e1 : encR x = ([], (chk x).1, (chk x).2) := by unfold encR; rw [if_neg hr]
  rw [e1] at C3
  have D1 : Hid (∀ A c w, BytS w A [] → ([] : List Int).length ≤ c → c ≤ maxLen → Calls Try.prog 20 #[.slice A 0 c] w (DecW ([], 0, 70) w)) := Lib.hid fun A c w h hc hm => by
    have := c7_Decode [] A c w (by simp) h (fun k hk => absurd hk (by simp)) hc hm
    rw [show decR [] = ([], 0, 70) from rfl] at this
    exact this
  have n0 : ((chk x).2 != 0) = true := by unfold bne; rw [beq_false_of_ne hr]; rfl
  have n1 : ((chk x).2 == 0) = false := beq_false_of_ne hr
  clear hr e1
  generalize (chk x).1 = ka at *
  generalize (chk x).2 = kr at *
  have C2 := Lib.hid fun w h => c7_Decode q B d w (by omega) h HOQ.out HQ4.out.1 HQ4.out.2
  obtain ⟨r1, r2, r3, r4, r5⟩ := decR_ok q2 hs
  have e3 : decR q = (decL q, 0, 0) := Prod.ext r1 (Prod.ext r2 hs)
  rw [e3] at C2
  have C4 : Hid (∀ A c w, InsS w A (decL q) → Calls Try.prog 18 #[.slice A (decL q).length c] w (EncW (q, 0, 0) w)) := Lib.hid fun A c w h => by
    have := c7_Encode (decL q) A c w (by rw [decL_len]; omega) (by rw [decL_len]; omega) h (fun k hk => decL_ok HOQ.out k hk)
    rw [r5] at this
    exact this
  clear hs r1 r2 r3 r4 r5 e3
  generalize decL q = dq at *
  have HQ0 := Lib.hid q0
  clear q0 q1 q2 q4
  have hq3 := q3
  clear q3
  generalize l.length = nl at *
  unfold maxLen at hmd
  by_cases hbig : b.length ≤ 4200
  · have e9 : q.length = b.length := by rw [HQ0.out]; exact Nat.min_eq_right hbig
    have HE9 := Lib.hid e9
    clear e9 HQ0
    generalize b.length = n at *
    have g1 : (n : Int) ≤ 4200 := by omega
    have g2 : min (n : Int) 4200 = n := by omega
    have g3 : (0 : Int) ≤ n := by omega
    have E9 : q.length = n := HE9.out
    rw [E9] at C2
    have HQ5 := Lib.hid E9
    clear E9 HE9 hbig hq3
    have hle' : (x.length : Int) ≤ 520 := by omega
    clear hle
    go_enter Try.func7, Try.ntmps7
    go_wp2_with fail
    refine (S.out _).mono ?_
    rintro e w4 ⟨rfl, b4⟩
    have V := Lib.hid b4
    clear b4
    go_wp2_with fail
    refine (FE.out _).mono ?_
    rintro e w5 ⟨rfl, b5⟩
    replace V := Lib.hid (below_next' V.out b5)
    clear b5
    go_wp2_with fail
    refine (C3.out _ (HI.out.after V.out)).mono ?_
    rintro e w6 ⟨A1, c1, rfl, h6, k1, k2, b6⟩
    replace V := Lib.hid (below_next' V.out b6)
    have H6 := Lib.hid h6
    have K6 := Lib.hid (And.intro k1 k2)
    clear b6 h6 k1 k2
    simp only [List.length_nil] at *
    go_wp2_with fail
    refine (D1.out _ _ _ H6.out K6.out.1 K6.out.2).mono ?_
    rintro e w7 ⟨A2, c2, rfl, h7, k1, k2, b7⟩
    replace V := Lib.hid (below_next' V.out b7)
    have H7 := Lib.hid h7
    clear b7 h7 k1 k2
    try simp only [List.length_nil] at *
    go_wp2_with fail
    refine (FE.out _).mono ?_
    rintro e w8 ⟨rfl, b8⟩
    replace V := Lib.hid (below_next' V.out b8)
    replace H7 := Lib.hid (H7.out.after b8)
    clear b8
    go_wp2_with fail
    refine (C1.out _ (HI.out.after V.out)).mono ?_
    rintro e w9 ⟨rfl, b9⟩
    replace V := Lib.hid (below_next' V.out b9)
    replace H7 := Lib.hid (H7.out.after b9)
    clear b9
    go_wp2_with fail
    refine (C2.out _ (HBQ.out.after V.out)).mono ?_
    rintro e w12 ⟨A3, c3, rfl, h12, k1, k2, b12⟩
    replace V := Lib.hid (below_next' V.out b12)
    have H12 := Lib.hid h12
    clear b12 h12 k1 k2
    try simp only [List.length_nil] at *
    go_wp2_with fail
    refine (C4.out _ _ _ H12.out).mono ?_
    rintro e w13 ⟨A4, c4, rfl, h13, k1, k2, b13⟩
    replace V := Lib.hid (below_next' V.out b13)
    have H13 := Lib.hid h13
    clear b13 h13 k1 k2
    try simp only [List.length_nil] at *
    have s1 := str_bytS H13.out c4
    have s2 := str_bytS (HBQ.out.after V.out) d
    rw [HQ5.out] at s2
    try rw [HQ5.out] at s1
    try rw [HQ5.out]
    generalize strOfNums q = sq at *
    go_wp2_with fail
    go_ret
    exact ⟨rfl, V.out⟩
  · have e9 : q.length = 4200 := by rw [HQ0.out]; exact Nat.min_eq_left (by omega)
    have HE9 := Lib.hid e9
    clear e9 HQ0
    generalize b.length = n at *
    have g1 : (4200 : Int) < n := by omega
    have g2 : min (n : Int) 4200 = 4200 := by omega
    have g3 : (0 : Int) ≤ n := by omega
    have E9 : q.length = 4200 := HE9.out
    rw [E9] at C2
    have HQ5 := Lib.hid E9
    clear E9 HE9 hbig hq3
    have hle' : (x.length : Int) ≤ 520 := by omega
    clear hle
    go_enter Try.func7, Try.ntmps7
    go_wp2_with fail
    refine (S.out _).mono ?_
    rintro e w4 ⟨rfl, b4⟩
    have V := Lib.hid b4
    clear b4
    go_wp2_with fail
    refine (FE.out _).mono ?_
    rintro e w5 ⟨rfl, b5⟩
    replace V := Lib.hid (below_next' V.out b5)
    clear b5
    go_wp2_with fail
    refine (C3.out _ (HI.out.after V.out)).mono ?_
    rintro e w6 ⟨A1, c1, rfl, h6, k1, k2, b6⟩
    replace V := Lib.hid (below_next' V.out b6)
    have H6 := Lib.hid h6
    have K6 := Lib.hid (And.intro k1 k2)
    clear b6 h6 k1 k2
    simp only [List.length_nil] at *
    go_wp2_with fail
    refine (D1.out _ _ _ H6.out K6.out.1 K6.out.2).mono ?_
    rintro e w7 ⟨A2, c2, rfl, h7, k1, k2, b7⟩
    replace V := Lib.hid (below_next' V.out b7)
    have H7 := Lib.hid h7
    clear b7 h7 k1 k2
    try simp only [List.length_nil] at *
    go_wp2_with fail
    refine (FE.out _).mono ?_
    rintro e w8 ⟨rfl, b8⟩
    replace V := Lib.hid (below_next' V.out b8)
    replace H7 := Lib.hid (H7.out.after b8)
    clear b8
    go_wp2_with fail
    refine (C1.out _ (HI.out.after V.out)).mono ?_
    rintro e w9 ⟨rfl, b9⟩
    replace V := Lib.hid (below_next' V.out b9)
    replace H7 := Lib.hid (H7.out.after b9)
    clear b9
    go_wp2_with fail
    refine (C2.out _ (HBQ.out.after V.out)).mono ?_
    rintro e w12 ⟨A3, c3, rfl, h12, k1, k2, b12⟩
    replace V := Lib.hid (below_next' V.out b12)
    have H12 := Lib.hid h12
    clear b12 h12 k1 k2
    try simp only [List.length_nil] at *
    go_wp2_with fail
    refine (C4.out _ _ _ H12.out).mono ?_
    rintro e w13 ⟨A4, c4, rfl, h13, k1, k2, b13⟩
    replace V := Lib.hid (below_next' V.out b13)
    have H13 := Lib.hid h13
    clear b13 h13 k1 k2
    try simp only [List.length_nil] at *
    have s1 := str_bytS H13.out c4
    have s2 := str_bytS (HBQ.out.after V.out) d
    rw [HQ5.out] at s2
    try rw [HQ5.out] at s1
    try rw [HQ5.out]
    generalize strOfNums q = sq at *
    go_wp2_with fail
    go_ret
    exact ⟨rfl, V.out⟩

set_option maxRecDepth 100000 in
set_option maxHeartbeats 4000000 in
theorem l7_CodeBack_nn (l : List Ins) (A : Option Addr) (c : Nat) (b : List Int) (B : Option Addr) (d : Nat) (w : World) (h : InsS w A l) (hx : OkAll l) (hc : l.length ≤ c) (hm : c ≤ maxLen) (q : List Int) (q0 : q.length = min 4200 b.length) (q1 : BytS w B q) (q2 : OkB q) (q3 : q.length ≤ 4200) (q4 : q.length ≤ d) (hd : b.length ≤ d) (hmd : d ≤ maxLen)
    (hr : ¬ (chk (fewL l)).2 = 0) (hs : ¬ (decR q).2.2 = 0) :
    Calls Try.prog 7 #[.slice A l.length c, .slice B b.length d] w (Fine w) := by
  have FE := Lib.hid fun w => l7_few l A c w hc hm
  have HI := Lib.hid (few_ins h)
  have HX := Lib.hid (few_ok hx)
  have HL := Lib.hid (few_len l)
  clear h hx hc hm
  have hle : (fewL l).length ≤ 520 := HL.out
  generalize fewL l = x at *
  have HBQ := Lib.hid q1
  have HOQ := Lib.hid q2
  have HQ4 := Lib.hid (And.intro q4 hmd)
  have S := Lib.hid l7_shown
  have C3 := Lib.hid fun w h => c7_Encode x A c w (by have := HL.out; omega) (by have := HL.out; omega) h HX.out
  have C1 := Lib.hid fun w h => c7_Check x A c w (by have := HL.out; omega) h HX.out
  have e1 : encR x = ([], (chk x).1, (chk x).2) := by unfold encR; rw [if_neg hr]
  rw [e1] at C3
  have D1 : Hid (∀ A c w, BytS w A [] → ([] : List Int).length ≤ c → c ≤ maxLen → Calls Try.prog 20 #[.slice A 0 c] w (DecW ([], 0, 70) w)) := Lib.hid fun A c w h hc hm => by
    have := c7_Decode [] A c w (by simp) h (fun k hk => absurd hk (by simp)) hc hm
    rw [show decR [] = ([], 0, 70) from rfl] at this
    exact this
  have n0 : ((chk x).2 != 0) = true := by unfold bne; rw [beq_false_of_ne hr]; rfl
  have n1 : ((chk x).2 == 0) = false := beq_false_of_ne hr
  clear hr e1
  generalize (chk x).1 = ka at *
  generalize (chk x).2 = kr at *
  have C2 := Lib.hid fun w h => c7_Decode q B d w (by omega) h HOQ.out HQ4.out.1 HQ4.out.2
  have e3 : decR q = ([], (decR q).2.1, (decR q).2.2) := Prod.ext (decR_no hs) rfl
  rw [e3] at C2
  have C4 : Hid (∀ A c w, InsS w A [] → Calls Try.prog 18 #[.slice A 0 c] w (EncW ([], 0, 70) w)) := Lib.hid fun A c w h => by
    have := c7_Encode [] A c w (by simp) (by simp) h (fun k hk => absurd hk (by simp))
    rw [show encR [] = ([], 0, 70) from rfl] at this
    exact this
  have m0 : ((decR q).2.2 != 0) = true := by unfold bne; rw [beq_false_of_ne hs]; rfl
  have m1 : ((decR q).2.2 == 0) = false := beq_false_of_ne hs
  clear hs e3
  generalize (decR q).2.1 = da at *
  generalize (decR q).2.2 = dr at *
  have HQ0 := Lib.hid q0
  clear q0 q1 q2 q4
  have hq3 := q3
  clear q3
  generalize l.length = nl at *
  unfold maxLen at hmd
  by_cases hbig : b.length ≤ 4200
  · have e9 : q.length = b.length := by rw [HQ0.out]; exact Nat.min_eq_right hbig
    have HE9 := Lib.hid e9
    clear e9 HQ0
    generalize b.length = n at *
    have g1 : (n : Int) ≤ 4200 := by omega
    have g2 : min (n : Int) 4200 = n := by omega
    have g3 : (0 : Int) ≤ n := by omega
    have E9 : q.length = n := HE9.out
    rw [E9] at C2
    have HQ5 := Lib.hid E9
    clear E9 HE9 hbig hq3
    have hle' : (x.length : Int) ≤ 520 := by omega
    clear hle
    go_enter Try.func7, Try.ntmps7
    go_wp2_with fail
    refine (S.out _).mono ?_
    rintro e w4 ⟨rfl, b4⟩
    have V := Lib.hid b4
    clear b4
    go_wp2_with fail
    refine (FE.out _).mono ?_
    rintro e w5 ⟨rfl, b5⟩
    replace V := Lib.hid (below_next' V.out b5)
    clear b5
    go_wp2_with fail
    refine (C3.out _ (HI.out.after V.out)).mono ?_
    rintro e w6 ⟨A1, c1, rfl, h6, k1, k2, b6⟩
    replace V := Lib.hid (below_next' V.out b6)
    have H6 := Lib.hid h6
    have K6 := Lib.hid (And.intro k1 k2)
    clear b6 h6 k1 k2
    simp only [List.length_nil] at *
    go_wp2_with fail
    refine (D1.out _ _ _ H6.out K6.out.1 K6.out.2).mono ?_
    rintro e w7 ⟨A2, c2, rfl, h7, k1, k2, b7⟩
    replace V := Lib.hid (below_next' V.out b7)
    have H7 := Lib.hid h7
    clear b7 h7 k1 k2
    try simp only [List.length_nil] at *
    go_wp2_with fail
    refine (FE.out _).mono ?_
    rintro e w8 ⟨rfl, b8⟩
    replace V := Lib.hid (below_next' V.out b8)
    replace H7 := Lib.hid (H7.out.after b8)
    clear b8
    go_wp2_with fail
    refine (C1.out _ (HI.out.after V.out)).mono ?_
    rintro e w9 ⟨rfl, b9⟩
    replace V := Lib.hid (below_next' V.out b9)
    replace H7 := Lib.hid (H7.out.after b9)
    clear b9
    go_wp2_with fail
    refine (C2.out _ (HBQ.out.after V.out)).mono ?_
    rintro e w12 ⟨A3, c3, rfl, h12, k1, k2, b12⟩
    replace V := Lib.hid (below_next' V.out b12)
    have H12 := Lib.hid h12
    clear b12 h12 k1 k2
    try simp only [List.length_nil] at *
    go_wp2_with fail
    refine (C4.out _ _ _ H12.out).mono ?_
    rintro e w13 ⟨A4, c4, rfl, h13, k1, k2, b13⟩
    replace V := Lib.hid (below_next' V.out b13)
    have H13 := Lib.hid h13
    clear b13 h13 k1 k2
    try simp only [List.length_nil] at *
    go_wp2_with fail
    go_ret
    exact ⟨rfl, V.out⟩
  · have e9 : q.length = 4200 := by rw [HQ0.out]; exact Nat.min_eq_left (by omega)
    have HE9 := Lib.hid e9
    clear e9 HQ0
    generalize b.length = n at *
    have g1 : (4200 : Int) < n := by omega
    have g2 : min (n : Int) 4200 = 4200 := by omega
    have g3 : (0 : Int) ≤ n := by omega
    have E9 : q.length = 4200 := HE9.out
    rw [E9] at C2
    have HQ5 := Lib.hid E9
    clear E9 HE9 hbig hq3
    have hle' : (x.length : Int) ≤ 520 := by omega
    clear hle
    go_enter Try.func7, Try.ntmps7
    go_wp2_with fail
    refine (S.out _).mono ?_
    rintro e w4 ⟨rfl, b4⟩
    have V := Lib.hid b4
    clear b4
    go_wp2_with fail
    refine (FE.out _).mono ?_
    rintro e w5 ⟨rfl, b5⟩
    replace V := Lib.hid (below_next' V.out b5)
    clear b5
    go_wp2_with fail
    refine (C3.out _ (HI.out.after V.out)).mono ?_
    rintro e w6 ⟨A1, c1, rfl, h6, k1, k2, b6⟩
    replace V := Lib.hid (below_next' V.out b6)
    have H6 := Lib.hid h6
    have K6 := Lib.hid (And.intro k1 k2)
    clear b6 h6 k1 k2
    simp only [List.length_nil] at *
    go_wp2_with fail
    refine (D1.out _ _ _ H6.out K6.out.1 K6.out.2).mono ?_
    rintro e w7 ⟨A2, c2, rfl, h7, k1, k2, b7⟩
    replace V := Lib.hid (below_next' V.out b7)
    have H7 := Lib.hid h7
    clear b7 h7 k1 k2
    try simp only [List.length_nil] at *
    go_wp2_with fail
    refine (FE.out _).mono ?_
    rintro e w8 ⟨rfl, b8⟩
    replace V := Lib.hid (below_next' V.out b8)
    replace H7 := Lib.hid (H7.out.after b8)
    clear b8
    go_wp2_with fail
    refine (C1.out _ (HI.out.after V.out)).mono ?_
    rintro e w9 ⟨rfl, b9⟩
    replace V := Lib.hid (below_next' V.out b9)
    replace H7 := Lib.hid (H7.out.after b9)
    clear b9
    go_wp2_with fail
    refine (C2.out _ (HBQ.out.after V.out)).mono ?_
    rintro e w12 ⟨A3, c3, rfl, h12, k1, k2, b12⟩
    replace V := Lib.hid (below_next' V.out b12)
    have H12 := Lib.hid h12
    clear b12 h12 k1 k2
    try simp only [List.length_nil] at *
    go_wp2_with fail
    refine (C4.out _ _ _ H12.out).mono ?_
    rintro e w13 ⟨A4, c4, rfl, h13, k1, k2, b13⟩
    replace V := Lib.hid (below_next' V.out b13)
    have H13 := Lib.hid h13
    clear b13 h13 k1 k2
    try simp only [List.length_nil] at *
    go_wp2_with fail
    go_ret
    exact ⟨rfl, V.out⟩

theorem l7_CodeBack (l : List Ins) (A : Option Addr) (c : Nat) (b : List Int) (B : Option Addr) (d : Nat) (w : World) (h : InsS w A l) (hx : OkAll l) (hc : l.length ≤ c) (hm : c ≤ maxLen) (hb : BytS w B b) (hob : OkB b) (hd : b.length ≤ d) (hmd : d ≤ maxLen) :
    Calls Try.prog 7 #[.slice A l.length c, .slice B b.length d] w (Fine w) := by
  obtain ⟨q, q0, q1, q2, q3, q4⟩ := few_bytes hb hob hd
  by_cases hr : (chk (fewL l)).2 = 0
  · by_cases hs : (decR q).2.2 = 0
    · exact l7_CodeBack_yy l A c b B d w h hx hc hm q q0 q1 q2 q3 q4 hd hmd hr hs
    · exact l7_CodeBack_yn l A c b B d w h hx hc hm q q0 q1 q2 q3 q4 hd hmd hr hs
  · by_cases hs : (decR q).2.2 = 0
    · exact l7_CodeBack_ny l A c b B d w h hx hc hm q q0 q1 q2 q3 q4 hd hmd hr hs
    · exact l7_CodeBack_nn l A c b B d w h hx hc hm q q0 q1 q2 q3 q4 hd hmd hr hs

end Go.Proofs.Ytplndcjmbgkcjaa
