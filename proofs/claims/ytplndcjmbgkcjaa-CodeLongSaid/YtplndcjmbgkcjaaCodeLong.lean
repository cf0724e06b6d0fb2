/-
  P7.2, P7.3: a program has as many places as its bytes have eights: the walk of the statement CodeLong.
  Conditions: none beyond the row's own.
-/
import Derived.Test.YtplndcjmbgkcjaaCodeShown
import Derived.Test.YtplndcjmbgkcjaaCodeMath
import Derived.Test.YtplndcjmbgkcjaaCodeCount
import Derived.Test.YtplndcjmbgkcjaaCodeBytes
import Derived.LoopTactic
namespace Go.Proofs.Ytplndcjmbgkcjaa
open Go.RowKit
set_option linter.unusedVariables false
set_option linter.unusedSimpArgs false

set_option maxRecDepth 100000 in
set_option maxHeartbeats 4000000 in
theorem l7_CodeLong_no (b : List Int) (A : Option Addr) (c : Nat) (w : World) (hc : b.length ≤ c) (hm : c ≤ maxLen) (q : List Int) (q0 : q.length = min 4200 b.length) (q1 : BytS w A q) (q2 : OkB q) (q3 : q.length ≤ 4200) (q4 : q.length ≤ c) (hs : ¬ (decR q).2.2 = 0) : Calls Try.prog 10 #[.slice A b.length c] w (Fine w) := by
  have HB := Lib.hid q1
  have C2 := Lib.hid fun w h => c7_Decode q A c w (by omega) h q2 q4 hm
  have e3 : decR q = ([], (decR q).2.1, (decR q).2.2) := Prod.ext (decR_no hs) rfl
  rw [e3] at C2
  have m0 : ((decR q).2.2 != 0) = true := by unfold bne; rw [beq_false_of_ne hs]; rfl
  clear hs e3
  have S := Lib.hid l7_shown
  generalize (decR q).2.1 = da at *
  generalize (decR q).2.2 = dr at *
  clear q1 q2 q4
  have HQ := Lib.hid q0
  clear q0
  unfold maxLen at hm
  by_cases hbig : b.length ≤ 4200
  · have e1 : q.length = b.length := by rw [HQ.out]; exact Nat.min_eq_right hbig
    rw [e1] at C2
    clear HQ e1
    generalize b.length = m at *
    have g1 : (m : Int) ≤ 4200 := by omega
    have g2 : min (m : Int) 4200 = m := by omega
    have g3 : (0 : Int) ≤ m := by omega
    clear q3 hbig
    go_enter Try.func10, Try.ntmps10
    go_wp2_with fail
    refine (S.out _).mono ?_
    rintro e w4 ⟨rfl, b4⟩
    have V := Lib.hid b4
    clear b4
    go_wp2_with fail
    refine (C2.out _ (HB.out.after V.out)).mono ?_
    rintro e w8 ⟨A1, c1, rfl, h8, _, _, b8⟩
    replace V := Lib.hid (below_next' V.out b8)
    clear b8 h8
    simp only [List.length_nil] at *
    go_wp2_with fail
    go_ret
    exact ⟨rfl, V.out⟩
  · have e1 : q.length = 4200 := by rw [HQ.out]; exact Nat.min_eq_left (by omega)
    rw [e1] at C2
    clear HQ e1
    generalize b.length = m at *
    have g1 : (4200 : Int) < m := by omega
    have g2 : min (m : Int) 4200 = 4200 := by omega
    have g3 : (0 : Int) ≤ m := by omega
    clear q3 hbig
    go_enter Try.func10, Try.ntmps10
    go_wp2_with fail
    refine (S.out _).mono ?_
    rintro e w4 ⟨rfl, b4⟩
    have V := Lib.hid b4
    clear b4
    go_wp2_with fail
    refine (C2.out _ (HB.out.after V.out)).mono ?_
    rintro e w8 ⟨A1, c1, rfl, h8, _, _, b8⟩
    replace V := Lib.hid (below_next' V.out b8)
    clear b8 h8
    simp only [List.length_nil] at *
    go_wp2_with fail
    go_ret
    exact ⟨rfl, V.out⟩

set_option maxRecDepth 100000 in
set_option maxHeartbeats 4000000 in
theorem l7_CodeLong_yes (b : List Int) (A : Option Addr) (c : Nat) (w : World) (hc : b.length ≤ c) (hm : c ≤ maxLen) (q : List Int) (q0 : q.length = min 4200 b.length) (q1 : BytS w A q) (q2 : OkB q) (q3 : q.length ≤ 4200) (q4 : q.length ≤ c) (hs : (decR q).2.2 = 0) : Calls Try.prog 10 #[.slice A b.length c] w (Fine w) := by
  have HB := Lib.hid q1
  have C2 := Lib.hid fun w h => c7_Decode q A c w (by omega) h q2 q4 hm
  obtain ⟨r1, r2, r3, r4, r5⟩ := decR_ok q2 hs
  have e3 : decR q = (decL q, 0, 0) := Prod.ext r1 (Prod.ext r2 hs)
  rw [e3] at C2
  have e8 : 8 * (decL q).length = q.length := by rw [decL_len]; omega
  have HX : Hid (OkAll (decL q)) := Lib.hid fun k hk => decL_ok q2 k hk
  have HR := Lib.hid r4
  clear hs e3 r1 r2 r3 r5 r4
  have S := Lib.hid l7_shown
  generalize decL q = x at *
  obtain ⟨hpos, hle⟩ := fits_len (chk_ok HR.out).1
  have S1 := Lib.hid fun A c w h => c7_Starts x A c w (by omega) h
  have N1 := Lib.hid fun A c i w h => c7_Next x A c i w (by omega) h
  have KW : Hid (∀ j, j < x.length → stAt x j = true → wOk (iAt x j) = true) := Lib.hid fun j hj hs => whole_ok ((chk_ok HR.out).2.1 j hj hs)
  have NI : Hid (∀ j, j < x.length → nextOf x j = (nxt x j : Nat)) := Lib.hid fun j hj => nextOf_in hj
  have HW : Hid (∀ j, j < x.length → ∀ w, Calls Try.prog 12 #[iV (iAt x j)] w (Gives (.tuple #[whV (wOf (iAt x j)), .bool (wOk (iAt x j))]) w)) := Lib.hid fun j hj w => c7_What _ (HX.out j hj) w
  have HA : Hid (∀ A w, InsS w A x → ∀ j, j < x.length → ∃ g o, A = some ⟨g, o, none⟩ ∧ g < w.heap.size ∧ InsAt w g (o + j * 5) (iAt x j)) := Lib.hid fun A w h j hj => h.at_ hj
  have hsl := sts_len false x
  have HG : Hid (∀ j, j < x.length → (sts false x)[j]? = some (stAt x j)) := Lib.hid fun j hj => stAt_get hj
  have KI : Hid (∀ k, k < x.length → cn x k = cn x (nxt x k) + 1) := Lib.hid fun k hk => cn_in hk
  have KO : Hid (∀ k, ¬ k < x.length → cn x k = 0) := Lib.hid fun k hk => cn_out hk
  have KB : Hid (∀ k, begins x k → k < x.length → stAt x k = true ∧ begins x (nxt x k)) := Lib.hid fun k hb hk => ⟨begins_at hb hk, (begins_step hb hk).2.1⟩
  have TI : Hid (∀ k, k < x.length → ct x k = ct x (k + 1) + (if stAt x k then 1 else 0)) := Lib.hid fun k hk => ct_in hk
  have TO : Hid (∀ k, ¬ k < x.length → ct x k = 0) := Lib.hid fun k hk => ct_out hk
  have TZ : Hid (ct x 0 = cn x 0) := Lib.hid (ct_zero x)
  have z1 := cn_zero_le x
  have z2 := cn_pos hpos
  have KZ : Hid (cn x 0 = cn x 0 ∧ begins x 0) := Lib.hid ⟨rfl, begins_zero x⟩
  clear HX HR
  generalize hcf : cn x = cf at *
  generalize ct x = tf at *
  generalize begins x = bg at *
  generalize hz : cf 0 = z at *
  clear hcf
  generalize sts false x = sl at *
  have HSL := Lib.hid hsl
  clear hsl q1 q2 q4
  have HQ := Lib.hid q0
  clear q0
  unfold maxLen at hm
  by_cases hbig : b.length ≤ 4200
  · have e1 : q.length = b.length := by rw [HQ.out]; exact Nat.min_eq_right hbig
    rw [e1] at C2
    rw [e1] at e8
    have e8i : 8 * (x.length : Int) = b.length := by omega
    clear e8
    clear HQ e1
    generalize b.length = m at *
    have g1 : (m : Int) ≤ 4200 := by omega
    have g2 : min (m : Int) 4200 = m := by omega
    have g3 : (0 : Int) ≤ m := by omega
    clear q3 hbig
    go_enter Try.func10, Try.ntmps10
    go_wp2_with fail
    refine (S.out _).mono ?_
    rintro e w4 ⟨rfl, b4⟩
    have V := Lib.hid b4
    clear b4
    go_wp2_with fail
    refine (C2.out _ (HB.out.after V.out)).mono ?_
    rintro e w8 ⟨A1, c1, rfl, h8, _, _, b8⟩
    have QI : Hid (Below w.heap.size w w8 ∧ InsS w8 A1 x) := Lib.hid ⟨below_next' V.out b8, h8⟩
    clear b8 h8 V C2 HB
    simp only at *
    generalize x.length = n at *
    have hn0 : (0 : Int) < n := by omega
    go_wp2_with fail
    go_loopw [8, 9] (fun nv iv wr => ∃ k t : Nat, iv = .int .i64 k ∧ nv = .int .i64 t ∧ Hid (t + cf k = z ∧ bg k) ∧ Hid (Below w.heap.size w wr ∧ InsS wr A1 x)) (fun nv iv wr => n - (intOf iv).toNat)
    case atStart => exact ⟨0, 0, rfl, rfl, Lib.hid ⟨by have := KZ.out.1; omega, KZ.out.2⟩, QI⟩
    case round =>
      clear QI
      obtain ⟨k, t, rfl, rfl, HT, Q⟩ := hrel
      have k0 : (0 : Int) ≤ k := by omega
      by_cases hlt : (k : Int) < n
      · have hkn : k < n := by omega
        have u1 : t + 1 ≤ z := by have a := HT.out.1; rw [KI.out k hkn] at a; omega
        have u2 : (t : Int) ≤ n := by omega
        obtain ⟨u3, u4⟩ := KB.out k HT.out.2 hkn
        have u5 : t + 1 + cf (nxt x k) = z := by have a := HT.out.1; rw [KI.out k hkn] at a; omega
        have HT2 : Hid (t + 1 + cf (nxt x k) = z ∧ bg (nxt x k)) := Lib.hid ⟨u5, u4⟩
        have k1 := KW.out k hkn u3
        have CW := Lib.hid (HW.out k hkn)
        rw [k1] at CW
        have NN := Lib.hid (N1.out A1 c1 k)
        rw [NI.out k hkn] at NN
        have NL := nxt_lt x k
        obtain ⟨gi, oi, hA, hgi, hcell⟩ := HA.out A1 _ Q.out.2 k hkn
        have HCL := Lib.hid hcell
        clear hcell u3 u4 u5 k1 HT KZ KI KO KB KW HW N1 NI HA S1 TI TO HSL HG TZ
        generalize nxt x k = q' at *
        generalize wOf (iAt x k) = v at *
        generalize iAt x k = y at *
        have u6 : t + 1 ≤ 512 := by omega
        subst hA
        obtain ⟨e0, e1, e2, e3, e4⟩ := HCL.out
        go_wp2_with fail
        clear e0 e1 e2 e3 e4
        refine (CW.out _).mono ?_
        rintro e w9 ⟨rfl, b9⟩
        have Q2 : Hid (Below w.heap.size w (w9.alloc (.cells (whCells v) 26)) ∧ InsS (w9.alloc (.cells (whCells v) 26)) (some ⟨gi, oi, none⟩) x) := Lib.hid ⟨below_alloc (below_next' Q.out.1 b9) _, (Q.out.2.after b9).after (below_alloc (Below.refl _ _) _)⟩
        clear b9 Q
        go_wp2_with fail
        generalize w9.alloc (.cells (whCells v) 26) = wa at *
        refine (NN.out _ Q2.out.2).mono ?_
        rintro e w10 ⟨rfl, b10⟩
        have Q3 : Hid (Below w.heap.size w w10 ∧ InsS w10 (some ⟨gi, oi, none⟩) x) := Lib.hid ⟨below_next' Q2.out.1 b10, Q2.out.2.after b10⟩
        clear b10 Q2
        go_wp2_with fail
        go_round
        case rel => exact ⟨q', t + 1, rfl, by go_num, HT2, Q3⟩
        case measure => simp [intOf]; omega
      · have ht : t = z := by have a := HT.out.1; rw [KO.out k (by omega)] at a; omega
        subst ht
        clear HT KI KO KB KW HW N1 NI HA
        have S2 := Lib.hid (S1.out A1 c1)
        clear S1
        go_wp2_with fail
        refine (S2.out _ Q.out.2).mono ?_
        rintro e w11 ⟨ga, rfl, _, hba, b11⟩
        have Q2 : Hid (Below w.heap.size w w11 ∧ bB ga sl w11) := Lib.hid ⟨below_next' Q.out.1 b11, hba⟩
        clear b11 hba Q
        rw [HSL.out]
        go_wp2_with fail
        go_loopw [12, 67] (fun sv jv wr => ∃ j s : Nat, jv = .int .i64 j ∧ sv = .int .i64 s ∧ j ≤ n ∧ Hid (s + tf j = t) ∧ Hid (Below w.heap.size w wr ∧ bB ga sl wr)) (fun sv jv wr => n - (intOf jv).toNat)
        case atStart => exact ⟨0, 0, rfl, rfl, by omega, Lib.hid (by have := TZ.out; omega), Q2⟩
        case round =>
          clear Q2
          obtain ⟨j, s, rfl, rfl, hj, HT, Q⟩ := hrel
          have j0 : (0 : Int) ≤ j := by omega
          by_cases hlt2 : (j : Int) < n
          · have hjn : j < n := by omega
            have c0 := Q.out.2.cell (HG.out j hjn)
            have KT := Lib.hid (TI.out j hjn)
            clear TI TO HG TZ KZ
            have us : s ≤ 512 := by have := HT.out; omega
            generalize stAt x j = b0 at *
            cases b0
            · have HT2 : Hid (s + tf (j + 1) = t) := Lib.hid (by have a := HT.out; rw [KT.out] at a; simpa using a)
              clear HT KT
              go_wp2_with fail
              go_round
              case rel => exact ⟨j + 1, s, by go_num, rfl, by omega, HT2, Q⟩
              case measure => simp [intOf]; omega
            · have HT2 : Hid (s + 1 + tf (j + 1) = t) := Lib.hid (by have a := HT.out; rw [KT.out] at a; simp at a; omega)
              clear HT KT
              go_wp2_with fail
              go_round
              case rel => exact ⟨j + 1, s + 1, by go_num, by go_num, by omega, HT2, Q⟩
              case measure => simp [intOf]; omega
          · have hs : s = t := by have a := HT.out; rw [TO.out j (by omega)] at a; omega
            subst hs
            have s1 : (1 : Int) ≤ s := by omega
            clear HT
            go_wp2_with fail
            go_ret
            exact ⟨rfl, Q.out.1⟩
  · have e1 : q.length = 4200 := by rw [HQ.out]; exact Nat.min_eq_left (by omega)
    rw [e1] at C2
    rw [e1] at e8
    have e8i : 8 * (x.length : Int) = 4200 := by omega
    clear e8
    clear HQ e1
    generalize b.length = m at *
    have g1 : (4200 : Int) < m := by omega
    have g2 : min (m : Int) 4200 = 4200 := by omega
    have g3 : (0 : Int) ≤ m := by omega
    exact absurd e8i (by omega)

theorem l7_CodeLong (b : List Int) (A : Option Addr) (c : Nat) (w : World) (h : BytS w A b) (hb : OkB b) (hc : b.length ≤ c) (hm : c ≤ maxLen) : Calls Try.prog 10 #[.slice A b.length c] w (Fine w) := by
  obtain ⟨q, q0, q1, q2, q3, q4⟩ := few_bytes h hb hc
  by_cases hs : (decR q).2.2 = 0
  · exact l7_CodeLong_yes b A c w hc hm q q0 q1 q2 q3 q4 hs
  · exact l7_CodeLong_no b A c w hc hm q q0 q1 q2 q3 q4 hs

end Go.Proofs.Ytplndcjmbgkcjaa
