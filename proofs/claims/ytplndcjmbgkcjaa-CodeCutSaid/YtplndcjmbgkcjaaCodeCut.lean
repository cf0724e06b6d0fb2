/-
  P7.2, P7.4: of a program with a part of an instruction behind it nothing is decoded; with a byte changed it is another one, or none: the walk of the statement CodeCut.
  Conditions: none beyond the row's own.
-/
import Derived.Test.YtplndcjmbgkcjaaCodeShown
import Derived.Test.YtplndcjmbgkcjaaCodeCutM
import Derived.Test.YtplndcjmbgkcjaaZeros
import Derived.Test.YtplndcjmbgkcjaaCodeBytes
import Derived.LoopTactic
import Derived.Laws.BitsAllLaws
namespace Go.Proofs.Ytplndcjmbgkcjaa
open Go.RowKit
set_option linter.unusedVariables false
set_option linter.unusedSimpArgs false

set_option maxRecDepth 100000 in
set_option maxHeartbeats 4000000 in
theorem l7_CodeCut_no (l : List Ins) (A : Option Addr) (c : Nat) (w : World) (h : InsS w A l) (hx : OkAll l) (hc : l.length ≤ c) (hm : c ≤ maxLen) (mo by_ at_ : Int) (hmo : 0 ≤ mo ∧ mo ≤ 255) (hby : 0 ≤ by_ ∧ by_ ≤ 255) (hat : 0 ≤ at_ ∧ at_ ≤ 65535) (hr : ¬ (chk (fewL l)).2 = 0) : Calls Try.prog 9 #[.slice A l.length c, .int .u8 mo, .int .u8 by_, .int .u16 at_] w (Fine w) := by
  have FE := Lib.hid fun w => l7_few l A c w hc hm
  have HI := Lib.hid (few_ins h)
  have HX := Lib.hid (few_ok hx)
  have HL := Lib.hid (few_len l)
  clear h hx hc hm
  generalize fewL l = x at *
  have S := Lib.hid l7_shown
  have C3 := Lib.hid fun w h => c7_Encode x A c w (by have := HL.out; omega) (by have := HL.out; omega) h HX.out
  have e1 : encR x = ([], (chk x).1, (chk x).2) := by unfold encR; rw [if_neg hr]
  rw [e1] at C3
  have n0 : ((chk x).2 != 0) = true := by unfold bne; rw [beq_false_of_ne hr]; rfl
  clear hr e1
  generalize (chk x).1 = ka at *
  generalize (chk x).2 = kr at *
  generalize l.length = nl at *
  go_enter Try.func9, Try.ntmps9
  go_wp2_with fail
  refine (S.out _).mono ?_
  rintro e w4 ⟨rfl, b4⟩
  have V := Lib.hid b4
  clear b4
  go_wp2_with fail
  refine (FE.out _).mono ?_
  rintro e w5 ⟨rfl, b5⟩
  replace V := Lib.hid (below_next' V.out b5)
  clear b5
  go_wp2_with fail
  refine (C3.out _ (HI.out.after V.out)).mono ?_
  rintro e w6 ⟨A1, c1, rfl, h6, k1, k2, b6⟩
  replace V := Lib.hid (below_next' V.out b6)
  clear b6 h6 k1 k2
  simp only [List.length_nil] at *
  go_wp2_with fail
  go_ret
  exact ⟨rfl, V.out⟩

theorem nat_xor_self (a b : Nat) : ((a ^^^ b) == a) = (b == 0) := by
  by_cases h : b = 0
  · subst h; simp
  · rw [beq_false_of_ne h, beq_false_of_ne]
    intro e
    apply h
    have e2 : a ^^^ (a ^^^ b) = a ^^^ a := by rw [e]
    rwa [← Nat.xor_assoc, Nat.xor_self, Nat.zero_xor] at e2
theorem u8_xor_same (a b : Int) (ha : 0 ≤ a ∧ a ≤ 255) (hb : 0 ≤ b ∧ b ≤ 255) : (0 ≤ bits .xor .u8 a b ∧ bits .xor .u8 a b ≤ 255) ∧ (bits .xor .u8 a b == a) = (b == 0) := by
  rw [u8_xor a b ha.1 (by omega) hb.1 (by omega)]
  have hlt := Nat.xor_lt_two_pow (n := 8) (x := a.toNat) (y := b.toNat) (by omega) (by omega)
  refine ⟨by omega, ?_⟩
  have h := nat_xor_self a.toNat b.toNat
  have e1 : (((a.toNat ^^^ b.toNat : Nat) : Int) == a) = ((a.toNat ^^^ b.toNat) == a.toNat) := by
    by_cases he : (a.toNat ^^^ b.toNat) = a.toNat
    · rw [beq_iff_eq.mpr he, beq_iff_eq]; omega
    · rw [beq_false_of_ne he, beq_false_of_ne]; omega
  have e2 : (b == 0) = (b.toNat == 0) := by
    by_cases he : b = 0
    · subst he; rfl
    · rw [beq_false_of_ne he, beq_false_of_ne]; omega
  rw [e1, e2, h]

set_option maxRecDepth 100000 in
set_option maxHeartbeats 4000000 in
theorem l7_CodeCut_q (l : List Ins) (A : Option Addr) (c : Nat) (w : World) (h : InsS w A l) (hx : OkAll l) (hc : l.length ≤ c) (hm : c ≤ maxLen) (mo by_ at_ : Int) (hmo : 0 ≤ mo ∧ mo ≤ 255) (hby : 0 ≤ by_ ∧ by_ ≤ 255) (hat : 0 ≤ at_ ∧ at_ ≤ 65535) (hr : (chk (fewL l)).2 = 0) (j k : Nat) (hj : j < (encL (fewL l)).length) (hjm : at_ % ((encL (fewL l)).length : Int) = j) (hk : mo % 7 = k) (v : Int) (hv : bits .xor .u8 (bAt (encL (fewL l)) j) by_ = v) (hs : ¬ (decR ((encL (fewL l)).set j v)).2.2 = 0) : Calls Try.prog 9 #[.slice A l.length c, .int .u8 mo, .int .u8 by_, .int .u16 at_] w (Fine w) := by
  have FE := Lib.hid fun w => l7_few l A c w hc hm
  have HI := Lib.hid (few_ins h)
  have HX := Lib.hid (few_ok hx)
  have HL := Lib.hid (few_len l)
  clear h hx hc hm
  generalize fewL l = x at *
  have S := Lib.hid l7_shown
  have C3 := Lib.hid fun w h => c7_Encode x A c w (by have := HL.out; omega) (by have := HL.out; omega) h HX.out
  have e1 : encR x = (encL x, 0, 0) := by unfold encR; rw [if_pos hr]
  rw [e1] at C3
  obtain ⟨hf, hf2⟩ := fits_len (chk_ok hr).1
  have hel := encL_len x
  have HOK := Lib.hid (encL_ok HX.out (chk_regs hr))
  have hxs := u8_xor_same (bAt (encL x) j) by_ (HOK.out j hj) hby
  rw [hv] at hxs
  have HOS := Lib.hid (okB_set HOK.out hj hxs.1)
  have HD1 : Hid (decR (encL x ++ List.replicate (k + 1) 0) = ([], 0, 70)) := Lib.hid (decR_part (by rw [List.length_append, List.length_replicate]; omega))
  have ed : decR ((encL x).set j v) = ([], (decR ((encL x).set j v)).2.1, (decR ((encL x).set j v)).2.2) := Prod.ext (decR_no hs) rfl
  have m0 : ((decR ((encL x).set j v)).2.2 != 0) = true := by unfold bne; rw [beq_false_of_ne hs]; rfl
  have m1 : ((decR ((encL x).set j v)).2.2 == 0) = false := beq_false_of_ne hs
  have D2 := Lib.hid fun A c w h h1 h2 => c7_Decode ((encL x).set j v) A c w (by rw [List.length_set]; omega) h HOS.out h1 h2
  rw [ed] at D2
  generalize (decR ((encL x).set j v)).2.1 = da at *
  generalize (decR ((encL x).set j v)).2.2 = dr at *
  clear ed
  have D1 := Lib.hid fun A c w h h1 h2 => c7_Decode (encL x ++ List.replicate (k + 1) 0) A c w (by rw [List.length_append, List.length_replicate]; omega) h (okB_app HOK.out (okB_zeros _)) h1 h2
  rw [HD1.out] at D1
  clear hs hr e1 HD1 hxs HOS HOK
  have EL1 : (encL x ++ List.replicate (k + 1) 0).length = (encL x).length + (k + 1) := by rw [List.length_append, List.length_replicate]
  have EL2 : ((encL x).set j v).length = (encL x).length := List.length_set
  rw [EL1] at D1
  rw [EL2] at D2
  clear EL1 EL2
  obtain ⟨i0, hi, hz, h1, h2⟩ := info_parts (show (Try.prog.info? 5).map (fun i => (i.zero, i.size, i.bytes)) = some (some (.int .u8 0), 1, 1) by kernel_rfl)
  have HINF := Lib.hid (And.intro hi (And.intro hz (And.intro h1 h2)))
  clear hi hz h1 h2
  have B1 := Lib.hid (byC_one (encL x))
  have BL := Lib.hid (byC_len (encL x))
  have BS := Lib.hid (byC_set (encL x) j v)
  have BZ : Hid (byC (encL x) ++ List.replicate (k + 1) (.int .u8 0) = byC (encL x ++ List.replicate (k + 1) 0)) := Lib.hid (by rw [byC_app, byC_zeros])
  have BA := Lib.hid (byC_at (encL x) hj)
  have OBL : Hid (∀ (A : Option Addr) (c : Nat) (w : World) base, w.ownsRow base 5 1 (.slice A (encL x).length c) (encL x).length (byC ((encL x).set j v)) → BytS w A ((encL x).set j v)) := Lib.hid fun A c w base h => own_bytS (by rw [List.length_set]) h
  have OZL : Hid (∀ (A : Option Addr) (c : Nat) (w : World) base, w.ownsRow base 5 1 (.slice A ((encL x).length + (k + 1)) c) ((encL x).length + (k + 1)) (byC (encL x ++ List.replicate (k + 1) 0)) → BytS w A (encL x ++ List.replicate (k + 1) 0)) := Lib.hid fun A c w base h => own_bytS (by rw [List.length_append, List.length_replicate]) h
  have hm1 : 0 < (encL x).length := by omega
  have hm2 : (encL x).length ≤ 4096 := by omega
  generalize encL x = eb at *
  generalize hebl : eb.length = m at *
  have HEB := Lib.hid hebl
  clear hebl hel
  generalize hbz : bAt eb j = z0 at *
  clear hbz
  have hk6 : k ≤ 6 := by omega
  have mne : ((m : Int) == 0) = false := beq_false_of_ne (by omega)
  have mne2 : ¬ (m : Int) = 0 := by omega
  generalize l.length = nl at *
  go_enter Try.func9, Try.ntmps9
  go_wp2_with fail
  refine (S.out _).mono ?_
  rintro e w4 ⟨rfl, b4⟩
  have V := Lib.hid b4
  clear b4
  go_wp2_with fail
  refine (FE.out _).mono ?_
  rintro e w5 ⟨rfl, b5⟩
  replace V := Lib.hid (below_next' V.out b5)
  clear b5
  go_wp2_with fail
  refine (C3.out _ (HI.out.after V.out)).mono ?_
  rintro e w6 ⟨A1, c1, rfl, h6, k1, k2, b6⟩
  replace V := Lib.hid (below_next' V.out b6)
  simp only at *
  rw [HEB.out]
  obtain ⟨g1, o1, rfl, hg1, hcell⟩ := h6 (by rw [HEB.out]; omega)
  have HB : Hid (BytAt w6 g1 o1 eb) := Lib.hid ⟨hg1, hcell⟩
  clear b6 h6 k1 k2 hcell hg1
  have OWN0 : Hid ((w6.alloc (.cells #[] 5)).ownsRow w6.heap.size 5 1 (.slice (some ⟨w6.heap.size, 0, none⟩) 0 0) 0 []) := Lib.hid (World.ownsRow_made w6 #[] 0 (Nat.le_refl _) (Nat.zero_le _) rfl)
  have R0 : Hid (Below w6.heap.size w6 (w6.alloc (.cells #[] 5))) := Lib.hid (below_alloc (Below.refl _ _) _)
  have NEW0 := Lib.hid (byt_news (HB.out.after R0.out))
  go_wp2_with ((at_builtin; refine wpList_append_own _ rfl (.tmp 41) (.tmp 42) _ rfl w6.heap.size 5 i0 (.int .u8 0) 1 1 Try.underlying36 HINF.out.1 HINF.out.2.1 HINF.out.2.2.1 HINF.out.2.2.2 rfl (by omega) _ 0 [] rfl OWN0.out ⟨g1, o1, none⟩ m c1 (byC eb) rfl (by rw [BL.out]; omega) NEW0.out B1.out (by unfold maxLen; omega) (by omega) R0.out.size ?_))
  intro v7 w7 hown hgr hn1
  have R := Lib.hid (below_own R0.out OWN0.out R0.out.size hgr)
  clear OWN0 R0 NEW0 hgr hn1
  obtain ⟨v8, w8, hz, hown8, hgr8⟩ := zeros_own (P := Try.prog) w7 w6.heap.size 36 3 36 5 i0 (.int .u8 0) (.int .u8 0) .i64 .i64 Try.underlying36 Try.underlying3 HINF.out.1 HINF.out.2.1 HINF.out.2.2.1 HINF.out.2.2.2 rfl rfl v7 m (byC eb) hown hm1 (k + 1) (by omega) (by omega) R.out.size
  rw [show ((k + 1 : Nat) : Int) = (k : Int) + 1 by omega] at hz
  replace R := Lib.hid (below_own R.out hown R.out.size hgr8)
  rw [BZ.out] at hown8
  obtain ⟨A8, c8, rfl, k81, k82⟩ := own_slice hown8
  have H8 := Lib.hid (OZL.out A8 c8 _ _ hown8)
  have K8 := Lib.hid (And.intro k81 k82)
  clear hown hown8 hgr8 k81 k82
  go_wp2_with ((at_builtin; refine Lib.wpList_append_run _ rfl (.tmp 43) (.tmp 47) _ _ rfl _ _ rfl rfl _ _ hz ?_))
  clear hz
  refine (D1.out _ _ _ H8.out K8.out.1 K8.out.2).mono ?_
  rintro e w9 ⟨A9, c9, rfl, _, _, _, b9⟩
  replace R := Lib.hid (below_next' R.out b9)
  replace V := Lib.hid (below_next' V.out R.out)
  replace HB := Lib.hid (HB.out.after R.out)
  clear R b9 H8 K8 D1
  simp only [List.length_nil] at *
  have OWN0 : Hid ((w9.alloc (.cells #[] 5)).ownsRow w9.heap.size 5 1 (.slice (some ⟨w9.heap.size, 0, none⟩) 0 0) 0 []) := Lib.hid (World.ownsRow_made w9 #[] 0 (Nat.le_refl _) (Nat.zero_le _) rfl)
  have R0 : Hid (Below w9.heap.size w9 (w9.alloc (.cells #[] 5))) := Lib.hid (below_alloc (Below.refl _ _) _)
  have NEW0 := Lib.hid (byt_news (HB.out.after R0.out))
  go_wp2_with ((at_builtin; refine wpList_append_own _ rfl (.tmp 53) (.tmp 54) _ rfl w9.heap.size 5 i0 (.int .u8 0) 1 1 Try.underlying36 HINF.out.1 HINF.out.2.1 HINF.out.2.2.1 HINF.out.2.2.2 rfl (by omega) _ 0 [] rfl OWN0.out ⟨g1, o1, none⟩ m c1 (byC eb) rfl (by rw [BL.out]; omega) NEW0.out B1.out (by unfold maxLen; omega) (by omega) R0.out.size ?_))
  intro v10 w10 hown hgr hn1
  have R := Lib.hid (below_own R0.out OWN0.out R0.out.size hgr)
  clear OWN0 R0 NEW0 hgr hn1
  obtain ⟨A10, c10, rfl, k1, k2⟩ := own_slice hown
  obtain ⟨g, rfl, hgb, hgl⟩ := own_addr hown hm1
  have hcel := hown.cellAt j (by omega)
  rw [BA.out] at hcel
  have hfr := hown.frozenAt j
  have hst := (hown.stored j (.int .u8 v)).1
  rw [BS.out] at hst
  have R2 : Hid (Below w9.heap.size w9 (w10.setCell ⟨g, j, none⟩ (.int .u8 v))) := Lib.hid (R.out.setCell (p := ⟨g, j, none⟩) hgb _)
  have H10 := Lib.hid (OBL.out _ _ _ _ hst)
  have K10 := Lib.hid (And.intro k1 k2)
  clear hown hst R k1 k2 hgb hgl
  go_wp2_with fail
  refine (D2.out _ _ _ H10.out K10.out.1 K10.out.2).mono ?_
  rintro e w11 ⟨A11, c11, rfl, h11, _, _, b11⟩
  replace V := Lib.hid (below_next' V.out (below_next' R2.out b11))
  have H11 := Lib.hid h11
  clear hcel hfr b11 h11 R2 H10 K10 D2
  simp only [List.length_nil] at *
  go_wp2_with fail
  go_ret
  exact ⟨rfl, V.out⟩

set_option maxRecDepth 100000 in
set_option maxHeartbeats 4000000 in
theorem l7_CodeCut_p (l : List Ins) (A : Option Addr) (c : Nat) (w : World) (h : InsS w A l) (hx : OkAll l) (hc : l.length ≤ c) (hm : c ≤ maxLen) (mo by_ at_ : Int) (hmo : 0 ≤ mo ∧ mo ≤ 255) (hby : 0 ≤ by_ ∧ by_ ≤ 255) (hat : 0 ≤ at_ ∧ at_ ≤ 65535) (hr : (chk (fewL l)).2 = 0) (j k : Nat) (hj : j < (encL (fewL l)).length) (hjm : at_ % ((encL (fewL l)).length : Int) = j) (hk : mo % 7 = k) (v : Int) (hv : bits .xor .u8 (bAt (encL (fewL l)) j) by_ = v) (hs : (decR ((encL (fewL l)).set j v)).2.2 = 0) : Calls Try.prog 9 #[.slice A l.length c, .int .u8 mo, .int .u8 by_, .int .u16 at_] w (Fine w) := by
  have FE := Lib.hid fun w => l7_few l A c w hc hm
  have HI := Lib.hid (few_ins h)
  have HX := Lib.hid (few_ok hx)
  have HL := Lib.hid (few_len l)
  clear h hx hc hm
  generalize fewL l = x at *
  have S := Lib.hid l7_shown
  have C3 := Lib.hid fun w h => c7_Encode x A c w (by have := HL.out; omega) (by have := HL.out; omega) h HX.out
  have e1 : encR x = (encL x, 0, 0) := by unfold encR; rw [if_pos hr]
  rw [e1] at C3
  obtain ⟨hf, hf2⟩ := fits_len (chk_ok hr).1
  have hel := encL_len x
  have HOK := Lib.hid (encL_ok HX.out (chk_regs hr))
  have hxs := u8_xor_same (bAt (encL x) j) by_ (HOK.out j hj) hby
  rw [hv] at hxs
  have HOS := Lib.hid (okB_set HOK.out hj hxs.1)
  have HD1 : Hid (decR (encL x ++ List.replicate (k + 1) 0) = ([], 0, 70)) := Lib.hid (decR_part (by rw [List.length_append, List.length_replicate]; omega))
  have SB := cut_set HX.out hr hj hxs.1 hs
  rw [hxs.2] at SB
  have m0 : (decR ((encL x).set j v)).2.2 = 0 := hs
  have ed : decR ((encL x).set j v) = ((decR ((encL x).set j v)).1, 0, 0) := Prod.ext rfl (Prod.ext (decR_ok HOS.out hs).2.1 hs)
  have HDL : Hid ((decR ((encL x).set j v)).1.length ≤ 100000) := Lib.hid (decR_len _ (by rw [List.length_set]; omega))
  have D2 := Lib.hid fun A c w h h1 h2 => c7_Decode ((encL x).set j v) A c w (by rw [List.length_set]; omega) h HOS.out h1 h2
  rw [ed] at D2
  generalize (decR ((encL x).set j v)).1 = dl at *
  have SM : Hid (∀ A B c d w, InsS w A dl → InsS w B x → Calls Try.prog 22 #[.slice A dl.length c, .slice B x.length d] w (Gives (.bool (by_ == 0)) w)) := Lib.hid fun A B c d w h h' => by
    have := r7_Same dl x A B c d w HDL.out (by have := HL.out; omega) h h'
    rw [SB] at this
    exact this
  clear SB m0 ed
  have D1 := Lib.hid fun A c w h h1 h2 => c7_Decode (encL x ++ List.replicate (k + 1) 0) A c w (by rw [List.length_append, List.length_replicate]; omega) h (okB_app HOK.out (okB_zeros _)) h1 h2
  rw [HD1.out] at D1
  clear hs hr e1 HD1 hxs HOS HOK
  have EL1 : (encL x ++ List.replicate (k + 1) 0).length = (encL x).length + (k + 1) := by rw [List.length_append, List.length_replicate]
  have EL2 : ((encL x).set j v).length = (encL x).length := List.length_set
  rw [EL1] at D1
  rw [EL2] at D2
  clear EL1 EL2
  obtain ⟨i0, hi, hz, h1, h2⟩ := info_parts (show (Try.prog.info? 5).map (fun i => (i.zero, i.size, i.bytes)) = some (some (.int .u8 0), 1, 1) by kernel_rfl)
  have HINF := Lib.hid (And.intro hi (And.intro hz (And.intro h1 h2)))
  clear hi hz h1 h2
  have B1 := Lib.hid (byC_one (encL x))
  have BL := Lib.hid (byC_len (encL x))
  have BS := Lib.hid (byC_set (encL x) j v)
  have BZ : Hid (byC (encL x) ++ List.replicate (k + 1) (.int .u8 0) = byC (encL x ++ List.replicate (k + 1) 0)) := Lib.hid (by rw [byC_app, byC_zeros])
  have BA := Lib.hid (byC_at (encL x) hj)
  have OBL : Hid (∀ (A : Option Addr) (c : Nat) (w : World) base, w.ownsRow base 5 1 (.slice A (encL x).length c) (encL x).length (byC ((encL x).set j v)) → BytS w A ((encL x).set j v)) := Lib.hid fun A c w base h => own_bytS (by rw [List.length_set]) h
  have OZL : Hid (∀ (A : Option Addr) (c : Nat) (w : World) base, w.ownsRow base 5 1 (.slice A ((encL x).length + (k + 1)) c) ((encL x).length + (k + 1)) (byC (encL x ++ List.replicate (k + 1) 0)) → BytS w A (encL x ++ List.replicate (k + 1) 0)) := Lib.hid fun A c w base h => own_bytS (by rw [List.length_append, List.length_replicate]) h
  have hm1 : 0 < (encL x).length := by omega
  have hm2 : (encL x).length ≤ 4096 := by omega
  generalize encL x = eb at *
  generalize hebl : eb.length = m at *
  have HEB := Lib.hid hebl
  clear hebl hel
  generalize hbz : bAt eb j = z0 at *
  clear hbz
  have hk6 : k ≤ 6 := by omega
  have mne : ((m : Int) == 0) = false := beq_false_of_ne (by omega)
  have mne2 : ¬ (m : Int) = 0 := by omega
  generalize l.length = nl at *
  go_enter Try.func9, Try.ntmps9
  go_wp2_with fail
  refine (S.out _).mono ?_
  rintro e w4 ⟨rfl, b4⟩
  have V := Lib.hid b4
  clear b4
  go_wp2_with fail
  refine (FE.out _).mono ?_
  rintro e w5 ⟨rfl, b5⟩
  replace V := Lib.hid (below_next' V.out b5)
  clear b5
  go_wp2_with fail
  refine (C3.out _ (HI.out.after V.out)).mono ?_
  rintro e w6 ⟨A1, c1, rfl, h6, k1, k2, b6⟩
  replace V := Lib.hid (below_next' V.out b6)
  simp only at *
  rw [HEB.out]
  obtain ⟨g1, o1, rfl, hg1, hcell⟩ := h6 (by rw [HEB.out]; omega)
  have HB : Hid (BytAt w6 g1 o1 eb) := Lib.hid ⟨hg1, hcell⟩
  clear b6 h6 k1 k2 hcell hg1
  have OWN0 : Hid ((w6.alloc (.cells #[] 5)).ownsRow w6.heap.size 5 1 (.slice (some ⟨w6.heap.size, 0, none⟩) 0 0) 0 []) := Lib.hid (World.ownsRow_made w6 #[] 0 (Nat.le_refl _) (Nat.zero_le _) rfl)
  have R0 : Hid (Below w6.heap.size w6 (w6.alloc (.cells #[] 5))) := Lib.hid (below_alloc (Below.refl _ _) _)
  have NEW0 := Lib.hid (byt_news (HB.out.after R0.out))
  go_wp2_with ((at_builtin; refine wpList_append_own _ rfl (.tmp 41) (.tmp 42) _ rfl w6.heap.size 5 i0 (.int .u8 0) 1 1 Try.underlying36 HINF.out.1 HINF.out.2.1 HINF.out.2.2.1 HINF.out.2.2.2 rfl (by omega) _ 0 [] rfl OWN0.out ⟨g1, o1, none⟩ m c1 (byC eb) rfl (by rw [BL.out]; omega) NEW0.out B1.out (by unfold maxLen; omega) (by omega) R0.out.size ?_))
  intro v7 w7 hown hgr hn1
  have R := Lib.hid (below_own R0.out OWN0.out R0.out.size hgr)
  clear OWN0 R0 NEW0 hgr hn1
  obtain ⟨v8, w8, hz, hown8, hgr8⟩ := zeros_own (P := Try.prog) w7 w6.heap.size 36 3 36 5 i0 (.int .u8 0) (.int .u8 0) .i64 .i64 Try.underlying36 Try.underlying3 HINF.out.1 HINF.out.2.1 HINF.out.2.2.1 HINF.out.2.2.2 rfl rfl v7 m (byC eb) hown hm1 (k + 1) (by omega) (by omega) R.out.size
  rw [show ((k + 1 : Nat) : Int) = (k : Int) + 1 by omega] at hz
  replace R := Lib.hid (below_own R.out hown R.out.size hgr8)
  rw [BZ.out] at hown8
  obtain ⟨A8, c8, rfl, k81, k82⟩ := own_slice hown8
  have H8 := Lib.hid (OZL.out A8 c8 _ _ hown8)
  have K8 := Lib.hid (And.intro k81 k82)
  clear hown hown8 hgr8 k81 k82
  go_wp2_with ((at_builtin; refine Lib.wpList_append_run _ rfl (.tmp 43) (.tmp 47) _ _ rfl _ _ rfl rfl _ _ hz ?_))
  clear hz
  refine (D1.out _ _ _ H8.out K8.out.1 K8.out.2).mono ?_
  rintro e w9 ⟨A9, c9, rfl, _, _, _, b9⟩
  replace R := Lib.hid (below_next' R.out b9)
  replace V := Lib.hid (below_next' V.out R.out)
  replace HB := Lib.hid (HB.out.after R.out)
  clear R b9 H8 K8 D1
  simp only [List.length_nil] at *
  have OWN0 : Hid ((w9.alloc (.cells #[] 5)).ownsRow w9.heap.size 5 1 (.slice (some ⟨w9.heap.size, 0, none⟩) 0 0) 0 []) := Lib.hid (World.ownsRow_made w9 #[] 0 (Nat.le_refl _) (Nat.zero_le _) rfl)
  have R0 : Hid (Below w9.heap.size w9 (w9.alloc (.cells #[] 5))) := Lib.hid (below_alloc (Below.refl _ _) _)
  have NEW0 := Lib.hid (byt_news (HB.out.after R0.out))
  go_wp2_with ((at_builtin; refine wpList_append_own _ rfl (.tmp 53) (.tmp 54) _ rfl w9.heap.size 5 i0 (.int .u8 0) 1 1 Try.underlying36 HINF.out.1 HINF.out.2.1 HINF.out.2.2.1 HINF.out.2.2.2 rfl (by omega) _ 0 [] rfl OWN0.out ⟨g1, o1, none⟩ m c1 (byC eb) rfl (by rw [BL.out]; omega) NEW0.out B1.out (by unfold maxLen; omega) (by omega) R0.out.size ?_))
  intro v10 w10 hown hgr hn1
  have R := Lib.hid (below_own R0.out OWN0.out R0.out.size hgr)
  clear OWN0 R0 NEW0 hgr hn1
  obtain ⟨A10, c10, rfl, k1, k2⟩ := own_slice hown
  obtain ⟨g, rfl, hgb, hgl⟩ := own_addr hown hm1
  have hcel := hown.cellAt j (by omega)
  rw [BA.out] at hcel
  have hfr := hown.frozenAt j
  have hst := (hown.stored j (.int .u8 v)).1
  rw [BS.out] at hst
  have R2 : Hid (Below w9.heap.size w9 (w10.setCell ⟨g, j, none⟩ (.int .u8 v))) := Lib.hid (R.out.setCell (p := ⟨g, j, none⟩) hgb _)
  have H10 := Lib.hid (OBL.out _ _ _ _ hst)
  have K10 := Lib.hid (And.intro k1 k2)
  clear hown hst R k1 k2 hgb hgl
  go_wp2_with fail
  refine (D2.out _ _ _ H10.out K10.out.1 K10.out.2).mono ?_
  rintro e w11 ⟨A11, c11, rfl, h11, _, _, b11⟩
  replace V := Lib.hid (below_next' V.out (below_next' R2.out b11))
  have H11 := Lib.hid h11
  clear hcel hfr b11 h11 R2 H10 K10 D2
  simp only [List.length_nil] at *
  go_wp2_with fail
  refine (FE.out _).mono ?_
  rintro e w12 ⟨rfl, b12⟩
  replace V := Lib.hid (below_next' V.out b12)
  replace H11 := Lib.hid (H11.out.after b12)
  clear b12
  go_wp2_with fail
  refine (SM.out _ _ _ _ _ H11.out (HI.out.after V.out)).mono ?_
  rintro e w13 ⟨rfl, b13⟩
  replace V := Lib.hid (below_next' V.out b13)
  clear b13
  go_wp2_with fail
  go_ret
  exact ⟨rfl, V.out⟩

theorem l7_CodeCut (l : List Ins) (A : Option Addr) (c : Nat) (w : World) (h : InsS w A l) (hx : OkAll l) (hc : l.length ≤ c) (hm : c ≤ maxLen) (mo by_ at_ : Int) (hmo : 0 ≤ mo ∧ mo ≤ 255) (hby : 0 ≤ by_ ∧ by_ ≤ 255) (hat : 0 ≤ at_ ∧ at_ ≤ 65535) : Calls Try.prog 9 #[.slice A l.length c, .int .u8 mo, .int .u8 by_, .int .u16 at_] w (Fine w) := by
  by_cases hr : (chk (fewL l)).2 = 0
  · have hpos := (fits_len (chk_ok hr).1).1
    have hel := encL_len (fewL l)
    have h1 := Int.emod_nonneg at_ (b := ((encL (fewL l)).length : Int)) (by omega)
    have h2 := Int.emod_lt_of_pos at_ (b := ((encL (fewL l)).length : Int)) (by omega)
    have hjm : at_ % ((encL (fewL l)).length : Int) = ((at_ % ((encL (fewL l)).length : Int)).toNat : Nat) := by omega
    have hj : (at_ % ((encL (fewL l)).length : Int)).toNat < (encL (fewL l)).length := by omega
    have hk : mo % 7 = ((mo % 7).toNat : Nat) := by omega
    by_cases hs : (decR ((encL (fewL l)).set (at_ % ((encL (fewL l)).length : Int)).toNat (bits .xor .u8 (bAt (encL (fewL l)) (at_ % ((encL (fewL l)).length : Int)).toNat) by_))).2.2 = 0
    · exact l7_CodeCut_p l A c w h hx hc hm mo by_ at_ hmo hby hat hr _ _ hj hjm hk _ rfl hs
    · exact l7_CodeCut_q l A c w h hx hc hm mo by_ at_ hmo hby hat hr _ _ hj hjm hk _ rfl hs
  · exact l7_CodeCut_no l A c w h hx hc hm mo by_ at_ hmo hby hat hr

end Go.Proofs.Ytplndcjmbgkcjaa
