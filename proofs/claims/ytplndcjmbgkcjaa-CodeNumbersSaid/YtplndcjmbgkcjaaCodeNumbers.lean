/-
  P7.1, P7.2: the number of an instruction may be any other one: the walk of the statement CodeNumbers.
  Conditions: none beyond the row's own.
-/
import Derived.Test.YtplndcjmbgkcjaaCodeShown
import Derived.Test.YtplndcjmbgkcjaaNumRow
import Derived.Lib.AppendZeros
import Derived.LoopTactic
namespace Go.Proofs.Ytplndcjmbgkcjaa
open Go.RowKit
set_option linter.unusedVariables false
set_option linter.unusedSimpArgs false

set_option maxRecDepth 100000 in
set_option maxHeartbeats 4000000 in
theorem l7_CodeNumbers_none (l : List Ins) (A : Option Addr) (c : Nat) (w : World) (h : InsS w A l) (hx : OkAll l) (hc : l.length ≤ c) (hm : c ≤ maxLen) (at_ nn : Int) (hat : 0 ≤ at_ ∧ at_ ≤ 65535) (hnn : -2147483648 ≤ nn ∧ nn ≤ 2147483647) (he : (fewL l).length = 0) : Calls Try.prog 11 #[.slice A l.length c, .int .u16 at_, .int .i32 nn] w (Fine w) := by
  have FE := Lib.hid fun w => l7_few l A c w hc hm
  have HI := Lib.hid (few_ins h)
  have HX := Lib.hid (few_ok hx)
  have HL := Lib.hid (few_len l)
  clear h hx hc hm
  rw [he] at FE
  have CK : Hid (∀ A c w, Calls Try.prog 16 #[.slice A 0 c] w (Gives (.tuple #[.int .i64 0, .int .i64 70]) w)) := Lib.hid fun A c w => c7_Check [] A c w (by simp) (InsS.none_ _ _) (fun k hk => absurd hk (by simp))
  clear HI HX HL he
  have S := Lib.hid l7_shown
  obtain ⟨i0, hi, hz, h1, h2⟩ := info_parts (show (Try.prog.info? 24).map (fun i => (i.zero, i.size, i.bytes)) = some (some (iV Ins.zero), 5, 12) by kernel_rfl)
  have HINF := Lib.hid (And.intro hi (And.intro hz (And.intro h1 h2)))
  clear hi hz h1 h2
  generalize l.length = nl at *
  go_enter Try.func11, Try.ntmps11
  go_wp2_with fail
  refine (S.out _).mono ?_
  rintro e w4 ⟨rfl, b4⟩
  have V := Lib.hid b4
  have V0 := V
  clear b4
  go_wp2_with fail
  replace V := Lib.hid (below_alloc V.out (.cells #[] 24))
  have OWN := Lib.hid (World.ownsRow_made (base := w.heap.size) (e := 24) (size := 5) w4 #[] 0 V0.out.size (Nat.zero_le _) rfl)
  refine (FE.out _).mono ?_
  rintro e w5 ⟨rfl, b5⟩
  replace OWN := Lib.hid (own_after OWN.out b5)
  replace V := Lib.hid (below_next' V.out b5)
  clear b5 FE V0
  have hz := append_none (P := Try.prog) w5 31 31 24 i0 Try.underlying31 HINF.out.1 w4.heap.size A c
  clear OWN
  go_wp2_with ((at_builtin; refine Lib.wpList_append_run _ rfl (.tmp 20) (.tmp 22) _ _ rfl _ _ rfl rfl _ _ hz ?_))
  refine (CK.out _ _ _).mono ?_
  rintro e w6 ⟨rfl, b6⟩
  replace V := Lib.hid (below_next' V.out b6)
  clear b6 hz
  go_wp2_with fail
  go_ret
  exact ⟨rfl, V.out⟩

set_option maxRecDepth 100000 in
set_option maxHeartbeats 4000000 in
theorem l7_CodeNumbers_no (l : List Ins) (A : Option Addr) (c : Nat) (w : World) (h : InsS w A l) (hx : OkAll l) (hc : l.length ≤ c) (hm : c ≤ maxLen) (at_ nn : Int) (hat : 0 ≤ at_ ∧ at_ ≤ 65535) (hnn : -2147483648 ≤ nn ∧ nn ≤ 2147483647) (hpos : 0 < (fewL l).length) (hr : ¬ (chk (fewL l)).2 = 0) : Calls Try.prog 11 #[.slice A l.length c, .int .u16 at_, .int .i32 nn] w (Fine w) := by
  have FE := Lib.hid fun w => l7_few l A c w hc hm
  have HI := Lib.hid (few_ins h)
  have HX := Lib.hid (few_ok hx)
  have HL := Lib.hid (few_len l)
  clear h hx hc hm
  have hle : (fewL l).length ≤ 520 := HL.out
  generalize fewL l = x at *
  have C1 := Lib.hid fun A c w h => c7_Check x A c w (by have := HL.out; omega) h HX.out
  have n0 : ((chk x).2 != 0) = true := by unfold bne; rw [beq_false_of_ne hr]; rfl
  clear hr
  generalize (chk x).1 = ka at *
  generalize (chk x).2 = kr at *
  have S := Lib.hid l7_shown
  obtain ⟨i0, hi, hz, h1, h2⟩ := info_parts (show (Try.prog.info? 24).map (fun i => (i.zero, i.size, i.bytes)) = some (some (iV Ins.zero), 5, 12) by kernel_rfl)
  have HINF := Lib.hid (And.intro hi (And.intro hz (And.intro h1 h2)))
  clear hi hz h1 h2
  generalize l.length = nl at *
  go_enter Try.func11, Try.ntmps11
  go_wp2_with fail
  refine (S.out _).mono ?_
  rintro e w4 ⟨rfl, b4⟩
  have V := Lib.hid b4
  have V0 := V
  clear b4
  go_wp2_with fail
  replace V := Lib.hid (below_alloc V.out (.cells #[] 24))
  have OWN := Lib.hid (World.ownsRow_made (base := w.heap.size) (e := 24) (size := 5) w4 #[] 0 V0.out.size (Nat.zero_le _) rfl)
  refine (FE.out _).mono ?_
  rintro e w5 ⟨rfl, b5⟩
  replace OWN := Lib.hid (own_after OWN.out b5)
  replace V := Lib.hid (below_next' V.out b5)
  clear b5 FE V0
  obtain ⟨g0, o0, rfl, hg0, hcell⟩ := (HI.out.after V.out) hpos
  have NEWS := Lib.hid (ins_news hcell)
  clear hcell
  have VS := V.out.size
  have ILN : (inC x).length = x.length * 5 := inC_len x
  have hpos' : (0 : Int) < x.length := by omega
  go_wp2_with ((at_builtin; refine wpList_append_own _ rfl (.tmp 20) (.tmp 22) _ rfl w.heap.size 24 i0 (iV Ins.zero) 5 12 Try.underlying31 HINF.out.1 HINF.out.2.1 HINF.out.2.2.1 HINF.out.2.2.2 rfl (by omega) _ 0 [] rfl OWN.out ⟨g0, o0, none⟩ x.length c (inC x) rfl ILN NEWS.out (inC_one x) (by unfold maxLen; omega) (by omega) VS ?_))
  intro v6 w6 hown hgr hn1
  have Q0 : Hid (Below w.heap.size w w6) := Lib.hid (below_own V.out OWN.out VS hgr)
  clear NEWS VS ILN hgr hn1 OWN V hg0
  try rw [Nat.zero_add] at hown
  try rw [List.nil_append] at hown
  obtain ⟨A6, c6, rfl, k1, k2⟩ := own_slice hown
  obtain ⟨q, rfl, hqb, hql⟩ := own_addr hown hpos
  have Q : Hid (Below w.heap.size w w6 ∧ w6.ownsRow w.heap.size 24 5 (.slice (some ⟨q, 0, none⟩) x.length c6) x.length (inC x)) := Lib.hid ⟨Q0.out, hown⟩
  have HQB := Lib.hid hqb
  have HQL := Lib.hid hql
  clear Q0 hown k1 k2 hqb hql
  go_wp2_with fail
  refine (C1.out _ _ _ (own_insS rfl Q.out.2)).mono ?_
  rintro e w7 ⟨rfl, b7⟩
  replace Q := Lib.hid (And.intro (below_next' Q.out.1 b7) (own_after Q.out.2 b7))
  replace HQL := Lib.hid (Nat.lt_of_lt_of_le HQL.out b7.size)
  clear b7
  go_wp2_with fail
  go_ret
  exact ⟨rfl, Q.out.1⟩

set_option maxRecDepth 100000 in
set_option maxHeartbeats 4000000 in
theorem l7_CodeNumbers_st (l : List Ins) (A : Option Addr) (c : Nat) (w : World) (h : InsS w A l) (hx : OkAll l) (hc : l.length ≤ c) (hm : c ≤ maxLen) (at_ nn : Int) (hat : 0 ≤ at_ ∧ at_ ≤ 65535) (hnn : -2147483648 ≤ nn ∧ nn ≤ 2147483647) (hr : (chk (fewL l)).2 = 0) (j : Nat) (hj : j < (fewL l).length) (hjm : at_ % ((fewL l).length : Int) = j) (hst : stAt (fewL l) j = false) : Calls Try.prog 11 #[.slice A l.length c, .int .u16 at_, .int .i32 nn] w (Fine w) := by
  have FE := Lib.hid fun w => l7_few l A c w hc hm
  have HI := Lib.hid (few_ins h)
  have HX := Lib.hid (few_ok hx)
  have HL := Lib.hid (few_len l)
  clear h hx hc hm
  have hle : (fewL l).length ≤ 520 := HL.out
  generalize fewL l = x at *
  have hpos : 0 < x.length := by omega
  have C1 := Lib.hid fun A c w h => c7_Check x A c w (by have := HL.out; omega) h HX.out
  rw [(chk_ok hr).2.2.2.2, hr] at C1
  have hok : wOk (iAt x j) = true ∨ stAt x j = false := by
    cases hs : stAt x j
    · exact Or.inr rfl
    · exact Or.inl (whole_ok ((chk_ok hr).2.1 j hj hs))
  have HW := Lib.hid fun w => c7_What (iAt x j) (HX.out j hj) w
  generalize wOk (iAt x j) = okv at *
  have S1 := Lib.hid fun A c w h => c7_Starts x A c w (by have := HL.out; omega) h
  have hsl := sts_len false x
  have HG : Hid ((sts false x)[j]? = some (stAt x j)) := Lib.hid (stAt_get hj)
  rw [hst] at HG
  generalize sts false x = sl at *
  have HSL := Lib.hid hsl
  clear hsl hst hr hok
  generalize wOf (iAt x j) = v at *
  have S := Lib.hid l7_shown
  obtain ⟨i0, hi, hz, h1, h2⟩ := info_parts (show (Try.prog.info? 24).map (fun i => (i.zero, i.size, i.bytes)) = some (some (iV Ins.zero), 5, 12) by kernel_rfl)
  have HINF := Lib.hid (And.intro hi (And.intro hz (And.intro h1 h2)))
  clear hi hz h1 h2
  generalize l.length = nl at *
  have nne : ((x.length : Int) == 0) = false := beq_false_of_ne (by omega)
  have nne2 : ¬ (x.length : Int) = 0 := by omega
  have hji : (j : Int) < x.length := by omega
  go_enter Try.func11, Try.ntmps11
  go_wp2_with fail
  refine (S.out _).mono ?_
  rintro e w4 ⟨rfl, b4⟩
  have V := Lib.hid b4
  have V0 := V
  clear b4
  go_wp2_with fail
  replace V := Lib.hid (below_alloc V.out (.cells #[] 24))
  have OWN := Lib.hid (World.ownsRow_made (base := w.heap.size) (e := 24) (size := 5) w4 #[] 0 V0.out.size (Nat.zero_le _) rfl)
  refine (FE.out _).mono ?_
  rintro e w5 ⟨rfl, b5⟩
  replace OWN := Lib.hid (own_after OWN.out b5)
  replace V := Lib.hid (below_next' V.out b5)
  clear b5 FE V0
  obtain ⟨g0, o0, rfl, hg0, hcell⟩ := (HI.out.after V.out) hpos
  have NEWS := Lib.hid (ins_news hcell)
  clear hcell
  have VS := V.out.size
  have ILN : (inC x).length = x.length * 5 := inC_len x
  have hpos' : (0 : Int) < x.length := by omega
  go_wp2_with ((at_builtin; refine wpList_append_own _ rfl (.tmp 20) (.tmp 22) _ rfl w.heap.size 24 i0 (iV Ins.zero) 5 12 Try.underlying31 HINF.out.1 HINF.out.2.1 HINF.out.2.2.1 HINF.out.2.2.2 rfl (by omega) _ 0 [] rfl OWN.out ⟨g0, o0, none⟩ x.length c (inC x) rfl ILN NEWS.out (inC_one x) (by unfold maxLen; omega) (by omega) VS ?_))
  intro v6 w6 hown hgr hn1
  have Q0 : Hid (Below w.heap.size w w6) := Lib.hid (below_own V.out OWN.out VS hgr)
  clear NEWS VS ILN hgr hn1 OWN V hg0
  try rw [Nat.zero_add] at hown
  try rw [List.nil_append] at hown
  obtain ⟨A6, c6, rfl, k1, k2⟩ := own_slice hown
  obtain ⟨q, rfl, hqb, hql⟩ := own_addr hown hpos
  have Q : Hid (Below w.heap.size w w6 ∧ w6.ownsRow w.heap.size 24 5 (.slice (some ⟨q, 0, none⟩) x.length c6) x.length (inC x)) := Lib.hid ⟨Q0.out, hown⟩
  have HQB := Lib.hid hqb
  have HQL := Lib.hid hql
  clear Q0 hown k1 k2 hqb hql
  go_wp2_with fail
  refine (C1.out _ _ _ (own_insS rfl Q.out.2)).mono ?_
  rintro e w7 ⟨rfl, b7⟩
  replace Q := Lib.hid (And.intro (below_next' Q.out.1 b7) (own_after Q.out.2 b7))
  replace HQL := Lib.hid (Nat.lt_of_lt_of_le HQL.out b7.size)
  clear b7
  obtain ⟨d0, d1, d2, d3, d4⟩ := own_ins_cells Q.out.2 rfl (j := j) hj
  generalize iAt x j = y at *
  go_wp2_with fail
  clear d0 d1 d2 d3 d4
  refine (HW.out _).mono ?_
  rintro e w8 ⟨rfl, b8⟩
  have BW : Hid (Below w7.heap.size w7 (w8.alloc (.cells (whCells v) 26))) := Lib.hid (below_alloc b8 _)
  replace Q := Lib.hid (And.intro (below_next' Q.out.1 BW.out) (own_after Q.out.2 BW.out))
  have WB : Hid (whB w8.heap.size v (w8.alloc (.cells (whCells v) 26))) := Lib.hid (whB.new _ _ rfl)
  have HGV : Hid (w8.heap.size ≠ q) := Lib.hid (by have := Nat.lt_of_lt_of_le HQL.out b8.size; omega)
  clear b8 BW HW HQL
  go_wp2_with fail
  generalize w8.alloc (.cells (whCells v) 26) = wa at *
  generalize w8.heap.size = gv at *
  refine (S1.out _ _ _ (own_insS rfl Q.out.2)).mono ?_
  rintro e w9 ⟨ga, rfl, _, hba, b9⟩
  replace Q := Lib.hid (And.intro (below_next' Q.out.1 b9) (own_after Q.out.2 b9))
  replace WB := Lib.hid (WB.out.after b9)
  rw [HSL.out]
  have t0 := hba.cell HG.out
  clear b9 S1
  obtain ⟨v0, v1, v2, v3, v4, v5⟩ := WB.out.cells
  go_wp2_with fail
  go_ret
  exact ⟨rfl, Q.out.1⟩

set_option maxRecDepth 100000 in
set_option maxHeartbeats 4000000 in
theorem l7_CodeNumbers_reg (l : List Ins) (A : Option Addr) (c : Nat) (w : World) (h : InsS w A l) (hx : OkAll l) (hc : l.length ≤ c) (hm : c ≤ maxLen) (at_ nn : Int) (hat : 0 ≤ at_ ∧ at_ ≤ 65535) (hnn : -2147483648 ≤ nn ∧ nn ≤ 2147483647) (hr : (chk (fewL l)).2 = 0) (j : Nat) (hj : j < (fewL l).length) (hjm : at_ % ((fewL l).length : Int) = j) (hst : stAt (fewL l) j = true) (hreg : (wOf (iAt (fewL l) j)).reg = true) : Calls Try.prog 11 #[.slice A l.length c, .int .u16 at_, .int .i32 nn] w (Fine w) := by
  have FE := Lib.hid fun w => l7_few l A c w hc hm
  have HI := Lib.hid (few_ins h)
  have HX := Lib.hid (few_ok hx)
  have HL := Lib.hid (few_len l)
  clear h hx hc hm
  have hle : (fewL l).length ≤ 520 := HL.out
  generalize fewL l = x at *
  have hpos : 0 < x.length := by omega
  have C1 := Lib.hid fun A c w h => c7_Check x A c w (by have := HL.out; omega) h HX.out
  rw [(chk_ok hr).2.2.2.2, hr] at C1
  have hok : wOk (iAt x j) = true ∨ stAt x j = false := by
    cases hs : stAt x j
    · exact Or.inr rfl
    · exact Or.inl (whole_ok ((chk_ok hr).2.1 j hj hs))
  have HW := Lib.hid fun w => c7_What (iAt x j) (HX.out j hj) w
  generalize wOk (iAt x j) = okv at *
  have S1 := Lib.hid fun A c w h => c7_Starts x A c w (by have := HL.out; omega) h
  have hsl := sts_len false x
  have HG : Hid ((sts false x)[j]? = some (stAt x j)) := Lib.hid (stAt_get hj)
  rw [hst] at HG
  generalize sts false x = sl at *
  have HSL := Lib.hid hsl
  clear hsl hst hr hok
  generalize wOf (iAt x j) = v at *
  have HREG := Lib.hid hreg
  clear hreg
  have S := Lib.hid l7_shown
  obtain ⟨i0, hi, hz, h1, h2⟩ := info_parts (show (Try.prog.info? 24).map (fun i => (i.zero, i.size, i.bytes)) = some (some (iV Ins.zero), 5, 12) by kernel_rfl)
  have HINF := Lib.hid (And.intro hi (And.intro hz (And.intro h1 h2)))
  clear hi hz h1 h2
  generalize l.length = nl at *
  have nne : ((x.length : Int) == 0) = false := beq_false_of_ne (by omega)
  have nne2 : ¬ (x.length : Int) = 0 := by omega
  have hji : (j : Int) < x.length := by omega
  go_enter Try.func11, Try.ntmps11
  go_wp2_with fail
  refine (S.out _).mono ?_
  rintro e w4 ⟨rfl, b4⟩
  have V := Lib.hid b4
  have V0 := V
  clear b4
  go_wp2_with fail
  replace V := Lib.hid (below_alloc V.out (.cells #[] 24))
  have OWN := Lib.hid (World.ownsRow_made (base := w.heap.size) (e := 24) (size := 5) w4 #[] 0 V0.out.size (Nat.zero_le _) rfl)
  refine (FE.out _).mono ?_
  rintro e w5 ⟨rfl, b5⟩
  replace OWN := Lib.hid (own_after OWN.out b5)
  replace V := Lib.hid (below_next' V.out b5)
  clear b5 FE V0
  obtain ⟨g0, o0, rfl, hg0, hcell⟩ := (HI.out.after V.out) hpos
  have NEWS := Lib.hid (ins_news hcell)
  clear hcell
  have VS := V.out.size
  have ILN : (inC x).length = x.length * 5 := inC_len x
  have hpos' : (0 : Int) < x.length := by omega
  go_wp2_with ((at_builtin; refine wpList_append_own _ rfl (.tmp 20) (.tmp 22) _ rfl w.heap.size 24 i0 (iV Ins.zero) 5 12 Try.underlying31 HINF.out.1 HINF.out.2.1 HINF.out.2.2.1 HINF.out.2.2.2 rfl (by omega) _ 0 [] rfl OWN.out ⟨g0, o0, none⟩ x.length c (inC x) rfl ILN NEWS.out (inC_one x) (by unfold maxLen; omega) (by omega) VS ?_))
  intro v6 w6 hown hgr hn1
  have Q0 : Hid (Below w.heap.size w w6) := Lib.hid (below_own V.out OWN.out VS hgr)
  clear NEWS VS ILN hgr hn1 OWN V hg0
  try rw [Nat.zero_add] at hown
  try rw [List.nil_append] at hown
  obtain ⟨A6, c6, rfl, k1, k2⟩ := own_slice hown
  obtain ⟨q, rfl, hqb, hql⟩ := own_addr hown hpos
  have Q : Hid (Below w.heap.size w w6 ∧ w6.ownsRow w.heap.size 24 5 (.slice (some ⟨q, 0, none⟩) x.length c6) x.length (inC x)) := Lib.hid ⟨Q0.out, hown⟩
  have HQB := Lib.hid hqb
  have HQL := Lib.hid hql
  clear Q0 hown k1 k2 hqb hql
  go_wp2_with fail
  refine (C1.out _ _ _ (own_insS rfl Q.out.2)).mono ?_
  rintro e w7 ⟨rfl, b7⟩
  replace Q := Lib.hid (And.intro (below_next' Q.out.1 b7) (own_after Q.out.2 b7))
  replace HQL := Lib.hid (Nat.lt_of_lt_of_le HQL.out b7.size)
  clear b7
  obtain ⟨d0, d1, d2, d3, d4⟩ := own_ins_cells Q.out.2 rfl (j := j) hj
  generalize iAt x j = y at *
  go_wp2_with fail
  clear d0 d1 d2 d3 d4
  refine (HW.out _).mono ?_
  rintro e w8 ⟨rfl, b8⟩
  have BW : Hid (Below w7.heap.size w7 (w8.alloc (.cells (whCells v) 26))) := Lib.hid (below_alloc b8 _)
  replace Q := Lib.hid (And.intro (below_next' Q.out.1 BW.out) (own_after Q.out.2 BW.out))
  have WB : Hid (whB w8.heap.size v (w8.alloc (.cells (whCells v) 26))) := Lib.hid (whB.new _ _ rfl)
  have HGV : Hid (w8.heap.size ≠ q) := Lib.hid (by have := Nat.lt_of_lt_of_le HQL.out b8.size; omega)
  clear b8 BW HW HQL
  go_wp2_with fail
  generalize w8.alloc (.cells (whCells v) 26) = wa at *
  generalize w8.heap.size = gv at *
  refine (S1.out _ _ _ (own_insS rfl Q.out.2)).mono ?_
  rintro e w9 ⟨ga, rfl, _, hba, b9⟩
  replace Q := Lib.hid (And.intro (below_next' Q.out.1 b9) (own_after Q.out.2 b9))
  replace WB := Lib.hid (WB.out.after b9)
  rw [HSL.out]
  have t0 := hba.cell HG.out
  clear b9 S1
  obtain ⟨v0, v1, v2, v3, v4, v5⟩ := WB.out.cells
  rw [HREG.out] at v3
  go_wp2_with fail
  go_ret
  exact ⟨rfl, Q.out.1⟩

set_option maxRecDepth 100000 in
set_option maxHeartbeats 4000000 in
theorem l7_CodeNumbers_neg (l : List Ins) (A : Option Addr) (c : Nat) (w : World) (h : InsS w A l) (hx : OkAll l) (hc : l.length ≤ c) (hm : c ≤ maxLen) (at_ nn : Int) (hat : 0 ≤ at_ ∧ at_ ≤ 65535) (hnn : -2147483648 ≤ nn ∧ nn ≤ 2147483647) (hr : (chk (fewL l)).2 = 0) (j : Nat) (hj : j < (fewL l).length) (hjm : at_ % ((fewL l).length : Int) = j) (hst : stAt (fewL l) j = true) (hreg : (wOf (iAt (fewL l) j)).reg = false) (e1 : ((wOf (iAt (fewL l) j)).kind == 1) = true) (e128 : ((wOf (iAt (fewL l) j)).op == 128) = true) : Calls Try.prog 11 #[.slice A l.length c, .int .u16 at_, .int .i32 nn] w (Fine w) := by
  have FE := Lib.hid fun w => l7_few l A c w hc hm
  have HI := Lib.hid (few_ins h)
  have HX := Lib.hid (few_ok hx)
  have HL := Lib.hid (few_len l)
  clear h hx hc hm
  have hle : (fewL l).length ≤ 520 := HL.out
  generalize fewL l = x at *
  have hpos : 0 < x.length := by omega
  have C1 := Lib.hid fun A c w h => c7_Check x A c w (by have := HL.out; omega) h HX.out
  rw [(chk_ok hr).2.2.2.2, hr] at C1
  have hok : wOk (iAt x j) = true ∨ stAt x j = false := by
    cases hs : stAt x j
    · exact Or.inr rfl
    · exact Or.inl (whole_ok ((chk_ok hr).2.1 j hj hs))
  have HW := Lib.hid fun w => c7_What (iAt x j) (HX.out j hj) w
  generalize wOk (iAt x j) = okv at *
  have S1 := Lib.hid fun A c w h => c7_Starts x A c w (by have := HL.out; omega) h
  have hsl := sts_len false x
  have HG : Hid ((sts false x)[j]? = some (stAt x j)) := Lib.hid (stAt_get hj)
  rw [hst] at HG
  generalize sts false x = sl at *
  have HSL := Lib.hid hsl
  clear hsl hst hr hok
  have n1 : ((wOf (iAt x j)).kind != 1) = false := by unfold bne; rw [e1]; rfl
  generalize wOf (iAt x j) = v at *
  have HREG := Lib.hid hreg
  clear hreg
  have S := Lib.hid l7_shown
  obtain ⟨i0, hi, hz, h1, h2⟩ := info_parts (show (Try.prog.info? 24).map (fun i => (i.zero, i.size, i.bytes)) = some (some (iV Ins.zero), 5, 12) by kernel_rfl)
  have HINF := Lib.hid (And.intro hi (And.intro hz (And.intro h1 h2)))
  clear hi hz h1 h2
  generalize l.length = nl at *
  have nne : ((x.length : Int) == 0) = false := beq_false_of_ne (by omega)
  have nne2 : ¬ (x.length : Int) = 0 := by omega
  have hji : (j : Int) < x.length := by omega
  go_enter Try.func11, Try.ntmps11
  go_wp2_with fail
  refine (S.out _).mono ?_
  rintro e w4 ⟨rfl, b4⟩
  have V := Lib.hid b4
  have V0 := V
  clear b4
  go_wp2_with fail
  replace V := Lib.hid (below_alloc V.out (.cells #[] 24))
  have OWN := Lib.hid (World.ownsRow_made (base := w.heap.size) (e := 24) (size := 5) w4 #[] 0 V0.out.size (Nat.zero_le _) rfl)
  refine (FE.out _).mono ?_
  rintro e w5 ⟨rfl, b5⟩
  replace OWN := Lib.hid (own_after OWN.out b5)
  replace V := Lib.hid (below_next' V.out b5)
  clear b5 FE V0
  obtain ⟨g0, o0, rfl, hg0, hcell⟩ := (HI.out.after V.out) hpos
  have NEWS := Lib.hid (ins_news hcell)
  clear hcell
  have VS := V.out.size
  have ILN : (inC x).length = x.length * 5 := inC_len x
  have hpos' : (0 : Int) < x.length := by omega
  go_wp2_with ((at_builtin; refine wpList_append_own _ rfl (.tmp 20) (.tmp 22) _ rfl w.heap.size 24 i0 (iV Ins.zero) 5 12 Try.underlying31 HINF.out.1 HINF.out.2.1 HINF.out.2.2.1 HINF.out.2.2.2 rfl (by omega) _ 0 [] rfl OWN.out ⟨g0, o0, none⟩ x.length c (inC x) rfl ILN NEWS.out (inC_one x) (by unfold maxLen; omega) (by omega) VS ?_))
  intro v6 w6 hown hgr hn1
  have Q0 : Hid (Below w.heap.size w w6) := Lib.hid (below_own V.out OWN.out VS hgr)
  clear NEWS VS ILN hgr hn1 OWN V hg0
  try rw [Nat.zero_add] at hown
  try rw [List.nil_append] at hown
  obtain ⟨A6, c6, rfl, k1, k2⟩ := own_slice hown
  obtain ⟨q, rfl, hqb, hql⟩ := own_addr hown hpos
  have Q : Hid (Below w.heap.size w w6 ∧ w6.ownsRow w.heap.size 24 5 (.slice (some ⟨q, 0, none⟩) x.length c6) x.length (inC x)) := Lib.hid ⟨Q0.out, hown⟩
  have HQB := Lib.hid hqb
  have HQL := Lib.hid hql
  clear Q0 hown k1 k2 hqb hql
  go_wp2_with fail
  refine (C1.out _ _ _ (own_insS rfl Q.out.2)).mono ?_
  rintro e w7 ⟨rfl, b7⟩
  replace Q := Lib.hid (And.intro (below_next' Q.out.1 b7) (own_after Q.out.2 b7))
  replace HQL := Lib.hid (Nat.lt_of_lt_of_le HQL.out b7.size)
  clear b7
  obtain ⟨d0, d1, d2, d3, d4⟩ := own_ins_cells Q.out.2 rfl (j := j) hj
  generalize iAt x j = y at *
  go_wp2_with fail
  clear d0 d1 d2 d3 d4
  refine (HW.out _).mono ?_
  rintro e w8 ⟨rfl, b8⟩
  have BW : Hid (Below w7.heap.size w7 (w8.alloc (.cells (whCells v) 26))) := Lib.hid (below_alloc b8 _)
  replace Q := Lib.hid (And.intro (below_next' Q.out.1 BW.out) (own_after Q.out.2 BW.out))
  have WB : Hid (whB w8.heap.size v (w8.alloc (.cells (whCells v) 26))) := Lib.hid (whB.new _ _ rfl)
  have HGV : Hid (w8.heap.size ≠ q) := Lib.hid (by have := Nat.lt_of_lt_of_le HQL.out b8.size; omega)
  clear b8 BW HW HQL
  go_wp2_with fail
  generalize w8.alloc (.cells (whCells v) 26) = wa at *
  generalize w8.heap.size = gv at *
  refine (S1.out _ _ _ (own_insS rfl Q.out.2)).mono ?_
  rintro e w9 ⟨ga, rfl, _, hba, b9⟩
  replace Q := Lib.hid (And.intro (below_next' Q.out.1 b9) (own_after Q.out.2 b9))
  replace WB := Lib.hid (WB.out.after b9)
  rw [HSL.out]
  have t0 := hba.cell HG.out
  clear b9 S1
  obtain ⟨v0, v1, v2, v3, v4, v5⟩ := WB.out.cells
  rw [HREG.out] at v3
  go_wp2_with fail
  go_ret
  exact ⟨rfl, Q.out.1⟩

set_option maxRecDepth 100000 in
set_option maxHeartbeats 4000000 in
theorem l7_CodeNumbers_oth (l : List Ins) (A : Option Addr) (c : Nat) (w : World) (h : InsS w A l) (hx : OkAll l) (hc : l.length ≤ c) (hm : c ≤ maxLen) (at_ nn : Int) (hat : 0 ≤ at_ ∧ at_ ≤ 65535) (hnn : -2147483648 ≤ nn ∧ nn ≤ 2147483647) (hr : (chk (fewL l)).2 = 0) (j : Nat) (hj : j < (fewL l).length) (hjm : at_ % ((fewL l).length : Int) = j) (hst : stAt (fewL l) j = true) (hreg : (wOf (iAt (fewL l) j)).reg = false) (e1 : ((wOf (iAt (fewL l) j)).kind == 1) = false) (e6 : ((wOf (iAt (fewL l) j)).kind == 6) = false) (e10 : ((wOf (iAt (fewL l) j)).kind == 10) = false) (e11 : ((wOf (iAt (fewL l) j)).kind == 11) = false) : Calls Try.prog 11 #[.slice A l.length c, .int .u16 at_, .int .i32 nn] w (Fine w) := by
  have FE := Lib.hid fun w => l7_few l A c w hc hm
  have HI := Lib.hid (few_ins h)
  have HX := Lib.hid (few_ok hx)
  have HL := Lib.hid (few_len l)
  clear h hx hc hm
  have hle : (fewL l).length ≤ 520 := HL.out
  generalize fewL l = x at *
  have hpos : 0 < x.length := by omega
  have C1 := Lib.hid fun A c w h => c7_Check x A c w (by have := HL.out; omega) h HX.out
  rw [(chk_ok hr).2.2.2.2, hr] at C1
  have hok : wOk (iAt x j) = true ∨ stAt x j = false := by
    cases hs : stAt x j
    · exact Or.inr rfl
    · exact Or.inl (whole_ok ((chk_ok hr).2.1 j hj hs))
  have HW := Lib.hid fun w => c7_What (iAt x j) (HX.out j hj) w
  generalize wOk (iAt x j) = okv at *
  have S1 := Lib.hid fun A c w h => c7_Starts x A c w (by have := HL.out; omega) h
  have hsl := sts_len false x
  have HG : Hid ((sts false x)[j]? = some (stAt x j)) := Lib.hid (stAt_get hj)
  rw [hst] at HG
  generalize sts false x = sl at *
  have HSL := Lib.hid hsl
  clear hsl hst hr hok
  have n1 : ((wOf (iAt x j)).kind != 1) = true := by unfold bne; rw [e1]; rfl
  have n6 : ((wOf (iAt x j)).kind != 6) = true := by unfold bne; rw [e6]; rfl
  have n10 : ((wOf (iAt x j)).kind != 10) = true := by unfold bne; rw [e10]; rfl
  have n11 : ((wOf (iAt x j)).kind != 11) = true := by unfold bne; rw [e11]; rfl
  generalize wOf (iAt x j) = v at *
  have HREG := Lib.hid hreg
  clear hreg
  have S := Lib.hid l7_shown
  obtain ⟨i0, hi, hz, h1, h2⟩ := info_parts (show (Try.prog.info? 24).map (fun i => (i.zero, i.size, i.bytes)) = some (some (iV Ins.zero), 5, 12) by kernel_rfl)
  have HINF := Lib.hid (And.intro hi (And.intro hz (And.intro h1 h2)))
  clear hi hz h1 h2
  generalize l.length = nl at *
  have nne : ((x.length : Int) == 0) = false := beq_false_of_ne (by omega)
  have nne2 : ¬ (x.length : Int) = 0 := by omega
  have hji : (j : Int) < x.length := by omega
  go_enter Try.func11, Try.ntmps11
  go_wp2_with fail
  refine (S.out _).mono ?_
  rintro e w4 ⟨rfl, b4⟩
  have V := Lib.hid b4
  have V0 := V
  clear b4
  go_wp2_with fail
  replace V := Lib.hid (below_alloc V.out (.cells #[] 24))
  have OWN := Lib.hid (World.ownsRow_made (base := w.heap.size) (e := 24) (size := 5) w4 #[] 0 V0.out.size (Nat.zero_le _) rfl)
  refine (FE.out _).mono ?_
  rintro e w5 ⟨rfl, b5⟩
  replace OWN := Lib.hid (own_after OWN.out b5)
  replace V := Lib.hid (below_next' V.out b5)
  clear b5 FE V0
  obtain ⟨g0, o0, rfl, hg0, hcell⟩ := (HI.out.after V.out) hpos
  have NEWS := Lib.hid (ins_news hcell)
  clear hcell
  have VS := V.out.size
  have ILN : (inC x).length = x.length * 5 := inC_len x
  have hpos' : (0 : Int) < x.length := by omega
  go_wp2_with ((at_builtin; refine wpList_append_own _ rfl (.tmp 20) (.tmp 22) _ rfl w.heap.size 24 i0 (iV Ins.zero) 5 12 Try.underlying31 HINF.out.1 HINF.out.2.1 HINF.out.2.2.1 HINF.out.2.2.2 rfl (by omega) _ 0 [] rfl OWN.out ⟨g0, o0, none⟩ x.length c (inC x) rfl ILN NEWS.out (inC_one x) (by unfold maxLen; omega) (by omega) VS ?_))
  intro v6 w6 hown hgr hn1
  have Q0 : Hid (Below w.heap.size w w6) := Lib.hid (below_own V.out OWN.out VS hgr)
  clear NEWS VS ILN hgr hn1 OWN V hg0
  try rw [Nat.zero_add] at hown
  try rw [List.nil_append] at hown
  obtain ⟨A6, c6, rfl, k1, k2⟩ := own_slice hown
  obtain ⟨q, rfl, hqb, hql⟩ := own_addr hown hpos
  have Q : Hid (Below w.heap.size w w6 ∧ w6.ownsRow w.heap.size 24 5 (.slice (some ⟨q, 0, none⟩) x.length c6) x.length (inC x)) := Lib.hid ⟨Q0.out, hown⟩
  have HQB := Lib.hid hqb
  have HQL := Lib.hid hql
  clear Q0 hown k1 k2 hqb hql
  go_wp2_with fail
  refine (C1.out _ _ _ (own_insS rfl Q.out.2)).mono ?_
  rintro e w7 ⟨rfl, b7⟩
  replace Q := Lib.hid (And.intro (below_next' Q.out.1 b7) (own_after Q.out.2 b7))
  replace HQL := Lib.hid (Nat.lt_of_lt_of_le HQL.out b7.size)
  clear b7
  obtain ⟨d0, d1, d2, d3, d4⟩ := own_ins_cells Q.out.2 rfl (j := j) hj
  generalize iAt x j = y at *
  go_wp2_with fail
  clear d0 d1 d2 d3 d4
  refine (HW.out _).mono ?_
  rintro e w8 ⟨rfl, b8⟩
  have BW : Hid (Below w7.heap.size w7 (w8.alloc (.cells (whCells v) 26))) := Lib.hid (below_alloc b8 _)
  replace Q := Lib.hid (And.intro (below_next' Q.out.1 BW.out) (own_after Q.out.2 BW.out))
  have WB : Hid (whB w8.heap.size v (w8.alloc (.cells (whCells v) 26))) := Lib.hid (whB.new _ _ rfl)
  have HGV : Hid (w8.heap.size ≠ q) := Lib.hid (by have := Nat.lt_of_lt_of_le HQL.out b8.size; omega)
  clear b8 BW HW HQL
  go_wp2_with fail
  generalize w8.alloc (.cells (whCells v) 26) = wa at *
  generalize w8.heap.size = gv at *
  refine (S1.out _ _ _ (own_insS rfl Q.out.2)).mono ?_
  rintro e w9 ⟨ga, rfl, _, hba, b9⟩
  replace Q := Lib.hid (And.intro (below_next' Q.out.1 b9) (own_after Q.out.2 b9))
  replace WB := Lib.hid (WB.out.after b9)
  rw [HSL.out]
  have t0 := hba.cell HG.out
  clear b9 S1
  obtain ⟨v0, v1, v2, v3, v4, v5⟩ := WB.out.cells
  rw [HREG.out] at v3
  go_wp2_with fail
  go_ret
  exact ⟨rfl, Q.out.1⟩

set_option maxRecDepth 100000 in
set_option maxHeartbeats 4000000 in
theorem l7_CodeNumbers_k1 (l : List Ins) (A : Option Addr) (c : Nat) (w : World) (h : InsS w A l) (hx : OkAll l) (hc : l.length ≤ c) (hm : c ≤ maxLen) (at_ nn : Int) (hat : 0 ≤ at_ ∧ at_ ≤ 65535) (hnn : -2147483648 ≤ nn ∧ nn ≤ 2147483647) (hr : (chk (fewL l)).2 = 0) (j : Nat) (hj : j < (fewL l).length) (hjm : at_ % ((fewL l).length : Int) = j) (hst : stAt (fewL l) j = true) (hreg : (wOf (iAt (fewL l) j)).reg = false) (e1 : ((wOf (iAt (fewL l) j)).kind == 1) = true) (e128 : ((wOf (iAt (fewL l) j)).op == 128) = false) : Calls Try.prog 11 #[.slice A l.length c, .int .u16 at_, .int .i32 nn] w (Fine w) := by
  have FE := Lib.hid fun w => l7_few l A c w hc hm
  have HI := Lib.hid (few_ins h)
  have HX := Lib.hid (few_ok hx)
  have HL := Lib.hid (few_len l)
  clear h hx hc hm
  have hle : (fewL l).length ≤ 520 := HL.out
  generalize fewL l = x at *
  have hpos : 0 < x.length := by omega
  have C1 := Lib.hid fun A c w h => c7_Check x A c w (by have := HL.out; omega) h HX.out
  rw [(chk_ok hr).2.2.2.2, hr] at C1
  have hok : wOk (iAt x j) = true ∨ stAt x j = false := by
    cases hs : stAt x j
    · exact Or.inr rfl
    · exact Or.inl (whole_ok ((chk_ok hr).2.1 j hj hs))
  have hnum : numB (wOf (iAt x j)) = true := by
    unfold numB
    rw [hreg, e1, show ((wOf (iAt x j)).op != 128) = true by unfold bne; rw [e128]; rfl]
    simp
  obtain ⟨z1, z2, z3⟩ := chk_num nn hr hj hst hnum
  have C2 := Lib.hid fun A c w h => c7_Check (x.set j (withImm (iAt x j) nn)) A c w (by rw [List.length_set]; have := HL.out; omega) h (okAll_set HX.out hj (withImm_ok (HX.out j hj) hnn))
  rw [z3, List.length_set] at C2
  have HW2 := Lib.hid fun w => c7_What (withImm (iAt x j) nn) (withImm_ok (HX.out j hj) hnn) w
  rw [z1, z2] at HW2
  have IM := Lib.hid (inC_imm x j nn hj)
  have SLEN : Hid ((x.set j (withImm (iAt x j) nn)).length = x.length) := Lib.hid List.length_set
  have ATJ : Hid (iAt (x.set j (withImm (iAt x j) nn)) j = withImm (iAt x j) nn) := Lib.hid (by rw [iAt_set hj, if_pos rfl])
  clear hnum z1 z2 z3
  have HW := Lib.hid fun w => c7_What (iAt x j) (HX.out j hj) w
  generalize wOk (iAt x j) = okv at *
  have S1 := Lib.hid fun A c w h => c7_Starts x A c w (by have := HL.out; omega) h
  have hsl := sts_len false x
  have HG : Hid ((sts false x)[j]? = some (stAt x j)) := Lib.hid (stAt_get hj)
  rw [hst] at HG
  generalize sts false x = sl at *
  have HSL := Lib.hid hsl
  clear hsl hst hr hok
  have n1 : ((wOf (iAt x j)).kind != 1) = false := by unfold bne; rw [e1]; rfl
  generalize wOf (iAt x j) = v at *
  have HREG := Lib.hid hreg
  clear hreg
  have S := Lib.hid l7_shown
  obtain ⟨i0, hi, hz, h1, h2⟩ := info_parts (show (Try.prog.info? 24).map (fun i => (i.zero, i.size, i.bytes)) = some (some (iV Ins.zero), 5, 12) by kernel_rfl)
  have HINF := Lib.hid (And.intro hi (And.intro hz (And.intro h1 h2)))
  clear hi hz h1 h2
  generalize l.length = nl at *
  have nne : ((x.length : Int) == 0) = false := beq_false_of_ne (by omega)
  have nne2 : ¬ (x.length : Int) = 0 := by omega
  have hji : (j : Int) < x.length := by omega
  go_enter Try.func11, Try.ntmps11
  go_wp2_with fail
  refine (S.out _).mono ?_
  rintro e w4 ⟨rfl, b4⟩
  have V := Lib.hid b4
  have V0 := V
  clear b4
  go_wp2_with fail
  replace V := Lib.hid (below_alloc V.out (.cells #[] 24))
  have OWN := Lib.hid (World.ownsRow_made (base := w.heap.size) (e := 24) (size := 5) w4 #[] 0 V0.out.size (Nat.zero_le _) rfl)
  refine (FE.out _).mono ?_
  rintro e w5 ⟨rfl, b5⟩
  replace OWN := Lib.hid (own_after OWN.out b5)
  replace V := Lib.hid (below_next' V.out b5)
  clear b5 FE V0
  obtain ⟨g0, o0, rfl, hg0, hcell⟩ := (HI.out.after V.out) hpos
  have NEWS := Lib.hid (ins_news hcell)
  clear hcell
  have VS := V.out.size
  have ILN : (inC x).length = x.length * 5 := inC_len x
  have hpos' : (0 : Int) < x.length := by omega
  go_wp2_with ((at_builtin; refine wpList_append_own _ rfl (.tmp 20) (.tmp 22) _ rfl w.heap.size 24 i0 (iV Ins.zero) 5 12 Try.underlying31 HINF.out.1 HINF.out.2.1 HINF.out.2.2.1 HINF.out.2.2.2 rfl (by omega) _ 0 [] rfl OWN.out ⟨g0, o0, none⟩ x.length c (inC x) rfl ILN NEWS.out (inC_one x) (by unfold maxLen; omega) (by omega) VS ?_))
  intro v6 w6 hown hgr hn1
  have Q0 : Hid (Below w.heap.size w w6) := Lib.hid (below_own V.out OWN.out VS hgr)
  clear NEWS VS ILN hgr hn1 OWN V hg0
  try rw [Nat.zero_add] at hown
  try rw [List.nil_append] at hown
  obtain ⟨A6, c6, rfl, k1, k2⟩ := own_slice hown
  obtain ⟨q, rfl, hqb, hql⟩ := own_addr hown hpos
  have Q : Hid (Below w.heap.size w w6 ∧ w6.ownsRow w.heap.size 24 5 (.slice (some ⟨q, 0, none⟩) x.length c6) x.length (inC x)) := Lib.hid ⟨Q0.out, hown⟩
  have HQB := Lib.hid hqb
  have HQL := Lib.hid hql
  clear Q0 hown k1 k2 hqb hql
  go_wp2_with fail
  refine (C1.out _ _ _ (own_insS rfl Q.out.2)).mono ?_
  rintro e w7 ⟨rfl, b7⟩
  replace Q := Lib.hid (And.intro (below_next' Q.out.1 b7) (own_after Q.out.2 b7))
  replace HQL := Lib.hid (Nat.lt_of_lt_of_le HQL.out b7.size)
  clear b7
  obtain ⟨d0, d1, d2, d3, d4⟩ := own_ins_cells Q.out.2 rfl (j := j) hj
  generalize hy : iAt x j = y at *
  have HY := Lib.hid hy
  clear hy
  go_wp2_with fail
  clear d0 d1 d2 d3 d4
  refine (HW.out _).mono ?_
  rintro e w8 ⟨rfl, b8⟩
  have BW : Hid (Below w7.heap.size w7 (w8.alloc (.cells (whCells v) 26))) := Lib.hid (below_alloc b8 _)
  replace Q := Lib.hid (And.intro (below_next' Q.out.1 BW.out) (own_after Q.out.2 BW.out))
  have WB : Hid (whB w8.heap.size v (w8.alloc (.cells (whCells v) 26))) := Lib.hid (whB.new _ _ rfl)
  have HGV : Hid (w8.heap.size ≠ q) := Lib.hid (by have := Nat.lt_of_lt_of_le HQL.out b8.size; omega)
  clear b8 BW HW HQL
  go_wp2_with fail
  generalize w8.alloc (.cells (whCells v) 26) = wa at *
  generalize w8.heap.size = gv at *
  refine (S1.out _ _ _ (own_insS rfl Q.out.2)).mono ?_
  rintro e w9 ⟨ga, rfl, _, hba, b9⟩
  replace Q := Lib.hid (And.intro (below_next' Q.out.1 b9) (own_after Q.out.2 b9))
  replace WB := Lib.hid (WB.out.after b9)
  rw [HSL.out]
  have t0 := hba.cell HG.out
  clear b9 S1
  obtain ⟨v0, v1, v2, v3, v4, v5⟩ := WB.out.cells
  rw [HREG.out] at v3
  have SS := (Q.out.2.stored (j * 5 + 4) (.int .i32 nn)).1
  rw [IM.out] at SS
  have QS : Hid (Below w.heap.size w (w9.setCell ⟨q, j * 5 + 4, none⟩ (.int .i32 nn)) ∧ (w9.setCell ⟨q, j * 5 + 4, none⟩ (.int .i32 nn)).ownsRow w.heap.size 24 5 (.slice (some ⟨q, 0, none⟩) x.length c6) x.length (inC (x.set j (withImm y nn)))) := Lib.hid ⟨Q.out.1.setCell (p := ⟨q, j * 5 + 4, none⟩) HQB.out _, SS⟩
  clear SS
  have f4 := Q.out.2.frozenAt (j * 5 + 4)
  obtain ⟨d0, d1, d2, d3, d4⟩ := own_ins_cells Q.out.2 rfl (j := j) hj
  rw [HY.out] at d0 d1 d2 d3 d4
  go_wp2_with fail
  clear d0 d1 d2 d3 d4 f4 v0 v1 v2 v3 v4 v5 t0 hba
  have WB2 : Hid (whB gv v (w9.setCell ⟨q, j * 5 + 4, none⟩ (.int .i32 nn))) := Lib.hid (Blk.other WB.out _ HGV.out)
  clear WB Q
  generalize w9.setCell ⟨q, j * 5 + 4, none⟩ (.int .i32 nn) = wb at *
  refine (HW2.out _).mono ?_
  rintro e w10 ⟨rfl, b10⟩
  have BW : Hid (Below wb.heap.size wb (w10.alloc (.cells (whCells v) 26))) := Lib.hid (below_alloc b10 _)
  replace QS := Lib.hid (And.intro (below_next' QS.out.1 BW.out) (own_after QS.out.2 BW.out))
  replace WB2 := Lib.hid (WB2.out.after BW.out)
  have WC : Hid (whB w10.heap.size v (w10.alloc (.cells (whCells v) 26))) := Lib.hid (whB.new _ _ rfl)
  clear b10 BW HW2
  go_wp2_with fail
  generalize w10.alloc (.cells (whCells v) 26) = wc at *
  generalize w10.heap.size = gc at *
  refine (C2.out _ _ _ (own_insS SLEN.out.symm QS.out.2)).mono ?_
  rintro e w11 ⟨rfl, b11⟩
  have V : Hid (Below w.heap.size w w11) := Lib.hid (below_next' QS.out.1 b11)
  obtain ⟨v0, v1, v2, v3, v4, v5⟩ := (WB2.out.after b11).cells
  obtain ⟨u0, u1, u2, u3, u4, u5⟩ := (WC.out.after b11).cells
  clear b11 WB2 WC QS C2
  go_wp2_with fail
  go_ret
  exact ⟨rfl, V.out⟩

set_option maxRecDepth 100000 in
set_option maxHeartbeats 4000000 in
theorem l7_CodeNumbers_k6 (l : List Ins) (A : Option Addr) (c : Nat) (w : World) (h : InsS w A l) (hx : OkAll l) (hc : l.length ≤ c) (hm : c ≤ maxLen) (at_ nn : Int) (hat : 0 ≤ at_ ∧ at_ ≤ 65535) (hnn : -2147483648 ≤ nn ∧ nn ≤ 2147483647) (hr : (chk (fewL l)).2 = 0) (j : Nat) (hj : j < (fewL l).length) (hjm : at_ % ((fewL l).length : Int) = j) (hst : stAt (fewL l) j = true) (hreg : (wOf (iAt (fewL l) j)).reg = false) (e1 : ((wOf (iAt (fewL l) j)).kind == 1) = false) (e6 : ((wOf (iAt (fewL l) j)).kind == 6) = true) : Calls Try.prog 11 #[.slice A l.length c, .int .u16 at_, .int .i32 nn] w (Fine w) := by
  have FE := Lib.hid fun w => l7_few l A c w hc hm
  have HI := Lib.hid (few_ins h)
  have HX := Lib.hid (few_ok hx)
  have HL := Lib.hid (few_len l)
  clear h hx hc hm
  have hle : (fewL l).length ≤ 520 := HL.out
  generalize fewL l = x at *
  have hpos : 0 < x.length := by omega
  have C1 := Lib.hid fun A c w h => c7_Check x A c w (by have := HL.out; omega) h HX.out
  rw [(chk_ok hr).2.2.2.2, hr] at C1
  have hok : wOk (iAt x j) = true ∨ stAt x j = false := by
    cases hs : stAt x j
    · exact Or.inr rfl
    · exact Or.inl (whole_ok ((chk_ok hr).2.1 j hj hs))
  have hnum : numB (wOf (iAt x j)) = true := by
    unfold numB
    rw [hreg, e1, e6]
    simp
  obtain ⟨z1, z2, z3⟩ := chk_num nn hr hj hst hnum
  have C2 := Lib.hid fun A c w h => c7_Check (x.set j (withImm (iAt x j) nn)) A c w (by rw [List.length_set]; have := HL.out; omega) h (okAll_set HX.out hj (withImm_ok (HX.out j hj) hnn))
  rw [z3, List.length_set] at C2
  have HW2 := Lib.hid fun w => c7_What (withImm (iAt x j) nn) (withImm_ok (HX.out j hj) hnn) w
  rw [z1, z2] at HW2
  have IM := Lib.hid (inC_imm x j nn hj)
  have SLEN : Hid ((x.set j (withImm (iAt x j) nn)).length = x.length) := Lib.hid List.length_set
  have ATJ : Hid (iAt (x.set j (withImm (iAt x j) nn)) j = withImm (iAt x j) nn) := Lib.hid (by rw [iAt_set hj, if_pos rfl])
  clear hnum z1 z2 z3
  have HW := Lib.hid fun w => c7_What (iAt x j) (HX.out j hj) w
  generalize wOk (iAt x j) = okv at *
  have S1 := Lib.hid fun A c w h => c7_Starts x A c w (by have := HL.out; omega) h
  have hsl := sts_len false x
  have HG : Hid ((sts false x)[j]? = some (stAt x j)) := Lib.hid (stAt_get hj)
  rw [hst] at HG
  generalize sts false x = sl at *
  have HSL := Lib.hid hsl
  clear hsl hst hr hok
  have n1 : ((wOf (iAt x j)).kind != 1) = true := by unfold bne; rw [e1]; rfl
  have n6 : ((wOf (iAt x j)).kind != 6) = false := by unfold bne; rw [e6]; rfl
  generalize wOf (iAt x j) = v at *
  have HREG := Lib.hid hreg
  clear hreg
  have S := Lib.hid l7_shown
  obtain ⟨i0, hi, hz, h1, h2⟩ := info_parts (show (Try.prog.info? 24).map (fun i => (i.zero, i.size, i.bytes)) = some (some (iV Ins.zero), 5, 12) by kernel_rfl)
  have HINF := Lib.hid (And.intro hi (And.intro hz (And.intro h1 h2)))
  clear hi hz h1 h2
  generalize l.length = nl at *
  have nne : ((x.length : Int) == 0) = false := beq_false_of_ne (by omega)
  have nne2 : ¬ (x.length : Int) = 0 := by omega
  have hji : (j : Int) < x.length := by omega
  go_enter Try.func11, Try.ntmps11
  go_wp2_with fail
  refine (S.out _).mono ?_
  rintro e w4 ⟨rfl, b4⟩
  have V := Lib.hid b4
  have V0 := V
  clear b4
  go_wp2_with fail
  replace V := Lib.hid (below_alloc V.out (.cells #[] 24))
  have OWN := Lib.hid (World.ownsRow_made (base := w.heap.size) (e := 24) (size := 5) w4 #[] 0 V0.out.size (Nat.zero_le _) rfl)
  refine (FE.out _).mono ?_
  rintro e w5 ⟨rfl, b5⟩
  replace OWN := Lib.hid (own_after OWN.out b5)
  replace V := Lib.hid (below_next' V.out b5)
  clear b5 FE V0
  obtain ⟨g0, o0, rfl, hg0, hcell⟩ := (HI.out.after V.out) hpos
  have NEWS := Lib.hid (ins_news hcell)
  clear hcell
  have VS := V.out.size
  have ILN : (inC x).length = x.length * 5 := inC_len x
  have hpos' : (0 : Int) < x.length := by omega
  go_wp2_with ((at_builtin; refine wpList_append_own _ rfl (.tmp 20) (.tmp 22) _ rfl w.heap.size 24 i0 (iV Ins.zero) 5 12 Try.underlying31 HINF.out.1 HINF.out.2.1 HINF.out.2.2.1 HINF.out.2.2.2 rfl (by omega) _ 0 [] rfl OWN.out ⟨g0, o0, none⟩ x.length c (inC x) rfl ILN NEWS.out (inC_one x) (by unfold maxLen; omega) (by omega) VS ?_))
  intro v6 w6 hown hgr hn1
  have Q0 : Hid (Below w.heap.size w w6) := Lib.hid (below_own V.out OWN.out VS hgr)
  clear NEWS VS ILN hgr hn1 OWN V hg0
  try rw [Nat.zero_add] at hown
  try rw [List.nil_append] at hown
  obtain ⟨A6, c6, rfl, k1, k2⟩ := own_slice hown
  obtain ⟨q, rfl, hqb, hql⟩ := own_addr hown hpos
  have Q : Hid (Below w.heap.size w w6 ∧ w6.ownsRow w.heap.size 24 5 (.slice (some ⟨q, 0, none⟩) x.length c6) x.length (inC x)) := Lib.hid ⟨Q0.out, hown⟩
  have HQB := Lib.hid hqb
  have HQL := Lib.hid hql
  clear Q0 hown k1 k2 hqb hql
  go_wp2_with fail
  refine (C1.out _ _ _ (own_insS rfl Q.out.2)).mono ?_
  rintro e w7 ⟨rfl, b7⟩
  replace Q := Lib.hid (And.intro (below_next' Q.out.1 b7) (own_after Q.out.2 b7))
  replace HQL := Lib.hid (Nat.lt_of_lt_of_le HQL.out b7.size)
  clear b7
  obtain ⟨d0, d1, d2, d3, d4⟩ := own_ins_cells Q.out.2 rfl (j := j) hj
  generalize hy : iAt x j = y at *
  have HY := Lib.hid hy
  clear hy
  go_wp2_with fail
  clear d0 d1 d2 d3 d4
  refine (HW.out _).mono ?_
  rintro e w8 ⟨rfl, b8⟩
  have BW : Hid (Below w7.heap.size w7 (w8.alloc (.cells (whCells v) 26))) := Lib.hid (below_alloc b8 _)
  replace Q := Lib.hid (And.intro (below_next' Q.out.1 BW.out) (own_after Q.out.2 BW.out))
  have WB : Hid (whB w8.heap.size v (w8.alloc (.cells (whCells v) 26))) := Lib.hid (whB.new _ _ rfl)
  have HGV : Hid (w8.heap.size ≠ q) := Lib.hid (by have := Nat.lt_of_lt_of_le HQL.out b8.size; omega)
  clear b8 BW HW HQL
  go_wp2_with fail
  generalize w8.alloc (.cells (whCells v) 26) = wa at *
  generalize w8.heap.size = gv at *
  refine (S1.out _ _ _ (own_insS rfl Q.out.2)).mono ?_
  rintro e w9 ⟨ga, rfl, _, hba, b9⟩
  replace Q := Lib.hid (And.intro (below_next' Q.out.1 b9) (own_after Q.out.2 b9))
  replace WB := Lib.hid (WB.out.after b9)
  rw [HSL.out]
  have t0 := hba.cell HG.out
  clear b9 S1
  obtain ⟨v0, v1, v2, v3, v4, v5⟩ := WB.out.cells
  rw [HREG.out] at v3
  have SS := (Q.out.2.stored (j * 5 + 4) (.int .i32 nn)).1
  rw [IM.out] at SS
  have QS : Hid (Below w.heap.size w (w9.setCell ⟨q, j * 5 + 4, none⟩ (.int .i32 nn)) ∧ (w9.setCell ⟨q, j * 5 + 4, none⟩ (.int .i32 nn)).ownsRow w.heap.size 24 5 (.slice (some ⟨q, 0, none⟩) x.length c6) x.length (inC (x.set j (withImm y nn)))) := Lib.hid ⟨Q.out.1.setCell (p := ⟨q, j * 5 + 4, none⟩) HQB.out _, SS⟩
  clear SS
  have f4 := Q.out.2.frozenAt (j * 5 + 4)
  obtain ⟨d0, d1, d2, d3, d4⟩ := own_ins_cells Q.out.2 rfl (j := j) hj
  rw [HY.out] at d0 d1 d2 d3 d4
  go_wp2_with fail
  clear d0 d1 d2 d3 d4 f4 v0 v1 v2 v3 v4 v5 t0 hba
  have WB2 : Hid (whB gv v (w9.setCell ⟨q, j * 5 + 4, none⟩ (.int .i32 nn))) := Lib.hid (Blk.other WB.out _ HGV.out)
  clear WB Q
  generalize w9.setCell ⟨q, j * 5 + 4, none⟩ (.int .i32 nn) = wb at *
  refine (HW2.out _).mono ?_
  rintro e w10 ⟨rfl, b10⟩
  have BW : Hid (Below wb.heap.size wb (w10.alloc (.cells (whCells v) 26))) := Lib.hid (below_alloc b10 _)
  replace QS := Lib.hid (And.intro (below_next' QS.out.1 BW.out) (own_after QS.out.2 BW.out))
  replace WB2 := Lib.hid (WB2.out.after BW.out)
  have WC : Hid (whB w10.heap.size v (w10.alloc (.cells (whCells v) 26))) := Lib.hid (whB.new _ _ rfl)
  clear b10 BW HW2
  go_wp2_with fail
  generalize w10.alloc (.cells (whCells v) 26) = wc at *
  generalize w10.heap.size = gc at *
  refine (C2.out _ _ _ (own_insS SLEN.out.symm QS.out.2)).mono ?_
  rintro e w11 ⟨rfl, b11⟩
  have V : Hid (Below w.heap.size w w11) := Lib.hid (below_next' QS.out.1 b11)
  obtain ⟨v0, v1, v2, v3, v4, v5⟩ := (WB2.out.after b11).cells
  obtain ⟨u0, u1, u2, u3, u4, u5⟩ := (WC.out.after b11).cells
  clear b11 WB2 WC QS C2
  go_wp2_with fail
  go_ret
  exact ⟨rfl, V.out⟩

set_option maxRecDepth 100000 in
set_option maxHeartbeats 4000000 in
theorem l7_CodeNumbers_k10 (l : List Ins) (A : Option Addr) (c : Nat) (w : World) (h : InsS w A l) (hx : OkAll l) (hc : l.length ≤ c) (hm : c ≤ maxLen) (at_ nn : Int) (hat : 0 ≤ at_ ∧ at_ ≤ 65535) (hnn : -2147483648 ≤ nn ∧ nn ≤ 2147483647) (hr : (chk (fewL l)).2 = 0) (j : Nat) (hj : j < (fewL l).length) (hjm : at_ % ((fewL l).length : Int) = j) (hst : stAt (fewL l) j = true) (hreg : (wOf (iAt (fewL l) j)).reg = false) (e1 : ((wOf (iAt (fewL l) j)).kind == 1) = false) (e6 : ((wOf (iAt (fewL l) j)).kind == 6) = false) (e10 : ((wOf (iAt (fewL l) j)).kind == 10) = true) : Calls Try.prog 11 #[.slice A l.length c, .int .u16 at_, .int .i32 nn] w (Fine w) := by
  have FE := Lib.hid fun w => l7_few l A c w hc hm
  have HI := Lib.hid (few_ins h)
  have HX := Lib.hid (few_ok hx)
  have HL := Lib.hid (few_len l)
  clear h hx hc hm
  have hle : (fewL l).length ≤ 520 := HL.out
  generalize fewL l = x at *
  have hpos : 0 < x.length := by omega
  have C1 := Lib.hid fun A c w h => c7_Check x A c w (by have := HL.out; omega) h HX.out
  rw [(chk_ok hr).2.2.2.2, hr] at C1
  have hok : wOk (iAt x j) = true ∨ stAt x j = false := by
    cases hs : stAt x j
    · exact Or.inr rfl
    · exact Or.inl (whole_ok ((chk_ok hr).2.1 j hj hs))
  have hnum : numB (wOf (iAt x j)) = true := by
    unfold numB
    rw [hreg, e1, e6, e10]
    simp
  obtain ⟨z1, z2, z3⟩ := chk_num nn hr hj hst hnum
  have C2 := Lib.hid fun A c w h => c7_Check (x.set j (withImm (iAt x j) nn)) A c w (by rw [List.length_set]; have := HL.out; omega) h (okAll_set HX.out hj (withImm_ok (HX.out j hj) hnn))
  rw [z3, List.length_set] at C2
  have HW2 := Lib.hid fun w => c7_What (withImm (iAt x j) nn) (withImm_ok (HX.out j hj) hnn) w
  rw [z1, z2] at HW2
  have IM := Lib.hid (inC_imm x j nn hj)
  have SLEN : Hid ((x.set j (withImm (iAt x j) nn)).length = x.length) := Lib.hid List.length_set
  have ATJ : Hid (iAt (x.set j (withImm (iAt x j) nn)) j = withImm (iAt x j) nn) := Lib.hid (by rw [iAt_set hj, if_pos rfl])
  clear hnum z1 z2 z3
  have HW := Lib.hid fun w => c7_What (iAt x j) (HX.out j hj) w
  generalize wOk (iAt x j) = okv at *
  have S1 := Lib.hid fun A c w h => c7_Starts x A c w (by have := HL.out; omega) h
  have hsl := sts_len false x
  have HG : Hid ((sts false x)[j]? = some (stAt x j)) := Lib.hid (stAt_get hj)
  rw [hst] at HG
  generalize sts false x = sl at *
  have HSL := Lib.hid hsl
  clear hsl hst hr hok
  have n1 : ((wOf (iAt x j)).kind != 1) = true := by unfold bne; rw [e1]; rfl
  have n6 : ((wOf (iAt x j)).kind != 6) = true := by unfold bne; rw [e6]; rfl
  have n10 : ((wOf (iAt x j)).kind != 10) = false := by unfold bne; rw [e10]; rfl
  generalize wOf (iAt x j) = v at *
  have HREG := Lib.hid hreg
  clear hreg
  have S := Lib.hid l7_shown
  obtain ⟨i0, hi, hz, h1, h2⟩ := info_parts (show (Try.prog.info? 24).map (fun i => (i.zero, i.size, i.bytes)) = some (some (iV Ins.zero), 5, 12) by kernel_rfl)
  have HINF := Lib.hid (And.intro hi (And.intro hz (And.intro h1 h2)))
  clear hi hz h1 h2
  generalize l.length = nl at *
  have nne : ((x.length : Int) == 0) = false := beq_false_of_ne (by omega)
  have nne2 : ¬ (x.length : Int) = 0 := by omega
  have hji : (j : Int) < x.length := by omega
  go_enter Try.func11, Try.ntmps11
  go_wp2_with fail
  refine (S.out _).mono ?_
  rintro e w4 ⟨rfl, b4⟩
  have V := Lib.hid b4
  have V0 := V
  clear b4
  go_wp2_with fail
  replace V := Lib.hid (below_alloc V.out (.cells #[] 24))
  have OWN := Lib.hid (World.ownsRow_made (base := w.heap.size) (e := 24) (size := 5) w4 #[] 0 V0.out.size (Nat.zero_le _) rfl)
  refine (FE.out _).mono ?_
  rintro e w5 ⟨rfl, b5⟩
  replace OWN := Lib.hid (own_after OWN.out b5)
  replace V := Lib.hid (below_next' V.out b5)
  clear b5 FE V0
  obtain ⟨g0, o0, rfl, hg0, hcell⟩ := (HI.out.after V.out) hpos
  have NEWS := Lib.hid (ins_news hcell)
  clear hcell
  have VS := V.out.size
  have ILN : (inC x).length = x.length * 5 := inC_len x
  have hpos' : (0 : Int) < x.length := by omega
  go_wp2_with ((at_builtin; refine wpList_append_own _ rfl (.tmp 20) (.tmp 22) _ rfl w.heap.size 24 i0 (iV Ins.zero) 5 12 Try.underlying31 HINF.out.1 HINF.out.2.1 HINF.out.2.2.1 HINF.out.2.2.2 rfl (by omega) _ 0 [] rfl OWN.out ⟨g0, o0, none⟩ x.length c (inC x) rfl ILN NEWS.out (inC_one x) (by unfold maxLen; omega) (by omega) VS ?_))
  intro v6 w6 hown hgr hn1
  have Q0 : Hid (Below w.heap.size w w6) := Lib.hid (below_own V.out OWN.out VS hgr)
  clear NEWS VS ILN hgr hn1 OWN V hg0
  try rw [Nat.zero_add] at hown
  try rw [List.nil_append] at hown
  obtain ⟨A6, c6, rfl, k1, k2⟩ := own_slice hown
  obtain ⟨q, rfl, hqb, hql⟩ := own_addr hown hpos
  have Q : Hid (Below w.heap.size w w6 ∧ w6.ownsRow w.heap.size 24 5 (.slice (some ⟨q, 0, none⟩) x.length c6) x.length (inC x)) := Lib.hid ⟨Q0.out, hown⟩
  have HQB := Lib.hid hqb
  have HQL := Lib.hid hql
  clear Q0 hown k1 k2 hqb hql
  go_wp2_with fail
  refine (C1.out _ _ _ (own_insS rfl Q.out.2)).mono ?_
  rintro e w7 ⟨rfl, b7⟩
  replace Q := Lib.hid (And.intro (below_next' Q.out.1 b7) (own_after Q.out.2 b7))
  replace HQL := Lib.hid (Nat.lt_of_lt_of_le HQL.out b7.size)
  clear b7
  obtain ⟨d0, d1, d2, d3, d4⟩ := own_ins_cells Q.out.2 rfl (j := j) hj
  generalize hy : iAt x j = y at *
  have HY := Lib.hid hy
  clear hy
  go_wp2_with fail
  clear d0 d1 d2 d3 d4
  refine (HW.out _).mono ?_
  rintro e w8 ⟨rfl, b8⟩
  have BW : Hid (Below w7.heap.size w7 (w8.alloc (.cells (whCells v) 26))) := Lib.hid (below_alloc b8 _)
  replace Q := Lib.hid (And.intro (below_next' Q.out.1 BW.out) (own_after Q.out.2 BW.out))
  have WB : Hid (whB w8.heap.size v (w8.alloc (.cells (whCells v) 26))) := Lib.hid (whB.new _ _ rfl)
  have HGV : Hid (w8.heap.size ≠ q) := Lib.hid (by have := Nat.lt_of_lt_of_le HQL.out b8.size; omega)
  clear b8 BW HW HQL
  go_wp2_with fail
  generalize w8.alloc (.cells (whCells v) 26) = wa at *
  generalize w8.heap.size = gv at *
  refine (S1.out _ _ _ (own_insS rfl Q.out.2)).mono ?_
  rintro e w9 ⟨ga, rfl, _, hba, b9⟩
  replace Q := Lib.hid (And.intro (below_next' Q.out.1 b9) (own_after Q.out.2 b9))
  replace WB := Lib.hid (WB.out.after b9)
  rw [HSL.out]
  have t0 := hba.cell HG.out
  clear b9 S1
  obtain ⟨v0, v1, v2, v3, v4, v5⟩ := WB.out.cells
  rw [HREG.out] at v3
  have SS := (Q.out.2.stored (j * 5 + 4) (.int .i32 nn)).1
  rw [IM.out] at SS
  have QS : Hid (Below w.heap.size w (w9.setCell ⟨q, j * 5 + 4, none⟩ (.int .i32 nn)) ∧ (w9.setCell ⟨q, j * 5 + 4, none⟩ (.int .i32 nn)).ownsRow w.heap.size 24 5 (.slice (some ⟨q, 0, none⟩) x.length c6) x.length (inC (x.set j (withImm y nn)))) := Lib.hid ⟨Q.out.1.setCell (p := ⟨q, j * 5 + 4, none⟩) HQB.out _, SS⟩
  clear SS
  have f4 := Q.out.2.frozenAt (j * 5 + 4)
  obtain ⟨d0, d1, d2, d3, d4⟩ := own_ins_cells Q.out.2 rfl (j := j) hj
  rw [HY.out] at d0 d1 d2 d3 d4
  go_wp2_with fail
  clear d0 d1 d2 d3 d4 f4 v0 v1 v2 v3 v4 v5 t0 hba
  have WB2 : Hid (whB gv v (w9.setCell ⟨q, j * 5 + 4, none⟩ (.int .i32 nn))) := Lib.hid (Blk.other WB.out _ HGV.out)
  clear WB Q
  generalize w9.setCell ⟨q, j * 5 + 4, none⟩ (.int .i32 nn) = wb at *
  refine (HW2.out _).mono ?_
  rintro e w10 ⟨rfl, b10⟩
  have BW : Hid (Below wb.heap.size wb (w10.alloc (.cells (whCells v) 26))) := Lib.hid (below_alloc b10 _)
  replace QS := Lib.hid (And.intro (below_next' QS.out.1 BW.out) (own_after QS.out.2 BW.out))
  replace WB2 := Lib.hid (WB2.out.after BW.out)
  have WC : Hid (whB w10.heap.size v (w10.alloc (.cells (whCells v) 26))) := Lib.hid (whB.new _ _ rfl)
  clear b10 BW HW2
  go_wp2_with fail
  generalize w10.alloc (.cells (whCells v) 26) = wc at *
  generalize w10.heap.size = gc at *
  refine (C2.out _ _ _ (own_insS SLEN.out.symm QS.out.2)).mono ?_
  rintro e w11 ⟨rfl, b11⟩
  have V : Hid (Below w.heap.size w w11) := Lib.hid (below_next' QS.out.1 b11)
  obtain ⟨v0, v1, v2, v3, v4, v5⟩ := (WB2.out.after b11).cells
  obtain ⟨u0, u1, u2, u3, u4, u5⟩ := (WC.out.after b11).cells
  clear b11 WB2 WC QS C2
  go_wp2_with fail
  go_ret
  exact ⟨rfl, V.out⟩

set_option maxRecDepth 100000 in
set_option maxHeartbeats 4000000 in
theorem l7_CodeNumbers_k11 (l : List Ins) (A : Option Addr) (c : Nat) (w : World) (h : InsS w A l) (hx : OkAll l) (hc : l.length ≤ c) (hm : c ≤ maxLen) (at_ nn : Int) (hat : 0 ≤ at_ ∧ at_ ≤ 65535) (hnn : -2147483648 ≤ nn ∧ nn ≤ 2147483647) (hr : (chk (fewL l)).2 = 0) (j : Nat) (hj : j < (fewL l).length) (hjm : at_ % ((fewL l).length : Int) = j) (hst : stAt (fewL l) j = true) (hreg : (wOf (iAt (fewL l) j)).reg = false) (e1 : ((wOf (iAt (fewL l) j)).kind == 1) = false) (e6 : ((wOf (iAt (fewL l) j)).kind == 6) = false) (e10 : ((wOf (iAt (fewL l) j)).kind == 10) = false) (e11 : ((wOf (iAt (fewL l) j)).kind == 11) = true) : Calls Try.prog 11 #[.slice A l.length c, .int .u16 at_, .int .i32 nn] w (Fine w) := by
  have FE := Lib.hid fun w => l7_few l A c w hc hm
  have HI := Lib.hid (few_ins h)
  have HX := Lib.hid (few_ok hx)
  have HL := Lib.hid (few_len l)
  clear h hx hc hm
  have hle : (fewL l).length ≤ 520 := HL.out
  generalize fewL l = x at *
  have hpos : 0 < x.length := by omega
  have C1 := Lib.hid fun A c w h => c7_Check x A c w (by have := HL.out; omega) h HX.out
  rw [(chk_ok hr).2.2.2.2, hr] at C1
  have hok : wOk (iAt x j) = true ∨ stAt x j = false := by
    cases hs : stAt x j
    · exact Or.inr rfl
    · exact Or.inl (whole_ok ((chk_ok hr).2.1 j hj hs))
  have hnum : numB (wOf (iAt x j)) = true := by
    unfold numB
    rw [hreg, e1, e6, e10, e11]
    simp
  obtain ⟨z1, z2, z3⟩ := chk_num nn hr hj hst hnum
  have C2 := Lib.hid fun A c w h => c7_Check (x.set j (withImm (iAt x j) nn)) A c w (by rw [List.length_set]; have := HL.out; omega) h (okAll_set HX.out hj (withImm_ok (HX.out j hj) hnn))
  rw [z3, List.length_set] at C2
  have HW2 := Lib.hid fun w => c7_What (withImm (iAt x j) nn) (withImm_ok (HX.out j hj) hnn) w
  rw [z1, z2] at HW2
  have IM := Lib.hid (inC_imm x j nn hj)
  have SLEN : Hid ((x.set j (withImm (iAt x j) nn)).length = x.length) := Lib.hid List.length_set
  have ATJ : Hid (iAt (x.set j (withImm (iAt x j) nn)) j = withImm (iAt x j) nn) := Lib.hid (by rw [iAt_set hj, if_pos rfl])
  clear hnum z1 z2 z3
  have HW := Lib.hid fun w => c7_What (iAt x j) (HX.out j hj) w
  generalize wOk (iAt x j) = okv at *
  have S1 := Lib.hid fun A c w h => c7_Starts x A c w (by have := HL.out; omega) h
  have hsl := sts_len false x
  have HG : Hid ((sts false x)[j]? = some (stAt x j)) := Lib.hid (stAt_get hj)
  rw [hst] at HG
  generalize sts false x = sl at *
  have HSL := Lib.hid hsl
  clear hsl hst hr hok
  have n1 : ((wOf (iAt x j)).kind != 1) = true := by unfold bne; rw [e1]; rfl
  have n6 : ((wOf (iAt x j)).kind != 6) = true := by unfold bne; rw [e6]; rfl
  have n10 : ((wOf (iAt x j)).kind != 10) = true := by unfold bne; rw [e10]; rfl
  have n11 : ((wOf (iAt x j)).kind != 11) = false := by unfold bne; rw [e11]; rfl
  generalize wOf (iAt x j) = v at *
  have HREG := Lib.hid hreg
  clear hreg
  have S := Lib.hid l7_shown
  obtain ⟨i0, hi, hz, h1, h2⟩ := info_parts (show (Try.prog.info? 24).map (fun i => (i.zero, i.size, i.bytes)) = some (some (iV Ins.zero), 5, 12) by kernel_rfl)
  have HINF := Lib.hid (And.intro hi (And.intro hz (And.intro h1 h2)))
  clear hi hz h1 h2
  generalize l.length = nl at *
  have nne : ((x.length : Int) == 0) = false := beq_false_of_ne (by omega)
  have nne2 : ¬ (x.length : Int) = 0 := by omega
  have hji : (j : Int) < x.length := by omega
  go_enter Try.func11, Try.ntmps11
  go_wp2_with fail
  refine (S.out _).mono ?_
  rintro e w4 ⟨rfl, b4⟩
  have V := Lib.hid b4
  have V0 := V
  clear b4
  go_wp2_with fail
  replace V := Lib.hid (below_alloc V.out (.cells #[] 24))
  have OWN := Lib.hid (World.ownsRow_made (base := w.heap.size) (e := 24) (size := 5) w4 #[] 0 V0.out.size (Nat.zero_le _) rfl)
  refine (FE.out _).mono ?_
  rintro e w5 ⟨rfl, b5⟩
  replace OWN := Lib.hid (own_after OWN.out b5)
  replace V := Lib.hid (below_next' V.out b5)
  clear b5 FE V0
  obtain ⟨g0, o0, rfl, hg0, hcell⟩ := (HI.out.after V.out) hpos
  have NEWS := Lib.hid (ins_news hcell)
  clear hcell
  have VS := V.out.size
  have ILN : (inC x).length = x.length * 5 := inC_len x
  have hpos' : (0 : Int) < x.length := by omega
  go_wp2_with ((at_builtin; refine wpList_append_own _ rfl (.tmp 20) (.tmp 22) _ rfl w.heap.size 24 i0 (iV Ins.zero) 5 12 Try.underlying31 HINF.out.1 HINF.out.2.1 HINF.out.2.2.1 HINF.out.2.2.2 rfl (by omega) _ 0 [] rfl OWN.out ⟨g0, o0, none⟩ x.length c (inC x) rfl ILN NEWS.out (inC_one x) (by unfold maxLen; omega) (by omega) VS ?_))
  intro v6 w6 hown hgr hn1
  have Q0 : Hid (Below w.heap.size w w6) := Lib.hid (below_own V.out OWN.out VS hgr)
  clear NEWS VS ILN hgr hn1 OWN V hg0
  try rw [Nat.zero_add] at hown
  try rw [List.nil_append] at hown
  obtain ⟨A6, c6, rfl, k1, k2⟩ := own_slice hown
  obtain ⟨q, rfl, hqb, hql⟩ := own_addr hown hpos
  have Q : Hid (Below w.heap.size w w6 ∧ w6.ownsRow w.heap.size 24 5 (.slice (some ⟨q, 0, none⟩) x.length c6) x.length (inC x)) := Lib.hid ⟨Q0.out, hown⟩
  have HQB := Lib.hid hqb
  have HQL := Lib.hid hql
  clear Q0 hown k1 k2 hqb hql
  go_wp2_with fail
  refine (C1.out _ _ _ (own_insS rfl Q.out.2)).mono ?_
  rintro e w7 ⟨rfl, b7⟩
  replace Q := Lib.hid (And.intro (below_next' Q.out.1 b7) (own_after Q.out.2 b7))
  replace HQL := Lib.hid (Nat.lt_of_lt_of_le HQL.out b7.size)
  clear b7
  obtain ⟨d0, d1, d2, d3, d4⟩ := own_ins_cells Q.out.2 rfl (j := j) hj
  generalize hy : iAt x j = y at *
  have HY := Lib.hid hy
  clear hy
  go_wp2_with fail
  clear d0 d1 d2 d3 d4
  refine (HW.out _).mono ?_
  rintro e w8 ⟨rfl, b8⟩
  have BW : Hid (Below w7.heap.size w7 (w8.alloc (.cells (whCells v) 26))) := Lib.hid (below_alloc b8 _)
  replace Q := Lib.hid (And.intro (below_next' Q.out.1 BW.out) (own_after Q.out.2 BW.out))
  have WB : Hid (whB w8.heap.size v (w8.alloc (.cells (whCells v) 26))) := Lib.hid (whB.new _ _ rfl)
  have HGV : Hid (w8.heap.size ≠ q) := Lib.hid (by have := Nat.lt_of_lt_of_le HQL.out b8.size; omega)
  clear b8 BW HW HQL
  go_wp2_with fail
  generalize w8.alloc (.cells (whCells v) 26) = wa at *
  generalize w8.heap.size = gv at *
  refine (S1.out _ _ _ (own_insS rfl Q.out.2)).mono ?_
  rintro e w9 ⟨ga, rfl, _, hba, b9⟩
  replace Q := Lib.hid (And.intro (below_next' Q.out.1 b9) (own_after Q.out.2 b9))
  replace WB := Lib.hid (WB.out.after b9)
  rw [HSL.out]
  have t0 := hba.cell HG.out
  clear b9 S1
  obtain ⟨v0, v1, v2, v3, v4, v5⟩ := WB.out.cells
  rw [HREG.out] at v3
  have SS := (Q.out.2.stored (j * 5 + 4) (.int .i32 nn)).1
  rw [IM.out] at SS
  have QS : Hid (Below w.heap.size w (w9.setCell ⟨q, j * 5 + 4, none⟩ (.int .i32 nn)) ∧ (w9.setCell ⟨q, j * 5 + 4, none⟩ (.int .i32 nn)).ownsRow w.heap.size 24 5 (.slice (some ⟨q, 0, none⟩) x.length c6) x.length (inC (x.set j (withImm y nn)))) := Lib.hid ⟨Q.out.1.setCell (p := ⟨q, j * 5 + 4, none⟩) HQB.out _, SS⟩
  clear SS
  have f4 := Q.out.2.frozenAt (j * 5 + 4)
  obtain ⟨d0, d1, d2, d3, d4⟩ := own_ins_cells Q.out.2 rfl (j := j) hj
  rw [HY.out] at d0 d1 d2 d3 d4
  go_wp2_with fail
  clear d0 d1 d2 d3 d4 f4 v0 v1 v2 v3 v4 v5 t0 hba
  have WB2 : Hid (whB gv v (w9.setCell ⟨q, j * 5 + 4, none⟩ (.int .i32 nn))) := Lib.hid (Blk.other WB.out _ HGV.out)
  clear WB Q
  generalize w9.setCell ⟨q, j * 5 + 4, none⟩ (.int .i32 nn) = wb at *
  refine (HW2.out _).mono ?_
  rintro e w10 ⟨rfl, b10⟩
  have BW : Hid (Below wb.heap.size wb (w10.alloc (.cells (whCells v) 26))) := Lib.hid (below_alloc b10 _)
  replace QS := Lib.hid (And.intro (below_next' QS.out.1 BW.out) (own_after QS.out.2 BW.out))
  replace WB2 := Lib.hid (WB2.out.after BW.out)
  have WC : Hid (whB w10.heap.size v (w10.alloc (.cells (whCells v) 26))) := Lib.hid (whB.new _ _ rfl)
  clear b10 BW HW2
  go_wp2_with fail
  generalize w10.alloc (.cells (whCells v) 26) = wc at *
  generalize w10.heap.size = gc at *
  refine (C2.out _ _ _ (own_insS SLEN.out.symm QS.out.2)).mono ?_
  rintro e w11 ⟨rfl, b11⟩
  have V : Hid (Below w.heap.size w w11) := Lib.hid (below_next' QS.out.1 b11)
  obtain ⟨v0, v1, v2, v3, v4, v5⟩ := (WB2.out.after b11).cells
  obtain ⟨u0, u1, u2, u3, u4, u5⟩ := (WC.out.after b11).cells
  clear b11 WB2 WC QS C2
  go_wp2_with fail
  go_ret
  exact ⟨rfl, V.out⟩

theorem l7_CodeNumbers (l : List Ins) (A : Option Addr) (c : Nat) (w : World) (h : InsS w A l) (hx : OkAll l) (hc : l.length ≤ c) (hm : c ≤ maxLen) (at_ nn : Int) (hat : 0 ≤ at_ ∧ at_ ≤ 65535) (hnn : -2147483648 ≤ nn ∧ nn ≤ 2147483647) : Calls Try.prog 11 #[.slice A l.length c, .int .u16 at_, .int .i32 nn] w (Fine w) := by
  by_cases he : (fewL l).length = 0
  · exact l7_CodeNumbers_none l A c w h hx hc hm at_ nn hat hnn he
  have hpos : 0 < (fewL l).length := by omega
  by_cases hr : (chk (fewL l)).2 = 0
  rotate_left 1
  · exact l7_CodeNumbers_no l A c w h hx hc hm at_ nn hat hnn hpos hr
  have h1 := Int.emod_nonneg at_ (b := ((fewL l).length : Int)) (by omega)
  have h2 := Int.emod_lt_of_pos at_ (b := ((fewL l).length : Int)) (by omega)
  obtain ⟨j, hjm⟩ : ∃ j : Nat, at_ % ((fewL l).length : Int) = j := ⟨(at_ % ((fewL l).length : Int)).toNat, by omega⟩
  have hj : j < (fewL l).length := by omega
  cases hst : stAt (fewL l) j
  · exact l7_CodeNumbers_st l A c w h hx hc hm at_ nn hat hnn hr j hj hjm hst
  cases hreg : (wOf (iAt (fewL l) j)).reg
  rotate_left 1
  · exact l7_CodeNumbers_reg l A c w h hx hc hm at_ nn hat hnn hr j hj hjm hst hreg
  cases e1 : ((wOf (iAt (fewL l) j)).kind == 1)
  rotate_left 1
  · cases e128 : ((wOf (iAt (fewL l) j)).op == 128)
    · exact l7_CodeNumbers_k1 l A c w h hx hc hm at_ nn hat hnn hr j hj hjm hst hreg e1 e128
    · exact l7_CodeNumbers_neg l A c w h hx hc hm at_ nn hat hnn hr j hj hjm hst hreg e1 e128
  cases e6 : ((wOf (iAt (fewL l) j)).kind == 6)
  rotate_left 1
  · exact l7_CodeNumbers_k6 l A c w h hx hc hm at_ nn hat hnn hr j hj hjm hst hreg e1 e6
  cases e10 : ((wOf (iAt (fewL l) j)).kind == 10)
  rotate_left 1
  · exact l7_CodeNumbers_k10 l A c w h hx hc hm at_ nn hat hnn hr j hj hjm hst hreg e1 e6 e10
  cases e11 : ((wOf (iAt (fewL l) j)).kind == 11)
  rotate_left 1
  · exact l7_CodeNumbers_k11 l A c w h hx hc hm at_ nn hat hnn hr j hj hjm hst hreg e1 e6 e10 e11
  · exact l7_CodeNumbers_oth l A c w h hx hc hm at_ nn hat hnn hr j hj hjm hst hreg e1 e6 e10 e11

end Go.Proofs.Ytplndcjmbgkcjaa
