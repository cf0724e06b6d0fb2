/-
  Layer 7: the program that bytes are, as the program finds it.
  Conditions: the numbers fit their kinds.
-/
import Derived.Test.YtplndcjmbgkcjaaCode9
import Derived.Test.YtplndcjmbgkcjaaTakeAt
import Derived.LoopTactic
namespace Go.Proofs.Ytplndcjmbgkcjaa
open Go.RowKit
set_option linter.unusedVariables false
set_option linter.unusedSimpArgs false

theorem made_ins (n base : Nat) (hn : n ≤ 100000) (w : World) (hb : base ≤ w.heap.size) :
    ∃ w', (Instr.makeSlice 31 (.int .i64 (n : Int)) (.int .i64 (n : Int))).run Try.prog w = .ok (.slice (some ⟨w.heap.size, 0, none⟩) n n) w' ∧
      w'.ownsRow base 24 5 (.slice (some ⟨w.heap.size, 0, none⟩) n n) n (inC (List.replicate n Ins.zero)) ∧ w.grownBy w' none := by
  obtain ⟨i, hi, hz, h1, h2⟩ := info_parts (show (Try.prog.info? 24).map (fun i => (i.zero, i.size, i.bytes)) = some (some (iV Ins.zero), 5, 12) by kernel_rfl)
  obtain ⟨w', hr, ho, hg⟩ := run_make_full (P := Try.prog) w base 31 24 i (iV Ins.zero) 5 Try.underlying31 hi hz h1 .i64 .i64 n (by rw [h2]; omega) (by simp only [maxLen]; omega) hb
  refine ⟨w', hr, ?_, hg⟩
  have e : (madeCells (iV Ins.zero).cells (n * 5)).toList = inC (List.replicate n Ins.zero) := by
    apply List.ext_getElem?
    intro j
    by_cases hj : j < n * 5
    · have h := inC_at (List.replicate n Ins.zero) (j / 5) (j % 5) (by rw [List.length_replicate]; omega) (by omega)
      rw [show j / 5 * 5 + j % 5 = j by omega] at h
      rw [h]
      have hx : iAt (List.replicate n Ins.zero) (j / 5) = Ins.zero := by
        unfold iAt
        rw [List.getD_eq_getElem?_getD, List.getElem?_replicate]
        split <;> rfl
      rw [hx]
      have hr : j % 5 = 0 ∨ j % 5 = 1 ∨ j % 5 = 2 ∨ j % 5 = 3 ∨ j % 5 = 4 := by omega
      have hs : (iV Ins.zero).cells.size = 5 := rfl
      rcases hr with hr | hr | hr | hr | hr <;> simp [madeCells, hj, hr, hs, cI, iV, Value.cells]
    · rw [List.getElem?_eq_none (by simp [size_madeCells]; omega), List.getElem?_eq_none (by rw [inC_len, List.length_replicate]; omega)]
  rw [e] at ho
  exact ho

/-- What was decoded so far. -/
def decTo (b : List Int) (j : Nat) : List Ins := (decL b).take j ++ List.replicate (b.length / 8 - j) Ins.zero
theorem decTo_zero (b : List Int) : decTo b 0 = List.replicate (b.length / 8) Ins.zero := by simp [decTo]
theorem decTo_all (b : List Int) : decTo b (b.length / 8) = decL b := by
  unfold decTo
  rw [Nat.sub_self, List.take_of_length_le (by rw [decL_len]; exact Nat.le_refl _)]
  simp
theorem decTo_len (b : List Int) {j : Nat} (h : j ≤ b.length / 8) : (decTo b j).length = b.length / 8 := by
  unfold decTo
  rw [List.length_append, List.length_take, List.length_replicate, decL_len]
  omega
theorem decTo_step (b : List Int) {j : Nat} (h : j < b.length / 8) : (decTo b j).set j (decI b j) = decTo b (j + 1) := by
  have hl : ((decL b).take j).length = j := by rw [List.length_take, decL_len]; omega
  have e1 : b.length / 8 - j = (b.length / 8 - (j + 1)) + 1 := by omega
  have e2 : (decL b)[j]? = some (decI b j) := by
    unfold decL
    rw [List.getElem?_map, List.getElem?_range h]
    rfl
  unfold decTo
  rw [List.set_append, if_neg (by rw [hl]; omega), hl, Nat.sub_self, e1, List.replicate_succ, List.set_cons_zero, List.take_add_one, e2]
  simp
theorem own_after {w w' : World} {base size n : Nat} {e : TypeId} {v : Value} {xs : List Value} (h : w.ownsRow base e size v n xs) (b : Below w.heap.size w w') : w'.ownsRow base e size v n xs := by
  refine ⟨h.1, ?_⟩
  rcases h.2 with hn | ⟨g, cap, cur, rfl, hb, hgg, rest⟩
  · exact .inl hn
  · exact .inr ⟨g, cap, cur, rfl, hb, (b.block g (Array.getElem?_eq_some_iff.1 hgg).1).trans hgg, rest⟩
theorem own_ins_cells {w : World} {base n c q j : Nat} {e : TypeId} {l : List Ins} (h : w.ownsRow base e 5 (.slice (some ⟨q, 0, none⟩) n c) n (inC l)) (hn : n = l.length) (hj : j < n) : InsAt w q (j * 5) (iAt l j) := by
  subst hn
  have hc : ∀ r, r < 5 → w.cell? ⟨q, j * 5 + r, none⟩ = (cI (iAt l j))[r]? := fun r hr => by
    rw [h.cellAt _ (by omega), inC_at l j r hj hr]
  exact ⟨hc 0 (by omega), hc 1 (by omega), hc 2 (by omega), hc 3 (by omega), hc 4 (by omega)⟩
theorem own_ins_set {w w0 : World} {base n c q j : Nat} {e : TypeId} {l : List Ins} (h : w.ownsRow base e 5 (.slice (some ⟨q, 0, none⟩) n c) n (inC l)) (hn : n = l.length) (hj : j < n) (x : Ins) (B : Below base w0 w) (hq : base ≤ q) :
    (((((w.setCell ⟨q, j * 5, none⟩ (.int .u8 x.op)).setCell ⟨q, j * 5 + 1, none⟩ (.int .u8 x.dst)).setCell ⟨q, j * 5 + 2, none⟩ (.int .u8 x.src)).setCell ⟨q, j * 5 + 3, none⟩ (.int .i16 x.off)).setCell ⟨q, j * 5 + 4, none⟩ (.int .i32 x.imm)).ownsRow base e 5 (.slice (some ⟨q, 0, none⟩) n c) n (inC (l.set j x)) ∧
    Below base w0 (((((w.setCell ⟨q, j * 5, none⟩ (.int .u8 x.op)).setCell ⟨q, j * 5 + 1, none⟩ (.int .u8 x.dst)).setCell ⟨q, j * 5 + 2, none⟩ (.int .u8 x.src)).setCell ⟨q, j * 5 + 3, none⟩ (.int .i16 x.off)).setCell ⟨q, j * 5 + 4, none⟩ (.int .i32 x.imm)) := by
  subst hn
  refine ⟨?_, ((((B.setCell (p := ⟨q, j * 5, none⟩) hq _).setCell (p := ⟨q, j * 5 + 1, none⟩) hq _).setCell (p := ⟨q, j * 5 + 2, none⟩) hq _).setCell (p := ⟨q, j * 5 + 3, none⟩) hq _).setCell (p := ⟨q, j * 5 + 4, none⟩) hq _⟩
  rw [← inC_set l j x hj]
  exact (((((((((h.stored _ _).1).stored _ _).1).stored _ _).1).stored _ _).1).stored _ _).1
theorem rem_eq (n : Nat) : (((n : Int) % 8) == 0) = (n % 8 == 0) := by
  by_cases h : n % 8 = 0
  · rw [beq_iff_eq.mpr h, beq_iff_eq]; omega
  · rw [beq_false_of_ne h, beq_false_of_ne (by omega)]

set_option maxRecDepth 100000 in
set_option maxHeartbeats 2000000 in
theorem c7_Decode_no (b : List Int) (A : Option Addr) (c : Nat) (w : World) (hl : b.length ≤ 100000) (hn : b.length % 8 ≠ 0 ∨ fitsB (b.length / 8 : Nat) = false) :
    Calls Try.prog 20 #[.slice A b.length c] w (DecW ([], 0, 70) w) := by
  have C := Lib.hid (c7_fits ((b.length / 8 : Nat) : Int))
  have ef : (decide ((0 : Int) < (b.length / 8 : Nat)) && decide (((b.length / 8 : Nat) : Int) ≤ 512)) = fitsB (b.length / 8 : Nat) := rfl
  rw [ef] at C
  clear ef
  generalize b.length = n at *
  have hn0 : (0 : Int) ≤ n := by omega
  by_cases h8 : n % 8 = 0
  · have hf : fitsB (n / 8 : Nat) = false := by rcases hn with h | h; exact absurd h8 h; exact h
    rw [hf] at C
    have e8 : ((n : Int) % 8 != 0) = false := by
      unfold bne
      rw [rem_eq, beq_iff_eq.mpr h8]
      rfl
    have eq : (n : Int) / 8 = ((n / 8 : Nat) : Int) := by omega
    clear hn h8 hf
    generalize n / 8 = m at *
    go_enter Try.func20, Try.ntmps20
    go_wp2_with fail
    refine (C.out _).mono ?_
    rintro e w5 ⟨rfl, b5⟩
    have V : Hid (DecW ([], 0, 70) w (.returned (.tuple #[.slice none 0 0, .int .i64 0, .int .i64 70])) w5) := Lib.hid ⟨none, 0, rfl, InsS.none_ _ _, Nat.le_refl _, Nat.zero_le _, b5⟩
    clear b5
    go_wp2_with fail
    go_ret3
    exact V.out
  · have e8 : ((n : Int) % 8 != 0) = true := by
      unfold bne
      rw [rem_eq, beq_false_of_ne h8]
      rfl
    have V : Hid (DecW ([], 0, 70) w (.returned (.tuple #[.slice none 0 0, .int .i64 0, .int .i64 70])) w) := Lib.hid ⟨none, 0, rfl, InsS.none_ _ _, Nat.le_refl _, Nat.zero_le _, Below.refl _ _⟩
    clear hn h8 C
    go_enter Try.func20, Try.ntmps20
    go_wp2_with fail
    go_ret3
    exact V.out

set_option maxRecDepth 100000 in
set_option maxHeartbeats 2000000 in
theorem c7_Decode_yes (b : List Int) (A : Option Addr) (c : Nat) (w : World) (hl : b.length ≤ 100000) (h : BytS w A b) (hb : OkB b) (hc : b.length ≤ c) (hm : c ≤ maxLen) (h8 : b.length % 8 = 0) (hf : fitsB (b.length / 8 : Nat) = true) (a r : Int) (ha : chk (decL b) = (a, r)) (R : List Ins × Int × Int) (hR : R = if r = 0 then (decL b, 0, 0) else ([], a, r)) :
    Calls Try.prog 20 #[.slice A b.length c] w (DecW R w) := by
  have HR := Lib.hid hR
  clear hR
  have C := Lib.hid (c7_fits ((b.length / 8 : Nat) : Int))
  have ef : (decide ((0 : Int) < (b.length / 8 : Nat)) && decide (((b.length / 8 : Nat) : Int) ≤ 512)) = fitsB (b.length / 8 : Nat) := rfl
  rw [ef, hf] at C
  clear ef
  have hpos : 0 < b.length / 8 ∧ b.length / 8 ≤ 512 := by
    unfold fitsB at hf
    simp only [Bool.and_eq_true, decide_eq_true_eq] at hf
    omega
  obtain ⟨g, o, rfl, hg, hcell⟩ := h (by omega)
  have HB : Hid (BytAt w g o b) := Lib.hid ⟨hg, hcell⟩
  have HO := Lib.hid hb
  have HF := Lib.hid hf
  have HA := Lib.hid ha
  clear h hcell hb hf ha
  have CK : Hid (∀ A c w, InsS w A (decL b) → Calls Try.prog 16 #[.slice A (b.length / 8 : Nat) c] w (Gives (.tuple #[.int .i64 a, .int .i64 r]) w)) := Lib.hid fun A c w h => by
    have := c7_Check (decL b) A c w (by rw [decL_len]; omega) h (fun k hk => decL_ok HO.out k hk)
    rw [HA.out, decL_len] at this
    exact this
  have e8 : ((b.length : Int) % 8 != 0) = false := by
    unfold bne
    rw [rem_eq, beq_iff_eq.mpr h8]
    rfl
  have eq : (b.length : Int) / 8 = ((b.length / 8 : Nat) : Int) := by omega
  generalize hn : b.length = n at *
  have HN := Lib.hid hn
  clear hn
  generalize hmm : n / 8 = m at *
  have HM := Lib.hid hmm
  have hnm : m * 8 = n := by omega
  have HNM := Lib.hid hnm
  clear hmm h8 HF
  obtain ⟨m1, m2⟩ := hpos
  have hn0 : (0 : Int) ≤ n := by omega
  have hm0 : (0 : Int) ≤ m := by omega
  unfold maxLen at hm
  clear hnm
  go_enter Try.func20, Try.ntmps20
  go_wp2_with fail
  refine (C.out _).mono ?_
  rintro e w5 ⟨rfl, b5⟩
  have V := Lib.hid b5
  clear b5 C
  obtain ⟨w6, hmk, hown, hgr⟩ := made_ins m w.heap.size (by omega) w5 V.out.size
  have HOWN := Lib.hid hown
  have V6 : Hid (Below w.heap.size w w6) := Lib.hid (V.out.grown hgr V.out.size (fun k hk => by cases hk))
  have G6 : Hid (w.heap.size ≤ w5.heap.size) := Lib.hid V.out.size
  clear hown hgr V
  go_wp2_with fail
  clear hmk
  generalize w5.heap.size = q at *
  have hz : w.heap.size < w6.heap.size := by
    obtain ⟨g', e', _, h2⟩ := own_addr HOWN.out (by omega)
    have e2 : q = g' := by simpa using e'
    rw [← e2] at h2
    exact Nat.lt_of_le_of_lt G6.out h2
  go_loopw [26] (fun i wr => ∃ j : Nat, i = .int .i64 j ∧ j ≤ m ∧ Hid (Below w.heap.size w wr ∧ wr.ownsRow w.heap.size 24 5 (.slice (some ⟨q, 0, none⟩) m m) m (inC (decTo b j)))) (fun i wr => m - (intOf i).toNat)
  case atStart => exact ⟨0, rfl, by omega, Lib.hid ⟨V6.out, by rw [decTo_zero, HN.out, HM.out]; exact HOWN.out⟩⟩
  case round =>
    clear V6 HOWN hz
    obtain ⟨j, rfl, hj, Q⟩ := hrel
    have hj0 : (0 : Int) ≤ j := by omega
    by_cases hlt : (j : Int) < m
    · have s1 : (j : Int) * 8 + 8 ≤ n := by have := HNM.out; omega
      have s2 : (n : Int) ≤ c := by omega
      have s3 : (0 : Int) ≤ (j : Int) * 8 := by omega
      have TK : Hid (∀ w c, BytAt w g o b → Calls Try.prog 42 #[.slice (some ⟨g, o + j * 8, none⟩) ((j + 1) * 8 - j * 8) c] w (Gives (.tuple #[iV (decI b j), .int .i64 0]) w)) := Lib.hid (by
        rw [show (j + 1) * 8 - j * 8 = 8 by omega]
        exact fun w c h => c7_Take b g o c j w HO.out (by rw [HN.out, HM.out]; omega) h)
      have DL : Hid ((decTo b j).length = m) := Lib.hid (by rw [decTo_len b (by rw [HN.out, HM.out]; omega), HN.out, HM.out])
      have DS : Hid ((decTo b j).set j (decI b j) = decTo b (j + 1)) := Lib.hid (decTo_step b (by rw [HN.out, HM.out]; omega))
      generalize decI b j = x at *
      go_wp2_with fail
      refine (TK.out _ _ (HB.out.after Q.out.1)).mono ?_
      rintro e w7 ⟨rfl, b7⟩
      replace Q := Lib.hid (And.intro (below_next' Q.out.1 b7) (own_after Q.out.2 b7))
      clear b7 TK
      obtain ⟨c0, c1, c2, c3, c4⟩ := own_ins_cells Q.out.2 DL.out.symm (j := j) (by omega)
      have f0 := Q.out.2.frozenAt (j * 5)
      have f1 := Q.out.2.frozenAt (j * 5 + 1)
      have f2 := Q.out.2.frozenAt (j * 5 + 2)
      have f3 := Q.out.2.frozenAt (j * 5 + 3)
      have f4 := Q.out.2.frozenAt (j * 5 + 4)
      have hq : w.heap.size ≤ q := by
        obtain ⟨g', e', h1, _⟩ := own_addr Q.out.2 (by omega)
        have e2 : q = g' := by simpa using e'
        rw [e2]
        exact h1
      have SS := own_ins_set (j := j) Q.out.2 DL.out.symm (by omega) x Q.out.1 hq
      rw [DS.out] at SS
      have QS := Lib.hid (And.intro SS.2 SS.1)
      clear SS DS DL hq
      generalize iAt (decTo b j) j = z at *
      go_wp2_with fail
      go_round
      case rel => exact ⟨j + 1, by go_num, by omega, QS⟩
      case measure => simp [intOf]; omega
    · have hjm : j = m := by omega
      have e2 : decTo b j = decL b := by rw [hjm, ← HM.out, ← HN.out]; exact decTo_all b
      rw [e2] at Q
      have DL : Hid (m = (decL b).length) := Lib.hid (by rw [decL_len, HN.out, HM.out])
      have IS := Lib.hid (own_insS DL.out Q.out.2)
      have hge : (m : Int) ≤ j := by omega
      clear e2 hjm hj hlt
      cases hr : (r == 0)
      · have hr0 : ¬ r = 0 := fun h => by rw [h] at hr; exact absurd hr (by decide)
        have HE : Hid (R = ([], a, r)) := Lib.hid (by rw [HR.out, if_neg hr0])
        have n0 : (r != 0) = true := by unfold bne; rw [hr]; rfl
        clear hr hr0
        go_wp2_with fail
        refine (CK.out _ _ _ IS.out).mono ?_
        rintro e w8 ⟨rfl, b8⟩
        have V : Hid (DecW R w (.returned (.tuple #[.slice none 0 0, .int .i64 a, .int .i64 r])) w8) := Lib.hid (by
          rw [HE.out]
          exact ⟨none, 0, rfl, InsS.none_ _ _, Nat.le_refl _, Nat.zero_le _, below_next' Q.out.1 b8⟩)
        clear b8
        go_wp2_with fail
        go_ret3
        exact V.out
      · have hr0 : r = 0 := beq_iff_eq.mp hr
        have HE : Hid (R = (decL b, 0, 0)) := Lib.hid (by rw [HR.out, if_pos hr0])
        have n0 : (r != 0) = false := by unfold bne; rw [hr]; rfl
        clear hr hr0
        go_wp2_with fail
        refine (CK.out _ _ _ IS.out).mono ?_
        rintro e w8 ⟨rfl, b8⟩
        have V : Hid (DecW R w (.returned (.tuple #[.slice (some ⟨q, 0, none⟩) m m, .int .i64 0, .int .i64 0])) w8) := Lib.hid (by
          rw [HE.out]
          exact ⟨_, m, by rw [← DL.out], IS.out.after b8, by rw [← DL.out]; exact Nat.le_refl _, by unfold maxLen; omega, below_next' Q.out.1 b8⟩)
        clear b8
        go_wp2_with fail
        go_ret3
        exact V.out

theorem c7_Decode (b : List Int) (A : Option Addr) (c : Nat) (w : World) (hl : b.length ≤ 100000) (h : BytS w A b) (hb : OkB b) (hc : b.length ≤ c) (hm : c ≤ maxLen) :
    Calls Try.prog 20 #[.slice A b.length c] w (DecW (decR b) w) := by
  unfold decR
  by_cases hn : b.length % 8 ≠ 0 ∨ fitsB (b.length / 8 : Nat) = false
  · rw [if_pos hn]
    exact c7_Decode_no b A c w hl hn
  · rw [if_neg hn]
    have h8 : b.length % 8 = 0 := by
      by_cases h8 : b.length % 8 = 0
      · exact h8
      · exact absurd (Or.inl h8) hn
    have hf : fitsB (b.length / 8 : Nat) = true := by
      cases hf : fitsB (b.length / 8 : Nat)
      · exact absurd (Or.inr hf) hn
      · rfl
    exact c7_Decode_yes b A c w hl h hb hc hm h8 hf _ _ rfl _ rfl

end Go.Proofs.Ytplndcjmbgkcjaa
