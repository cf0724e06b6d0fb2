/-
  The document's own answers of layer 7: the program that bytes are.
  Conditions: the numbers fit their kinds.
-/
import Derived.Test.YtplndcjmbgkcjaaCode11
import Derived.Test.YtplndcjmbgkcjaaRef07k
import Derived.Test.YtplndcjmbgkcjaaCodeEnc
import Derived.LoopTactic
namespace Go.Proofs.Ytplndcjmbgkcjaa
open Go.RowKit
set_option linter.unusedVariables false
set_option linter.unusedSimpArgs false

set_option maxRecDepth 100000 in
set_option maxHeartbeats 2000000 in
theorem r7_Decode_size (b : List Int) (A : Option Addr) (c : Nat) (w : World) (hl : b.length ≤ 100000) (hn : b.length % 8 ≠ 0 ∨ 4096 < b.length) :
    Calls Try.prog 21 #[.slice A b.length c] w (DecW ([], 0, 70) w) := by
  have V : Hid (DecW ([], 0, 70) w (.returned (.tuple #[.slice none 0 0, .int .i64 0, .int .i64 70])) w) := Lib.hid ⟨none, 0, rfl, InsS.none_ _ _, Nat.le_refl _, Nat.zero_le _, Below.refl _ _⟩
  generalize b.length = n at *
  have hn0 : (0 : Int) ≤ n := by omega
  by_cases h8 : n % 8 = 0
  · have h4 : (4096 : Int) < n := by omega
    have e8 : ((n : Int) % 8 != 0) = false := by
      unfold bne
      rw [rem_eq, beq_iff_eq.mpr h8]
      rfl
    clear hn h8
    go_enter Try.func21, Try.ntmps21
    go_wp2_with fail
    go_ret3
    exact V.out
  · have e8 : ((n : Int) % 8 != 0) = true := by
      unfold bne
      rw [rem_eq, beq_false_of_ne h8]
      rfl
    clear hn h8
    go_enter Try.func21, Try.ntmps21
    go_wp2_with fail
    go_ret3
    exact V.out

theorem decL_take (b : List Int) {j : Nat} (h : j < b.length / 8) : (decL b).take (j + 1) = (decL b).take j ++ [decI b j] := by
  have e2 : (decL b)[j]? = some (decI b j) := by
    unfold decL
    rw [List.getElem?_map, List.getElem?_range h]
    rfl
  rw [List.take_add_one, e2]
  rfl
theorem one_at (w : World) (x : Ins) (t : TypeId) : ∀ j u, (inC [x])[j]? = some u → (w.alloc (.cells (insCells x) t)).cell? ((⟨w.heap.size, 0, none⟩ : Addr).add j) = some u := by
  intro j u hu
  have hadd : (⟨w.heap.size, 0, none⟩ : Addr).add j = ⟨w.heap.size, j, none⟩ := by unfold Addr.add; split <;> simp_all
  rw [hadd, Blk.cell (Blk.new w (insCells x) t rfl) j, ← hu]
  simp [inC, cI]

set_option maxRecDepth 100000 in
set_option maxHeartbeats 2000000 in
theorem r7_Decode_go (b : List Int) (A : Option Addr) (c : Nat) (w : World) (hl : b.length ≤ 4096) (h : BytS w A b) (hb : OkB b) (hc : b.length ≤ c) (hm : c ≤ maxLen) (h8 : b.length % 8 = 0) (a r : Int) (ha : chk (decL b) = (a, r)) (R : List Ins × Int × Int) (hR : R = if r = 0 then (decL b, 0, 0) else ([], a, r)) :
    Calls Try.prog 21 #[.slice A b.length c] w (DecW R w) := by
  have HR := Lib.hid hR
  clear hR
  have HB : Hid (∀ w', Below w.heap.size w w' → BytS w' A b) := Lib.hid fun w' hw => h.after hw
  have HO := Lib.hid hb
  have HA := Lib.hid ha
  clear h hb ha
  have CK : Hid (∀ A c w, InsS w A (decL b) → Calls Try.prog 17 #[.slice A (b.length / 8 : Nat) c] w (Gives (.tuple #[.int .i64 a, .int .i64 r]) w)) := Lib.hid fun A c w h => by
    have := r7_Check (decL b) A c w (by rw [decL_len]; omega) h (fun k hk => decL_ok HO.out k hk)
    rw [HA.out, decL_len] at this
    exact this
  have e8 : ((b.length : Int) % 8 != 0) = false := by
    unfold bne
    rw [rem_eq, beq_iff_eq.mpr h8]
    rfl
  obtain ⟨i0, hi, hz, h1, h2⟩ := info_parts (show (Try.prog.info? 24).map (fun i => (i.zero, i.size, i.bytes)) = some (some (iV Ins.zero), 5, 12) by kernel_rfl)
  have HINF := Lib.hid (And.intro hi (And.intro hz (And.intro h1 h2)))
  clear hi hz h1 h2
  generalize hn : b.length = n at *
  have HN := Lib.hid hn
  clear hn
  generalize hmm : n / 8 = m at *
  have HM := Lib.hid hmm
  have hnm : m * 8 = n := by omega
  have HNM := Lib.hid hnm
  clear hmm h8
  have hn0 : (0 : Int) ≤ n := by omega
  have h4 : (n : Int) ≤ 4096 := by omega
  have hm2 : m ≤ 512 := by omega
  unfold maxLen at hm
  clear hnm
  have Q0 : Hid (Below w.heap.size w w ∧ w.ownsRow w.heap.size 24 5 (.slice none 0 0) 0 (inC ((decL b).take 0))) := Lib.hid ⟨Below.refl _ _, World.ownsRow_nil _ _ _ _⟩
  go_enter Try.func21, Try.ntmps21
  go_wp2_with fail
  go_loopw [5, 6] (fun s i wr => ∃ j : Nat, i = .int .i64 ((j : Int) * 8) ∧ j ≤ m ∧ Hid (Below w.heap.size w wr ∧ wr.ownsRow w.heap.size 24 5 s j (inC ((decL b).take j)))) (fun s i wr => n + 8 - (intOf i).toNat)
  case atStart => exact ⟨0, rfl, by omega, Q0⟩
  case round =>
    clear Q0
    obtain ⟨j, rfl, hj, Q⟩ := hrel
    have hj0 : (0 : Int) ≤ j := by omega
    by_cases hlt : (j : Int) < m
    · have s1 : (j : Int) * 8 + 8 ≤ n := by have := HNM.out; omega
      have s2 : (n : Int) ≤ c := by omega
      have s3 : (0 : Int) ≤ (j : Int) * 8 := by omega
      obtain ⟨g, o, hA, hg, hcell⟩ := HB.out _ Q.out.1 (by rw [HN.out]; omega)
      have HBA : Hid (BytAt wr g o b) := Lib.hid ⟨hg, hcell⟩
      clear hg hcell
      subst hA
      have TK : Hid (∀ w c, BytAt w g o b → Calls Try.prog 43 #[.slice (some ⟨g, o + j * 8, none⟩) 8 c] w (Gives (.tuple #[iV (decI b j), .int .i64 0]) w)) := Lib.hid (fun w c h => r7_Take b g o c j w HO.out (by rw [HN.out, HM.out]; omega) h)
      have DT : Hid ((decL b).take (j + 1) = (decL b).take j ++ [decI b j]) := Lib.hid (decL_take b (by rw [HN.out, HM.out]; omega))
      generalize decI b j = x at *
      go_wp2_with fail
      refine (TK.out _ _ HBA.out).mono ?_
      rintro e w7 ⟨rfl, b7⟩
      replace Q : Hid (Below w.heap.size w w7 ∧ w7.ownsRow w.heap.size 24 5 u5 j (inC ((decL b).take j))) := Lib.hid ⟨below_next' Q.out.1 b7, own_after Q.out.2 b7⟩
      have Q2 : Hid (Below w.heap.size w ((w7.alloc (.cells (insCells x) 24)).alloc (.cells (insCells x) 24)) ∧ ((w7.alloc (.cells (insCells x) 24)).alloc (.cells (insCells x) 24)).ownsRow w.heap.size 24 5 u5 j (inC ((decL b).take j))) := Lib.hid ⟨below_alloc (below_alloc Q.out.1 _) _, own_after Q.out.2 (below_alloc (below_alloc (Below.refl _ _) _) _)⟩
      have H1 : Hid (∀ j u, (inC [x])[j]? = some u → ((w7.alloc (.cells (insCells x) 24)).alloc (.cells (insCells x) 24)).cell? ((⟨w7.heap.size + 1, 0, none⟩ : Addr).add j) = some u) := Lib.hid (by
        have := one_at (w7.alloc (.cells (insCells x) 24)) x 24
        simpa using this)
      clear b7 TK HBA
      go_wp2_with ((at_builtin; refine wpList_append_own _ rfl (.tmp 36) (.tmp 38) _ rfl w.heap.size 24 i0 (iV Ins.zero) 5 12 Try.underlying31 HINF.out.1 HINF.out.2.1 HINF.out.2.2.1 HINF.out.2.2.2 rfl (by omega) u5 j (inC ((decL b).take j)) rfl Q2.out.2 ⟨w7.heap.size + 1, 0, none⟩ 1 1 (inC [x]) rfl rfl H1.out (inC_one _) (by unfold maxLen; omega) (by omega) Q2.out.1.size ?_; intro v1 w1 hown1 hg1 hn1))
      have QS : Hid (Below w.heap.size w w1 ∧ w1.ownsRow w.heap.size 24 5 v1 (j + 1) (inC ((decL b).take (j + 1)))) := Lib.hid ⟨below_own Q2.out.1 Q2.out.2 Q2.out.1.size hg1, by
        rw [DT.out, inC_app]
        exact hown1⟩
      clear hown1 hg1 hn1 Q Q2 H1
      go_wp2_with fail
      go_round
      case rel => exact ⟨j + 1, by go_num, by omega, QS⟩
      case measure => simp [intOf]; omega
    · have hjm : j = m := by omega
      have e2 : (decL b).take j = decL b := by rw [hjm, ← HM.out, ← HN.out, ← decL_len]; exact List.take_length
      have DL : Hid (m = (decL b).length) := Lib.hid (by rw [decL_len, HN.out, HM.out])
      have hge : (n : Int) < (j : Int) * 8 + 8 := by have := HNM.out; omega
      rw [e2, hjm] at Q
      obtain ⟨A', c', hv, k1, k2⟩ := own_slice Q.out.2
      subst hv
      have IS := Lib.hid (own_insS DL.out Q.out.2)
      have K := Lib.hid (And.intro k1 k2)
      have hup : (j : Int) ≤ 512 := by omega
      clear e2 hjm hj hlt k1 k2
      cases hr : (r == 0)
      · have hr0 : ¬ r = 0 := fun h => by rw [h] at hr; exact absurd hr (by decide)
        have HE : Hid (R = ([], a, r)) := Lib.hid (by rw [HR.out, if_neg hr0])
        have n0 : (r != 0) = true := by unfold bne; rw [hr]; rfl
        clear hr hr0
        go_wp2_with fail
        refine (CK.out _ _ _ IS.out).mono ?_
        rintro e w8 ⟨rfl, b8⟩
        have V : Hid (DecW R w (.returned (.tuple #[.slice none 0 0, .int .i64 a, .int .i64 r])) w8) := Lib.hid (by
          rw [HE.out]
          exact ⟨none, 0, rfl, InsS.none_ _ _, Nat.le_refl _, Nat.zero_le _, below_next' Q.out.1 b8⟩)
        clear b8
        go_wp2_with fail
        go_ret3
        exact V.out
      · have hr0 : r = 0 := beq_iff_eq.mp hr
        have HE : Hid (R = (decL b, 0, 0)) := Lib.hid (by rw [HR.out, if_pos hr0])
        have n0 : (r != 0) = false := by unfold bne; rw [hr]; rfl
        clear hr hr0
        go_wp2_with fail
        refine (CK.out _ _ _ IS.out).mono ?_
        rintro e w8 ⟨rfl, b8⟩
        have V : Hid (DecW R w (.returned (.tuple #[.slice A' m c', .int .i64 0, .int .i64 0])) w8) := Lib.hid (by
          rw [HE.out]
          exact ⟨_, c', by rw [← DL.out], IS.out.after b8, by rw [← DL.out]; exact K.out.1, K.out.2, below_next' Q.out.1 b8⟩)
        clear b8
        go_wp2_with fail
        go_ret3
        exact V.out

theorem fits_of {n : Nat} : fitsB n = true ↔ 0 < n ∧ n ≤ 512 := by
  unfold fitsB
  simp only [Bool.and_eq_true, decide_eq_true_eq]
  omega
theorem r7_Decode (b : List Int) (A : Option Addr) (c : Nat) (w : World) (hl : b.length ≤ 100000) (h : BytS w A b) (hb : OkB b) (hc : b.length ≤ c) (hm : c ≤ maxLen) :
    Calls Try.prog 21 #[.slice A b.length c] w (DecW (decR b) w) := by
  unfold decR
  by_cases hn : b.length % 8 ≠ 0 ∨ 4096 < b.length
  · have h' : b.length % 8 ≠ 0 ∨ fitsB (b.length / 8 : Nat) = false := by
      rcases hn with h | h
      · exact Or.inl h
      · by_cases h8 : b.length % 8 = 0
        · right
          cases hf : fitsB (b.length / 8 : Nat)
          · rfl
          · have := fits_of.mp hf
            omega
        · exact Or.inl h8
    rw [if_pos h']
    exact r7_Decode_size b A c w hl hn
  · have h8 : b.length % 8 = 0 := by omega
    cases hf : fitsB (b.length / 8 : Nat)
    · rw [if_pos (Or.inr rfl)]
      have hz : decL b = [] := by
        have : ¬ (0 < b.length / 8 ∧ b.length / 8 ≤ 512) := fun h => by rw [fits_of.mpr h] at hf; cases hf
        apply List.eq_nil_of_length_eq_zero
        rw [decL_len]
        omega
      exact r7_Decode_go b A c w (by omega) h hb hc hm h8 0 70 (by rw [hz]; rfl) _ (by rw [if_neg (by decide)])
    · rw [if_neg (by simp [h8])]
      exact r7_Decode_go b A c w (by omega) h hb hc hm h8 _ _ rfl _ rfl

end Go.Proofs.Ytplndcjmbgkcjaa
