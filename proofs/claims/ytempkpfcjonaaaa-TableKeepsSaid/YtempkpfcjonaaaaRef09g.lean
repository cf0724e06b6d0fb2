/-
  Layer 9's own Put, whole; Right.
  Conditions: the numbers fit their kinds; few areas; the bytes are not of memory.
-/
import Derived.Test.YtempkpfcjonaaaaRef09f
namespace Go.Proofs.Ytempkpfcjonaaaa
open Go.RowKit
set_option maxRecDepth 100000
set_option linter.unusedVariables false
set_option linter.unusedSimpArgs false

theorem r9_Put (w : World) (gt g2 : Nat) (T : TT) (M : PM) (F G : Nat → Prop) (i : Int) (key val : List Int) (B C : Option Addr) (n d m c : Nat) (fl : Int) (h : RepB w gt g2 T M F G) (hT : T.length ≤ 1000)
    (hb : Keep G w B key) (hob : OkB key) (hn : key.length = n) (hnd : n ≤ d) (hv : Keep G w C val) (hov : OkB val) (hvn : val.length = m) (hmc : m ≤ c) (hcm : c ≤ maxLen) (hfl : 0 ≤ fl ∧ fl ≤ 18446744073709551615) (hM : M.length ≤ 100000) :
    Calls Try.prog 36 #[.pointer (some ⟨gt, 0, none⟩), .int .i64 i, .slice B n d, .slice C m c, .int .u64 fl] w (PutW gt g2 F G (tPut T M i key val fl) w) := by
  cases hm : tMay T i key
  · have e : tPut T M i key val fl = ⟨T, M, 0, 1⟩ := by unfold tPut; rw [hm]; rfl
    rw [e]
    exact r9_Put_no w gt g2 T M F G i key val B C n d m c fl h hn hnd hm
  · obtain ⟨i0, i1, _⟩ := may_yes hm
    obtain ⟨k, rfl⟩ : ∃ k : Nat, i = k := ⟨i.toNat, by omega⟩
    obtain ⟨vl, L, rfl, h'⟩ := h.maps
    rw [trM_len] at hT i1
    exact r9_Put_yes w gt g2 L vl M F G k key val B C n d m c fl h h' (by omega) hT hb hob hn hnd hv hov hvn hmc hcm hfl hM hm _ rfl

/-- The cells of what maps are. -/
def cDf (d : Df) : List Value := [.bool d.hash, .int .i64 d.key, .int .i64 d.val, .int .i64 d.max]
def dAt (l : List Df) (k : Nat) : Df := l.getD k Df.zero
def DefS (w : World) (A : Option Addr) (l : List Df) : Prop :=
  0 < l.length → ∃ g o, A = some ⟨g, o, none⟩ ∧ g < w.heap.size ∧ ∀ k, k < l.length → w.cell? ⟨g, o + k * 4, none⟩ = some (.bool (dAt l k).hash) ∧ w.cell? ⟨g, o + k * 4 + 1, none⟩ = some (.int .i64 (dAt l k).key) ∧ w.cell? ⟨g, o + k * 4 + 2, none⟩ = some (.int .i64 (dAt l k).val) ∧ w.cell? ⟨g, o + k * 4 + 3, none⟩ = some (.int .i64 (dAt l k).max)
theorem DefS.after {w w' : World} {A : Option Addr} {l : List Df} (h : DefS w A l) (b : Below w.heap.size w w') : DefS w' A l := fun hl => by
  obtain ⟨g, o, e, hg, hc⟩ := h hl
  have q : ∀ p, w'.cell? ⟨g, p, none⟩ = w.cell? ⟨g, p, none⟩ := fun p => b.cell (p := ⟨g, p, none⟩) hg
  exact ⟨g, o, e, Nat.lt_of_lt_of_le hg b.size, fun k hk => by rw [q, q, q, q]; exact hc k hk⟩
theorem all_from {l : List Df} (h : ∀ t, t < l.length → (dAt l t).good = true) : l.all Df.good = true := by
  rw [List.all_eq_true]
  intro x hx
  obtain ⟨i, hi, rfl⟩ := List.mem_iff_getElem.mp hx
  have := h i hi
  unfold dAt at this
  rw [List.getD_eq_getElem?_getD, List.getElem?_eq_getElem hi] at this
  exact this
theorem all_not {l : List Df} {j : Nat} (hj : j < l.length) (h : (dAt l j).good = false) : l.all Df.good = false := by
  cases hx : l.all Df.good
  · rfl
  · rw [List.all_eq_true] at hx
    have := hx (dAt l j) (by unfold dAt; rw [List.getD_eq_getElem?_getD, List.getElem?_eq_getElem hj]; exact List.getElem_mem hj)
    rw [h] at this
    cases this

set_option maxHeartbeats 4000000 in
theorem r9_Right (w : World) (A : Option Addr) (c : Nat) (l : List Df) (hl : DefS w A l) (hlc : l.length ≤ c) (hcm : c ≤ maxLen) : Calls Try.prog 13 #[.slice A l.length c] w (Gives (.bool (tRight l)) w) := by
  have HALL := Lib.hid (fun h => all_from (l := l) h)
  have HNOT := Lib.hid (fun j h1 h2 => all_not (l := l) (j := j) h1 h2)
  have HR : Hid (tRight l = (l.all Df.good && decide (l.length ≤ 8))) := Lib.hid rfl
  have HL := Lib.hid hl
  clear hl
  unfold maxLen at hcm
  generalize hn : l.length = n at *
  have HN := Lib.hid hn
  clear hn
  go_enter Try.func13, Try.ntmps13
  go_wp2_with fail
  go_loopw [3] (fun iv wr => ∃ j : Nat, iv = .int .i64 j ∧ j ≤ n ∧ Hid (∀ t, t < j → (dAt l t).good = true) ∧ Hid (Below w.heap.size w wr)) (fun iv wr => n - (intOf iv).toNat)
  case atStart => exact ⟨0, rfl, by omega, Lib.hid fun t ht => by omega, Lib.hid (Below.refl _ _)⟩
  case round =>
    obtain ⟨j, rfl, hj, HT, V⟩ := hrel
    have j0 : (0 : Int) ≤ j := by omega
    by_cases hlt : (j : Int) < n
    · have hjn : j < n := by omega
      obtain ⟨g, o, rfl, hg, hc⟩ := HL.out.after V.out (by rw [HN.out]; exact Nat.lt_of_le_of_lt (Nat.zero_le _) hjn)
      obtain ⟨c0, c1, c2, c3⟩ := hc j (by rw [HN.out]; exact hjn)
      have GB : Hid (∀ b, ((if (dAt l j).hash then decide (1 ≤ (dAt l j).key) && decide ((dAt l j).key ≤ 16) else (dAt l j).key == 4) && decide (8 ≤ (dAt l j).val) && decide ((dAt l j).val ≤ 64) && ((dAt l j).val % 8 == 0) && decide (1 ≤ (dAt l j).max) && decide ((dAt l j).max ≤ 16)) = b → (dAt l j).good = b) := Lib.hid fun b h => h
      have BAD : Hid ((dAt l j).good = false → tRight l = false) := Lib.hid fun h => by rw [HR.out, HNOT.out j hjn h]; rfl
      have NEXT : Hid ((dAt l j).good = true → ∀ t, t < j + 1 → (dAt l t).good = true) := Lib.hid fun h t ht => by
        by_cases e : t = j
        · rw [e]; exact h
        · exact HT.out t (by omega)
      clear hc
      have V2 := Lib.hid (below_alloc V.out (.cells #[.bool (dAt l j).hash, .int .i64 (dAt l j).key, .int .i64 (dAt l j).val, .int .i64 (dAt l j).max] 53))
      generalize (dAt l j).good = gd at *
      generalize (dAt l j).hash = hh at *
      generalize (dAt l j).key = key at *
      generalize (dAt l j).val = val at *
      generalize (dAt l j).max = mx at *
      have hk : (hh = true ∧ key < 1) ∨ (hh = true ∧ 1 ≤ key ∧ 16 < key) ∨ (hh = false ∧ ¬ key = 4) ∨ (hh = true ∧ 1 ≤ key ∧ key ≤ 16) ∨ (hh = false ∧ key = 4) := by
        cases hh
        · by_cases h : key = 4
          · exact .inr (.inr (.inr (.inr ⟨rfl, h⟩)))
          · exact .inr (.inr (.inl ⟨rfl, h⟩))
        · by_cases h : key < 1
          · exact .inl ⟨rfl, h⟩
          · by_cases h2 : 16 < key
            · exact .inr (.inl ⟨rfl, by omega, h2⟩)
            · exact .inr (.inr (.inr (.inl ⟨rfl, by omega, by omega⟩)))
      have hv : val < 8 ∨ (8 ≤ val ∧ 64 < val) ∨ (8 ≤ val ∧ val ≤ 64 ∧ (val % 8 == 0) = false) ∨ (8 ≤ val ∧ val ≤ 64 ∧ (val % 8 == 0) = true ∧ mx < 1) ∨ (8 ≤ val ∧ val ≤ 64 ∧ (val % 8 == 0) = true ∧ 1 ≤ mx ∧ 16 < mx) ∨ (8 ≤ val ∧ val ≤ 64 ∧ (val % 8 == 0) = true ∧ 1 ≤ mx ∧ mx ≤ 16) := by
        by_cases h1 : val < 8
        · exact .inl h1
        · by_cases h2 : 64 < val
          · exact .inr (.inl ⟨by omega, h2⟩)
          · cases h3 : (val % 8 == 0)
            · exact .inr (.inr (.inl ⟨by omega, by omega, rfl⟩))
            · by_cases h4 : mx < 1
              · exact .inr (.inr (.inr (.inl ⟨by omega, by omega, rfl, h4⟩)))
              · by_cases h5 : 16 < mx
                · exact .inr (.inr (.inr (.inr (.inl ⟨by omega, by omega, rfl, by omega, h5⟩))))
                · exact .inr (.inr (.inr (.inr (.inr ⟨by omega, by omega, rfl, by omega, by omega⟩))))
      have fin : ∀ b, gd = b → b = gd := fun b h => h.symm
      rcases hk with ⟨rfl, k1⟩ | ⟨rfl, k1, k2⟩ | ⟨rfl, k1⟩ | ⟨rfl, k1, k2⟩ | ⟨rfl, k1⟩
      · have G0 := Lib.hid (BAD.out (GB.out false (by rw [if_pos rfl, decide_eq_false (by omega : ¬ 1 ≤ key)]; try rfl)))
        clear hv fin
        cases h4 : (key == 4) <;>
        · go_wp2_with fail
          go_ret
          exact ⟨end_bool G0.out.symm, V2.out⟩
      · have G0 := Lib.hid (BAD.out (GB.out false (by rw [if_pos rfl, decide_eq_false (by omega : ¬ key ≤ 16), Bool.and_false]; try rfl)))
        clear hv fin
        cases h4 : (key == 4) <;>
        · go_wp2_with fail
          go_ret
          exact ⟨end_bool G0.out.symm, V2.out⟩
      · have h4 : (key == 4) = false := by simpa using k1
        have G0 := Lib.hid (BAD.out (GB.out false (by rw [if_neg Bool.false_ne_true, h4]; try rfl)))
        clear hv fin
        go_wp2_with fail
        go_ret
        exact ⟨end_bool G0.out.symm, V2.out⟩
      · have GK : Hid ((if true = true then decide (1 ≤ key) && decide (key ≤ 16) else key == 4) = true) := Lib.hid (by rw [if_pos rfl, decide_eq_true k1, decide_eq_true k2]; rfl)
        rcases hv with v1 | ⟨v1, v2⟩ | ⟨v1, v2, v3⟩ | ⟨v1, v2, v3, v4⟩ | ⟨v1, v2, v3, v4, v5⟩ | ⟨v1, v2, v3, v4, v5⟩
        · have G0 := Lib.hid (BAD.out (GB.out false (by rw [GK.out, decide_eq_false (by omega : ¬ 8 ≤ val), Bool.and_false]; try rfl)))
          clear fin GK
          go_wp2_with fail
          go_ret
          exact ⟨end_bool G0.out.symm, V2.out⟩
        · have G0 := Lib.hid (BAD.out (GB.out false (by rw [GK.out, decide_eq_true v1, decide_eq_false (by omega : ¬ val ≤ 64), Bool.and_false]; try rfl)))
          clear fin GK
          go_wp2_with fail
          go_ret
          exact ⟨end_bool G0.out.symm, V2.out⟩
        · have G0 := Lib.hid (BAD.out (GB.out false (by rw [GK.out, decide_eq_true v1, decide_eq_true v2, v3, Bool.and_false]; try rfl)))
          have ht : val.tmod 8 = val % 8 := Int.tmod_eq_emod_of_nonneg (by omega)
          have hm8 : (val % 8 != 0) = true := by unfold bne; rw [v3]; rfl
          clear fin GK
          go_wp2_with fail
          go_ret
          exact ⟨end_bool G0.out.symm, V2.out⟩
        · have G0 := Lib.hid (BAD.out (GB.out false (by rw [GK.out, decide_eq_true v1, decide_eq_true v2, v3, decide_eq_false (by omega : ¬ 1 ≤ mx), Bool.and_false]; try rfl)))
          have ht : val.tmod 8 = val % 8 := Int.tmod_eq_emod_of_nonneg (by omega)
          have hm8 : (val % 8 != 0) = false := by unfold bne; rw [v3]; rfl
          clear fin GK
          go_wp2_with fail
          go_ret
          exact ⟨end_bool G0.out.symm, V2.out⟩
        · have G0 := Lib.hid (BAD.out (GB.out false (by rw [GK.out, decide_eq_true v1, decide_eq_true v2, v3, decide_eq_true v4, decide_eq_false (by omega : ¬ mx ≤ 16), Bool.and_false]; try rfl)))
          have ht : val.tmod 8 = val % 8 := Int.tmod_eq_emod_of_nonneg (by omega)
          have hm8 : (val % 8 != 0) = false := by unfold bne; rw [v3]; rfl
          clear fin GK
          go_wp2_with fail
          go_ret
          exact ⟨end_bool G0.out.symm, V2.out⟩
        · have N0 := Lib.hid (NEXT.out (GB.out true (by rw [GK.out, decide_eq_true v1, decide_eq_true v2, v3, decide_eq_true v4, decide_eq_true v5]; try rfl)))
          have ht : val.tmod 8 = val % 8 := Int.tmod_eq_emod_of_nonneg (by omega)
          have hm8 : (val % 8 != 0) = false := by unfold bne; rw [v3]; rfl
          clear fin GK
          go_wp2_with fail
          go_round
          case rel => exact ⟨j + 1, by go_num, by omega, N0, V2⟩
          case measure => simp [intOf]; omega
      · have h4 : (key == 4) = true := by simpa using k1
        have GK : Hid ((if false = true then decide (1 ≤ key) && decide (key ≤ 16) else key == 4) = true) := Lib.hid (by rw [if_neg Bool.false_ne_true]; exact h4)
        clear k1
        rcases hv with v1 | ⟨v1, v2⟩ | ⟨v1, v2, v3⟩ | ⟨v1, v2, v3, v4⟩ | ⟨v1, v2, v3, v4, v5⟩ | ⟨v1, v2, v3, v4, v5⟩
        · have G0 := Lib.hid (BAD.out (GB.out false (by rw [GK.out, decide_eq_false (by omega : ¬ 8 ≤ val), Bool.and_false]; try rfl)))
          clear fin GK
          go_wp2_with fail
          go_ret
          exact ⟨end_bool G0.out.symm, V2.out⟩
        · have G0 := Lib.hid (BAD.out (GB.out false (by rw [GK.out, decide_eq_true v1, decide_eq_false (by omega : ¬ val ≤ 64), Bool.and_false]; try rfl)))
          clear fin GK
          go_wp2_with fail
          go_ret
          exact ⟨end_bool G0.out.symm, V2.out⟩
        · have G0 := Lib.hid (BAD.out (GB.out false (by rw [GK.out, decide_eq_true v1, decide_eq_true v2, v3, Bool.and_false]; try rfl)))
          have ht : val.tmod 8 = val % 8 := Int.tmod_eq_emod_of_nonneg (by omega)
          have hm8 : (val % 8 != 0) = true := by unfold bne; rw [v3]; rfl
          clear fin GK
          go_wp2_with fail
          go_ret
          exact ⟨end_bool G0.out.symm, V2.out⟩
        · have G0 := Lib.hid (BAD.out (GB.out false (by rw [GK.out, decide_eq_true v1, decide_eq_true v2, v3, decide_eq_false (by omega : ¬ 1 ≤ mx), Bool.and_false]; try rfl)))
          have ht : val.tmod 8 = val % 8 := Int.tmod_eq_emod_of_nonneg (by omega)
          have hm8 : (val % 8 != 0) = false := by unfold bne; rw [v3]; rfl
          clear fin GK
          go_wp2_with fail
          go_ret
          exact ⟨end_bool G0.out.symm, V2.out⟩
        · have G0 := Lib.hid (BAD.out (GB.out false (by rw [GK.out, decide_eq_true v1, decide_eq_true v2, v3, decide_eq_true v4, decide_eq_false (by omega : ¬ mx ≤ 16), Bool.and_false]; try rfl)))
          have ht : val.tmod 8 = val % 8 := Int.tmod_eq_emod_of_nonneg (by omega)
          have hm8 : (val % 8 != 0) = false := by unfold bne; rw [v3]; rfl
          clear fin GK
          go_wp2_with fail
          go_ret
          exact ⟨end_bool G0.out.symm, V2.out⟩
        · have N0 := Lib.hid (NEXT.out (GB.out true (by rw [GK.out, decide_eq_true v1, decide_eq_true v2, v3, decide_eq_true v4, decide_eq_true v5]; try rfl)))
          have ht : val.tmod 8 = val % 8 := Int.tmod_eq_emod_of_nonneg (by omega)
          have hm8 : (val % 8 != 0) = false := by unfold bne; rw [v3]; rfl
          clear fin GK
          go_wp2_with fail
          go_round
          case rel => exact ⟨j + 1, by go_num, by omega, N0, V2⟩
          case measure => simp [intOf]; omega
    · have hjn : j = n := by omega
      subst hjn
      have HA := Lib.hid (HALL.out HT.out)
      have HE : Hid (tRight l = decide ((j : Int) ≤ 8)) := Lib.hid (by rw [HR.out, HA.out, Bool.true_and, decide_eq_decide]; omega)
      go_wp2_with fail
      go_ret
      exact ⟨end_bool HE.out.symm, V.out⟩

end Go.Proofs.Ytempkpfcjonaaaa
