/-
  Layer 7: whether two rows of instructions are one; the first ones.
  Conditions: none.
-/
import Derived.Test.YtplndcjmbgkcjaaInsRow
import Derived.LoopTactic
namespace Go.Proofs.Ytplndcjmbgkcjaa
open Go.RowKit
set_option linter.unusedVariables false
set_option linter.unusedSimpArgs false

def eqB (x y : Ins) : Bool := x.op == y.op && (x.dst == y.dst && (x.src == y.src && (x.off == y.off && x.imm == y.imm)))
theorem eqB_iff (x y : Ins) : eqB x y = true ↔ x = y := by
  obtain ⟨a, b, c, d, e⟩ := x
  obtain ⟨a', b', c', d', e'⟩ := y
  simp [eqB]
def sameB (l m : List Ins) : Bool := l.length == m.length && (List.range l.length).all fun k => eqB (iAt l k) (iAt m k)
theorem sameB_iff (l m : List Ins) : sameB l m = true ↔ l = m := by
  unfold sameB
  constructor
  · intro h
    simp only [Bool.and_eq_true, beq_iff_eq, List.all_eq_true, List.mem_range] at h
    apply List.ext_getElem h.1
    intro k h1 h2
    have := (eqB_iff _ _).mp (h.2 k h1)
    unfold iAt at this
    rw [List.getD_eq_getElem?_getD, List.getD_eq_getElem?_getD, List.getElem?_eq_getElem h1, List.getElem?_eq_getElem h2] at this
    exact this
  · rintro rfl
    simp only [Bool.and_eq_true, beq_iff_eq, List.all_eq_true, List.mem_range, true_and]
    exact fun k _ => (eqB_iff _ _).mpr rfl
theorem sameB_no {l m : List Ins} {k : Nat} (h : k < l.length) (he : eqB (iAt l k) (iAt m k) = false) : sameB l m = false := by
  cases hs : sameB l m
  · rfl
  · rw [sameB_iff] at hs
    subst hs
    rw [(eqB_iff _ _).mpr rfl] at he
    cases he
theorem sameB_yes {l m : List Ins} (h : l.length = m.length) (ha : ∀ k, k < l.length → eqB (iAt l k) (iAt m k) = true) : sameB l m = true := by
  unfold sameB
  simp only [Bool.and_eq_true, beq_iff_eq, List.all_eq_true, List.mem_range]
  exact ⟨h, ha⟩

set_option maxRecDepth 100000 in
set_option maxHeartbeats 2000000 in
theorem r7_Same (l m : List Ins) (A B : Option Addr) (c d : Nat) (w : World) (hl : l.length ≤ 100000) (hm : m.length ≤ 100000) (h : InsS w A l) (h' : InsS w B m) :
    Calls Try.prog 22 #[.slice A l.length c, .slice B m.length d] w (Gives (.bool (sameB l m)) w) := by
  by_cases hlm : l.length = m.length
  rotate_left 1
  · have e : sameB l m = false := by unfold sameB; rw [beq_false_of_ne hlm]; rfl
    rw [e]
    have hne : ((l.length : Int) != (m.length : Int)) = true := by
      unfold bne
      rw [beq_false_of_ne (by omega)]
      rfl
    clear e hlm h h'
    generalize l.length = n at *
    generalize m.length = n' at *
    go_enter Try.func22, Try.ntmps22
    go_wp2_with fail
    go_ret
    exact ⟨rfl, Below.refl _ _⟩
  have HI := Lib.hid h
  have HJ := Lib.hid h'
  have HM : Hid (m.length = l.length) := Lib.hid hlm.symm
  rw [← hlm]
  clear h h' hlm hm
  generalize hn : l.length = n at *
  have HN := Lib.hid hn
  clear hn
  have hn0 : (0 : Int) ≤ n := by omega
  generalize hs : sameB l m = sb at *
  have HS := Lib.hid hs
  clear hs
  go_enter Try.func22, Try.ntmps22
  go_wp2_with fail
  go_loopw [5] (fun i wr => ∃ j : Nat, i = .int .i64 j ∧ j ≤ n ∧ Hid (∀ k, k < j → eqB (iAt l k) (iAt m k) = true) ∧ Hid (Below w.heap.size w wr)) (fun i wr => n - (intOf i).toNat)
  case atStart => exact ⟨0, rfl, by omega, Lib.hid (fun k hk => absurd hk (by omega)), Lib.hid (Below.refl _ _)⟩
  case round =>
    obtain ⟨j, rfl, hj, HK, Q⟩ := hrel
    have hj0 : (0 : Int) ≤ j := by omega
    by_cases hlt : (j : Int) < n
    · have LT : Hid (j < l.length) := Lib.hid (by rw [HN.out]; omega)
      have LT' : Hid (j < m.length) := Lib.hid (by rw [HM.out]; omega)
      obtain ⟨g, o, hA, hg, c0, c1, c2, c3, c4⟩ := (HI.out.after Q.out).at_ LT.out
      obtain ⟨g', o', hB, hg', d0, d1, d2, d3, d4⟩ := (HJ.out.after Q.out).at_ LT'.out
      have HNO : Hid (eqB (iAt l j) (iAt m j) = false → sb = false) := Lib.hid (fun he => HS.out.symm.trans (sameB_no LT.out he))
      have HYES : Hid (eqB (iAt l j) (iAt m j) = true → ∀ k, k < j + 1 → eqB (iAt l k) (iAt m k) = true) := Lib.hid (fun he k hk => by
        by_cases hkj : k = j
        · rw [hkj]; exact he
        · exact HK.out k (by omega))
      generalize iAt l j = x at *
      generalize iAt m j = y at *
      subst hA hB
      clear HI HJ
      by_cases z0 : x.op = y.op
      rotate_left 1
      · have E : Hid (sb = false) := Lib.hid (HNO.out (by unfold eqB; simp [z0]))
        clear HNO HYES HK
        go_wp2_with fail
        go_quiet (fail)
        go_wp2
        go_ret
        exact ⟨by rw [E.out]; rfl, below_drewN Q.out _⟩
      by_cases z1 : x.dst = y.dst
      rotate_left 1
      · have E : Hid (sb = false) := Lib.hid (HNO.out (by unfold eqB; simp [z0, z1]))
        clear HNO HYES HK
        go_wp2_with fail
        go_quiet (fail)
        go_wp2
        go_ret
        exact ⟨by rw [E.out]; rfl, below_drewN Q.out _⟩
      by_cases z2 : x.src = y.src
      rotate_left 1
      · have E : Hid (sb = false) := Lib.hid (HNO.out (by unfold eqB; simp [z0, z1, z2]))
        clear HNO HYES HK
        go_wp2_with fail
        go_quiet (fail)
        go_wp2
        go_ret
        exact ⟨by rw [E.out]; rfl, below_drewN Q.out _⟩
      by_cases z3 : x.off = y.off
      rotate_left 1
      · have E : Hid (sb = false) := Lib.hid (HNO.out (by unfold eqB; simp [z0, z1, z2, z3]))
        clear HNO HYES HK
        go_wp2_with fail
        go_quiet (fail)
        go_wp2
        go_ret
        exact ⟨by rw [E.out]; rfl, below_drewN Q.out _⟩
      by_cases z4 : x.imm = y.imm
      rotate_left 1
      · have E : Hid (sb = false) := Lib.hid (HNO.out (by unfold eqB; simp [z0, z1, z2, z3, z4]))
        clear HNO HYES HK
        go_wp2_with fail
        go_quiet (fail)
        go_wp2
        go_ret
        exact ⟨by rw [E.out]; rfl, below_drewN Q.out _⟩
      have HR := Lib.hid (HYES.out (by unfold eqB; simp [z0, z1, z2, z3, z4]))
      clear HNO HYES HK
      go_wp2_with fail
      go_quiet (fail)
      go_wp2
      go_round
      case rel => exact ⟨j + 1, by go_num, by omega, HR, Lib.hid (below_drewN Q.out _)⟩
      case measure => simp [intOf]; omega
    · have hjn : j = n := by omega
      have E : Hid (sb = true) := Lib.hid (HS.out.symm.trans (sameB_yes (HN.out.trans HM.out.symm) (fun k hk => HK.out k (by rw [hjn, ← HN.out]; exact hk))))
      clear HK hjn
      go_wp2_with fail
      go_ret
      exact ⟨by rw [E.out]; rfl, Q.out⟩

def fewL (l : List Ins) : List Ins := l.take 520
theorem few_len (l : List Ins) : (fewL l).length ≤ 520 := by unfold fewL; rw [List.length_take]; omega
theorem few_at (l : List Ins) {k : Nat} (h : k < (fewL l).length) : iAt (fewL l) k = iAt l k := by
  unfold fewL at *
  rw [List.length_take] at h
  unfold iAt
  rw [List.getD_eq_getElem?_getD, List.getElem?_take, if_pos (by omega), ← List.getD_eq_getElem?_getD]
theorem few_ins {w : World} {A : Option Addr} {l : List Ins} (h : InsS w A l) : InsS w A (fewL l) := fun hl => by
  have hle : (fewL l).length ≤ l.length := by unfold fewL; rw [List.length_take]; omega
  obtain ⟨g, o, e, hg, hc⟩ := h (by omega)
  exact ⟨g, o, e, hg, fun k hk => by rw [few_at l hk]; exact hc k (by omega)⟩
theorem few_ok {l : List Ins} (h : OkAll l) : OkAll (fewL l) := fun k hk => by
  rw [few_at l hk]
  have hle : (fewL l).length ≤ l.length := by unfold fewL; rw [List.length_take]; omega
  exact h k (by omega)

set_option maxRecDepth 100000 in
set_option maxHeartbeats 2000000 in
theorem l7_few (l : List Ins) (A : Option Addr) (c : Nat) (w : World) (hc : l.length ≤ c) (hm : c ≤ maxLen) :
    Calls Try.prog 15 #[.slice A l.length c] w (Gives (.slice A (fewL l).length c) w) := by
  have e : (fewL l).length = min 520 l.length := by unfold fewL; rw [List.length_take]
  rw [e]
  clear e
  generalize l.length = n at *
  unfold maxLen at hm
  by_cases h : n ≤ 520
  · rw [Nat.min_eq_right h]
    have h1 : (n : Int) ≤ 520 := by omega
    have h2 : min (n : Int) 520 = n := by omega
    go_enter Try.func15, Try.ntmps15
    go_wp2_with fail
    go_ret
    exact ⟨rfl, Below.refl _ _⟩
  · rw [Nat.min_eq_left (by omega)]
    have h1 : (520 : Int) < n := by omega
    have h2 : min (n : Int) 520 = 520 := by omega
    go_enter Try.func15, Try.ntmps15
    go_wp2_with fail
    go_ret
    exact ⟨rfl, Below.refl _ _⟩

end Go.Proofs.Ytplndcjmbgkcjaa
