/-
  Layer 8's own Load.
  Conditions: the numbers fit their kinds.
-/
import Derived.Test.YtegmhbflgceecaaRef08c
namespace Go.Proofs.Ytegmhbflgceecaa
open Go.RowKit
set_option linter.unusedVariables false
set_option linter.unusedSimpArgs false

set_option maxRecDepth 100000 in
set_option maxHeartbeats 2000000 in
theorem r8_Load_no (w : World) (g : Nat) (M : PM) (F : Nat → Prop) (at_ s : Int) (hf : fitsZ s = false) :
    Calls Try.prog 17 #[.pointer (some ⟨g, 0, none⟩), .int .u64 at_, .int .i64 s] w (Gives (.tuple #[.int .u64 0, .int .i64 1]) w) := by
  have C := Lib.hid (r8_fits s)
  rw [hf] at C
  clear hf
  go_enter Try.func17, Try.ntmps17
  go_wp2_with fail
  refine (C.out _).mono ?_
  rintro e w1 ⟨rfl, b1⟩
  have V := Lib.hid b1
  clear b1
  go_wp2_with fail
  go_ret2
  exact ⟨rfl, V.out⟩

set_option maxRecDepth 100000 in
set_option maxHeartbeats 2000000 in
theorem r8_Load_err (w : World) (g : Nat) (M : PM) (F : Nat → Prop) (at_ s : Int) (h : RepR w g M F) (ha : 0 ≤ at_ ∧ at_ ≤ 18446744073709551615) (hf : fitsZ s = true) (he : ((pRead M at_ s).2 == 0) = false) :
    Calls Try.prog 17 #[.pointer (some ⟨g, 0, none⟩), .int .u64 at_, .int .i64 s] w (Gives (.tuple #[.int .u64 0, .int .i64 (pRead M at_ s).2]) w) := by
  have C := Lib.hid (r8_fits s)
  rw [hf] at C
  have D := Lib.hid fun w' (b : Below w.heap.size w w') => r8_Read w' g M F at_ s (h.after b) ha
  have n0 : ((pRead M at_ s).2 != 0) = true := by unfold bne; rw [he]; rfl
  clear hf he
  generalize pRead M at_ s = r at *
  obtain ⟨rb, re⟩ := r
  go_enter Try.func17, Try.ntmps17
  go_wp2_with fail
  refine (C.out _).mono ?_
  rintro e w1 ⟨rfl, b1⟩
  have V := Lib.hid b1
  clear b1
  go_wp2_with fail
  refine (D.out _ V.out).mono ?_
  rintro e w2 ⟨A, c, rfl, _, _, _, b2⟩
  replace V := Lib.hid (below_next' V.out b2)
  clear b2
  simp only at *
  go_wp2_with fail
  go_ret2
  exact ⟨rfl, V.out⟩

set_option maxRecDepth 100000 in
set_option maxHeartbeats 2000000 in
theorem r8_Load_ok (w : World) (g : Nat) (M : PM) (F : Nat → Prop) (at_ s : Int) (h : RepR w g M F) (ha : 0 ≤ at_ ∧ at_ ≤ 18446744073709551615) (hf : fitsZ s = true) (he : (pRead M at_ s).2 = 0) :
    Calls Try.prog 17 #[.pointer (some ⟨g, 0, none⟩), .int .u64 at_, .int .i64 s] w (Gives (.tuple #[.int .u64 (leN (pRead M at_ s).1), .int .i64 0]) w) := by
  have C := Lib.hid (r8_fits s)
  rw [hf] at C
  have D := Lib.hid fun w' (b : Below w.heap.size w w') => r8_Read w' g M F at_ s (h.after b) ha
  have hs : s ≤ 8 := by
    unfold fitsZ at hf
    simp only [Bool.or_eq_true, beq_iff_eq] at hf
    omega
  obtain ⟨l1, l2, l3⟩ := pRead_len he
  have HO := Lib.hid (pRead_ok h.ok at_ s)
  clear hf h
  generalize pRead M at_ s = r at *
  obtain ⟨rb, re⟩ := r
  simp only at he l3
  subst he
  have hl8 : rb.length ≤ 8 := by omega
  have HB : Hid (∀ j, j < rb.length → leN (rb.drop j) = bAt rb j + 256 * leN (rb.drop (j + 1))) := Lib.hid fun j hj => leN_drop hj
  have HS : Hid (∀ j, j < rb.length → 0 ≤ leN (rb.drop (j + 1)) ∧ leN (rb.drop (j + 1)) ≤ 72057594037927935) := Lib.hid fun j hj => leN_small (okB_drop HO.out _) (by rw [List.length_drop]; omega)
  have HE : Hid (leN (rb.drop rb.length) = 0) := Lib.hid (by rw [List.drop_length]; rfl)
  have HZ : Hid (leN (rb.drop 0) = leN rb) := Lib.hid (by rw [List.drop_zero])
  clear l1 l2 l3
  go_enter Try.func17, Try.ntmps17
  go_wp2_with fail
  refine (C.out _).mono ?_
  rintro e w1 ⟨rfl, b1⟩
  have V := Lib.hid b1
  clear b1
  go_wp2_with fail
  refine (D.out _ V.out).mono ?_
  rintro e w2 ⟨A, c, rfl, h2, k1, k2, b2⟩
  replace V := Lib.hid (below_next' V.out b2)
  have H2 := Lib.hid h2
  clear b2 h2 D C
  simp only at *
  generalize hlen : rb.length = n at *
  have HLEN := Lib.hid hlen
  clear hlen
  go_wp2_with fail
  go_loop [10, 11] (fun nv iv => ∃ j : Nat, iv = .int .i64 ((j : Int) - 1) ∧ j ≤ n ∧ nv = .int .u64 (leN (rb.drop j))) (fun nv iv => (intOf iv + 1).toNat)
  case atStart => exact ⟨n, rfl, by omega, by rw [HE.out]⟩
  case round =>
    obtain ⟨j, rfl, hj, rfl⟩ := hrel
    cases j with
    | zero =>
      rw [HZ.out]
      rw [show (((0 : Nat) : Int) - 1) = -1 from rfl]
      go_wp2_with fail
      go_ret2
      exact ⟨rfl, V.out⟩
    | succ j =>
      have e1 : (((j + 1 : Nat) : Int) - 1) = (j : Int) := by omega
      rw [e1]
      have j0 : (0 : Int) ≤ j := by omega
      have jn : (j : Int) < n := by omega
      obtain ⟨s1, s2⟩ := HS.out j (by omega)
      have EQ := Lib.hid (HB.out j (by omega))
      obtain ⟨ga, oa, rfl, hga, hcell⟩ := H2.out (by rw [HLEN.out]; omega)
      have c0 := hcell j (by rw [HLEN.out]; omega)
      obtain ⟨o1, o2⟩ := HO.out j (by rw [HLEN.out]; omega)
      clear hcell e1
      generalize leN (rb.drop (j + 1)) = z at *
      generalize bAt rb j = y at *
      have hzy : z * 256 + y = y + 256 * z := by omega
      go_wp2_with fail
      go_round
      case rel => exact ⟨j, rfl, by omega, by rw [EQ.out]⟩
      case measure => simp [intOf]

theorem r8_Load (w : World) (g : Nat) (M : PM) (F : Nat → Prop) (at_ s : Int) (h : RepR w g M F) (ha : 0 ≤ at_ ∧ at_ ≤ 18446744073709551615) :
    Calls Try.prog 17 #[.pointer (some ⟨g, 0, none⟩), .int .u64 at_, .int .i64 s] w (Gives (.tuple #[.int .u64 (pLoad M at_ s).1, .int .i64 (pLoad M at_ s).2]) w) := by
  unfold pLoad
  cases hf : fitsZ s
  · rw [if_neg Bool.false_ne_true]
    exact r8_Load_no w g M F at_ s hf
  · rw [if_pos rfl]
    by_cases he : (pRead M at_ s).2 = 0
    · rw [if_pos he]
      exact r8_Load_ok w g M F at_ s h ha hf he
    · rw [if_neg he]
      exact r8_Load_err w g M F at_ s h ha hf (beq_false_of_ne he)


end Go.Proofs.Ytegmhbflgceecaa
