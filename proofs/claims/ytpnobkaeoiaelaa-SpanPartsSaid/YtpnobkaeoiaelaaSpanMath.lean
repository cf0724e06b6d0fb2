/-
  Plain numbers: what arithmetic makes of numbers of two spans is where Do says; what If leaves. No program is named here.
-/
import Derived.Test.YtpnobkaeoiaelaaSpanPlain
import Derived.Test.YtpnobkaeoiaelaaAluMath
import Derived.Test.YtpnobkaeoiaelaaCondMath
namespace Go.Proofs.Ytpnobkaeoiaelaa
open Go Go.RowKit
set_option linter.unusedVariables false

theorem sH_iff {s : Sp} {n : Int} : sH s n = true ↔ s.1 ≤ n ∧ n ≤ s.2 := by simp [sH]
theorem div_down {x y z : Int} (hx : 0 ≤ x) (hy : 0 < y) (hz : y ≤ z) : x / z ≤ x / y := by
  have h0 := Int.ediv_nonneg hx (show 0 ≤ z by omega)
  refine (Int.le_ediv_iff_mul_le hy).mpr ?_
  have h1 : x / z * y ≤ x / z * z := Int.mul_le_mul_of_nonneg_left hz h0
  have h2 := Int.ediv_mul_le x (b := z) (by omega)
  omega
theorem div_up {x y z : Int} (hy : 0 < y) (hz : x ≤ z) : x / y ≤ z / y := Int.ediv_le_ediv hy hz
theorem pow_up {k n : Nat} (h : k ≤ n) : (2 : Int) ^ k ≤ 2 ^ n := by
  have h1 := Nat.pow_le_pow_right (n := 2) (by decide) h
  have e1 : ((2 ^ k : Nat) : Int) = (2 : Int) ^ k := by push_cast; rfl
  have e2 : ((2 ^ n : Nat) : Int) = (2 : Int) ^ n := by push_cast; rfl
  omega
theorem and_under (x y : Int) (hx : 0 ≤ x) (hy : 0 ≤ y) : 0 ≤ ((x.toNat &&& y.toNat : Nat) : Int) ∧ ((x.toNat &&& y.toNat : Nat) : Int) ≤ x ∧ ((x.toNat &&& y.toNat : Nat) : Int) ≤ y := by
  have h1 := Nat.and_le_left (n := x.toNat) (m := y.toNat)
  have h2 := Nat.and_le_right (n := x.toNat) (m := y.toNat)
  omega

theorem wide_low {x : Int} (h : In64 x) : x % aM true = x := Int.emod_eq_of_lt h.1 (by have := h.2; show x < 18446744073709551616; omega)
theorem wide_is (x : Int) : aM true = 18446744073709551616 := rfl

theorem sdo_sound {op : Int} {s t : Sp} {x y : Int} (hs : sIn s) (ht : sIn t) (rs : sR s = true) (rt : sR t = true) (ix : In64 x) (iy : In64 y) (hx : sH s x = true) (hy : sH t y = true)
    (he : aluE true op 0 = 0) : sH (sDo op s t) (aluV true op 0 x y) = true := by
  have hrr : sRR s t = true := by unfold sRR; rw [rs, rt]; rfl
  have hr := aluV_range true op 0 x y
  have hall : sH sAll (aluV true op 0 x y) = true := sH_iff.mpr hr
  have lx := wide_low ix
  have ly := wide_low iy
  have h1 := sH_iff.mp hx
  have h2 := sH_iff.mp hy
  unfold sDo
  rw [if_pos hrr]
  unfold sDo'
  clear hrr rs rt hx hy
  unfold sIn In64 at hs ht
  unfold In64 at ix iy
  have hM : aM true = 18446744073709551616 := rfl
  by_cases o0 : op = 0
  · subst o0
    rw [if_pos rfl, v_add, hM]
    unfold sAdd
    split
    · refine sH_iff.mpr ?_
      dsimp only
      omega
    · rw [v_add, hM] at hall; exact hall
  rw [if_neg o0]
  by_cases o1 : op = 16
  · subst o1
    rw [if_pos rfl, v_sub, hM]
    unfold sSub
    split
    · refine sH_iff.mpr ?_
      dsimp only
      omega
    · rw [v_sub, hM] at hall; exact hall
  rw [if_neg o1]
  by_cases o2 : op = 32
  · subst o2
    rw [if_pos rfl, v_mul, hM]
    unfold sMul
    split
    · rename_i hm
      have m1 : s.1 * t.1 ≤ x * y := Int.mul_le_mul h1.1 h2.1 ht.1.1 ix.1
      have m2 : x * y ≤ s.2 * t.2 := Int.mul_le_mul h1.2 h2.2 iy.1 hs.2.1
      have m3 : 0 ≤ x * y := Int.mul_nonneg ix.1 iy.1
      rw [Int.emod_eq_of_lt m3 (by omega)]
      exact sH_iff.mpr ⟨m1, m2⟩
    · rw [v_mul, hM] at hall; exact hall
  rw [if_neg o2]
  by_cases o3 : op = 48 ∧ t.1 ≠ 0
  · obtain ⟨rfl, hz⟩ := o3
    rw [if_pos ⟨rfl, hz⟩, v_div0, lx, ly, hM]
    have q0 := Int.ediv_nonneg ix.1 iy.1
    have q1 := Int.ediv_le_self y ix.1
    rw [Int.emod_eq_of_lt q0 (by omega)]
    refine sH_iff.mpr ⟨?_, ?_⟩
    · exact Int.le_trans (div_down hs.1.1 (show 0 < y by omega) h2.2) (div_up (by omega) h1.1)
    · exact Int.le_trans (div_up (by omega) h1.2) (div_down hs.2.1 (show 0 < t.1 by omega) h2.1)
  rw [if_neg o3]
  by_cases o4 : op = 144 ∧ t.1 ≠ 0
  · obtain ⟨rfl, hz⟩ := o4
    rw [if_pos ⟨rfl, hz⟩, v_mod0, lx, ly, hM]
    have q0 := Int.emod_nonneg x (b := y) (by omega)
    have q1 := Int.emod_lt_of_pos x (b := y) (by omega)
    have q2 : x % y ≤ x := by
      have e := Int.mul_ediv_add_emod x y
      have e2 := Int.mul_nonneg iy.1 (Int.ediv_nonneg ix.1 iy.1)
      omega
    rw [Int.emod_eq_of_lt q0 (by omega)]
    refine sH_iff.mpr ?_
    dsimp only
    omega
  rw [if_neg o4]
  by_cases o5 : op = 80
  · subst o5
    rw [if_pos rfl, v_and, lx, ly, hM]
    obtain ⟨q0, q1, q2⟩ := and_under x y ix.1 iy.1
    rw [Int.emod_eq_of_lt q0 (by omega)]
    refine sH_iff.mpr ?_
    dsimp only
    omega
  rw [if_neg o5]
  by_cases o6 : op = 112 ∧ t.2 < 64
  · obtain ⟨rfl, hz⟩ := o6
    rw [if_pos ⟨rfl, hz⟩, v_rsh, lx, ly, hM]
    have hb : y % aB true = y := Int.emod_eq_of_lt iy.1 (by show y < 64; omega)
    rw [hb]
    have p1 := two_pow_pos y.toNat
    have p2 := two_pow_pos t.1.toNat
    have p3 := pow_up (show t.1.toNat ≤ y.toNat by omega)
    have p4 := pow_up (show y.toNat ≤ t.2.toNat by omega)
    have q0 := Int.ediv_nonneg ix.1 (b := 2 ^ y.toNat) (by omega)
    have q1 := Int.ediv_le_self (2 ^ y.toNat) ix.1
    rw [Int.emod_eq_of_lt q0 (by omega)]
    refine sH_iff.mpr ⟨?_, ?_⟩
    · exact Int.le_trans (div_down hs.1.1 p1 p4) (div_up p1 h1.1)
    · exact Int.le_trans (div_up p1 h1.2) (div_down hs.2.1 p2 p3)
  rw [if_neg o6]
  exact hall

theorem and_zero_l (x y : Int) (h : x = 0) : ((x.toNat &&& y.toNat : Nat) : Int) = 0 := by rw [h]; simp
theorem and_zero_r (x y : Int) (h : y = 0) : ((x.toNat &&& y.toNat : Nat) : Int) = 0 := by rw [h]; simp
theorem sT_ok {l h : Int} (k : l ≤ h) : sT l h = (l, h) ∧ sTok l h = true := ⟨if_neg (by omega), decide_eq_true k⟩

/-- A number of which, with one of the other span, a condition holds is in what If leaves. -/
theorem sif_has {op : Int} {s t : Sp} {x y : Int} (rs : sR s = true) (rt : sR t = true) (ix : In64 x) (iy : In64 y) (hx : sH s x = true) (hy : sH t y = true) (hc : condV op true x y = true) :
    sIfok op s t = true ∧ sH (sIf op s t) x = true := by
  have hrr : sRR s t = true := by unfold sRR; rw [rs, rt]; rfl
  have h1 := sH_iff.mp hx
  have h2 := sH_iff.mp hy
  have lx := wide_low ix
  have ly := wide_low iy
  unfold sIf sIfok
  rw [hrr, if_pos rfl, Bool.true_and]
  unfold In64 at ix iy
  by_cases o1 : op = 16
  · subst o1
    have e1 : sIf' 16 s t = sT (max s.1 t.1) (min s.2 t.2) := rfl
    have e2 : sIfok' 16 s t = sTok (max s.1 t.1) (min s.2 t.2) := rfl
    rw [cv_16, lx, ly, decide_eq_true_eq] at hc
    obtain ⟨k1, k2⟩ := sT_ok (l := max s.1 t.1) (h := min s.2 t.2) (by omega)
    rw [e1, e2, k1, k2]
    exact ⟨rfl, sH_iff.mpr (by dsimp only; omega)⟩
  by_cases o2 : op = 80
  · subst o2
    have e1 : sIf' 80 s t = sUn s t := rfl
    have e2 : sIfok' 80 s t = sUnok s t := rfl
    rw [cv_80, lx, ly] at hc
    have hc' : ¬ x = y := by simpa using hc
    rw [e1, e2]
    unfold sUn sUnok
    by_cases k : t.1 = t.2 ∧ s.1 ≤ t.1 ∧ t.1 ≤ s.2
    · rw [if_pos k, decide_eq_true k, if_neg (by omega), decide_eq_false (p := s.1 = s.2) (by omega)]
      refine ⟨rfl, ?_⟩
      split
      · exact sH_iff.mpr (by dsimp only; omega)
      · split
        · exact sH_iff.mpr (by dsimp only; omega)
        · exact hx
    · rw [if_neg k, decide_eq_false k]
      exact ⟨rfl, hx⟩
  by_cases o3 : op = 64
  · subst o3
    have e1 : sIf' 64 s t = if s.2 = 0 ∨ t.2 = 0 then (0, 0) else s := rfl
    have e2 : sIfok' 64 s t = !decide (s.2 = 0 ∨ t.2 = 0) := rfl
    rw [cv_64, lx, ly] at hc
    have hc' : ¬ ((x.toNat &&& y.toNat : Nat) : Int) = 0 := by simpa using hc
    have hn : ¬ (s.2 = 0 ∨ t.2 = 0) := by
      rintro (k | k)
      · exact hc' (and_zero_l x y (by omega))
      · exact hc' (and_zero_r x y (by omega))
    rw [e1, e2, if_neg hn, decide_eq_false hn]
    exact ⟨rfl, hx⟩
  by_cases o4 : op = 32
  · subst o4
    have e1 : sIf' 32 s t = if t.1 < s.2 then sT (max s.1 (t.1 + 1)) s.2 else (0, 0) := rfl
    have e2 : sIfok' 32 s t = (decide (t.1 < s.2) && sTok (max s.1 (t.1 + 1)) s.2) := rfl
    rw [cv_32, lx, ly, decide_eq_true_eq] at hc
    obtain ⟨k1, k2⟩ := sT_ok (l := max s.1 (t.1 + 1)) (h := s.2) (by omega)
    rw [e1, e2, if_pos (by omega), decide_eq_true (p := t.1 < s.2) (by omega), k1, k2]
    exact ⟨rfl, sH_iff.mpr (by dsimp only; omega)⟩
  by_cases o5 : op = 48
  · subst o5
    have e1 : sIf' 48 s t = if t.1 ≤ s.2 then sT (max s.1 t.1) s.2 else (0, 0) := rfl
    have e2 : sIfok' 48 s t = (decide (t.1 ≤ s.2) && sTok (max s.1 t.1) s.2) := rfl
    rw [cv_48, lx, ly, decide_eq_true_eq] at hc
    obtain ⟨k1, k2⟩ := sT_ok (l := max s.1 t.1) (h := s.2) (by omega)
    rw [e1, e2, if_pos (by omega), decide_eq_true (p := t.1 ≤ s.2) (by omega), k1, k2]
    exact ⟨rfl, sH_iff.mpr (by dsimp only; omega)⟩
  by_cases o6 : op = 160
  · subst o6
    have e1 : sIf' 160 s t = if s.1 < t.2 then sT s.1 (min s.2 (t.2 - 1)) else (0, 0) := rfl
    have e2 : sIfok' 160 s t = (decide (s.1 < t.2) && sTok s.1 (min s.2 (t.2 - 1))) := rfl
    rw [cv_160, lx, ly, decide_eq_true_eq] at hc
    obtain ⟨k1, k2⟩ := sT_ok (l := s.1) (h := min s.2 (t.2 - 1)) (by omega)
    rw [e1, e2, if_pos (by omega), decide_eq_true (p := s.1 < t.2) (by omega), k1, k2]
    exact ⟨rfl, sH_iff.mpr (by dsimp only; omega)⟩
  by_cases o7 : op = 176
  · subst o7
    have e1 : sIf' 176 s t = if s.1 ≤ t.2 then sT s.1 (min s.2 t.2) else (0, 0) := rfl
    have e2 : sIfok' 176 s t = (decide (s.1 ≤ t.2) && sTok s.1 (min s.2 t.2)) := rfl
    rw [cv_176, lx, ly, decide_eq_true_eq] at hc
    obtain ⟨k1, k2⟩ := sT_ok (l := s.1) (h := min s.2 t.2) (by omega)
    rw [e1, e2, if_pos (by omega), decide_eq_true (p := s.1 ≤ t.2) (by omega), k1, k2]
    exact ⟨rfl, sH_iff.mpr (by dsimp only; omega)⟩
  have e1 : sIf' op s t = s := by unfold sIf'; rw [if_neg o1, if_neg o2, if_neg o3, if_neg o4, if_neg o5, if_neg o6, if_neg o7]
  have e2 : sIfok' op s t = true := by unfold sIfok'; rw [if_neg o1, if_neg o2, if_neg o3, if_neg o4, if_neg o5, if_neg o6, if_neg o7]
  rw [e1, e2]
  exact ⟨rfl, hx⟩

theorem sW_mk {a b : Sp} (h1 : a.1 ≤ a.2) (h2 : b.1 ≤ b.2) (h3 : b.1 ≤ a.1) (h4 : a.2 ≤ b.2) : sW a b = true := by
  unfold sW sRR sR
  rw [decide_eq_true h1, decide_eq_true h2, decide_eq_true h3, decide_eq_true h4]
  rfl
theorem sTok_le {l h : Int} (k : sTok l h = true) : l ≤ h := of_decide_eq_true k

/-- What If leaves is of the span. -/
theorem sif_within {op : Int} {s t : Sp} (rs : sR s = true) (hok : sIfok op s t = true) : sW (sIf op s t) s = true := by
  have r1 : s.1 ≤ s.2 := of_decide_eq_true rs
  unfold sIfok at hok
  rw [Bool.and_eq_true] at hok
  obtain ⟨hrr, hok⟩ := hok
  unfold sIf
  rw [if_pos hrr]
  by_cases o1 : op = 16
  · subst o1
    have k := sTok_le (show sTok (max s.1 t.1) (min s.2 t.2) = true from hok)
    have e1 : sIf' 16 s t = sT (max s.1 t.1) (min s.2 t.2) := rfl
    rw [e1, (sT_ok k).1]
    exact sW_mk k r1 (by dsimp only; omega) (by dsimp only; omega)
  by_cases o2 : op = 80
  · subst o2
    have e1 : sIf' 80 s t = sUn s t := rfl
    have hok' : sUnok s t = true := hok
    rw [e1]
    unfold sUnok at hok'
    unfold sUn
    by_cases k : t.1 = t.2 ∧ s.1 ≤ t.1 ∧ t.1 ≤ s.2
    · rw [decide_eq_true k] at hok'
      have hne : ¬ s.1 = s.2 := by simpa using hok'
      rw [if_pos k, if_neg hne]
      split
      · exact sW_mk (by dsimp only; omega) r1 (by dsimp only; omega) (by dsimp only; omega)
      · split
        · exact sW_mk (by dsimp only; omega) r1 (by dsimp only; omega) (by dsimp only; omega)
        · exact sW_mk r1 r1 (by omega) (by omega)
    · rw [if_neg k]
      exact sW_mk r1 r1 (by omega) (by omega)
  by_cases o3 : op = 64
  · subst o3
    have e1 : sIf' 64 s t = if s.2 = 0 ∨ t.2 = 0 then (0, 0) else s := rfl
    have hok' : (!decide (s.2 = 0 ∨ t.2 = 0)) = true := hok
    have hn : ¬ (s.2 = 0 ∨ t.2 = 0) := by simpa using hok'
    rw [e1, if_neg hn]
    exact sW_mk r1 r1 (by omega) (by omega)
  by_cases o4 : op = 32
  · subst o4
    have e1 : sIf' 32 s t = if t.1 < s.2 then sT (max s.1 (t.1 + 1)) s.2 else (0, 0) := rfl
    obtain ⟨k1, k2⟩ := Bool.and_eq_true_iff.mp (show (decide (t.1 < s.2) && sTok (max s.1 (t.1 + 1)) s.2) = true from hok)
    have k := sTok_le k2
    rw [e1, if_pos (of_decide_eq_true k1), (sT_ok k).1]
    exact sW_mk k r1 (by dsimp only; omega) (by dsimp only; omega)
  by_cases o5 : op = 48
  · subst o5
    have e1 : sIf' 48 s t = if t.1 ≤ s.2 then sT (max s.1 t.1) s.2 else (0, 0) := rfl
    obtain ⟨k1, k2⟩ := Bool.and_eq_true_iff.mp (show (decide (t.1 ≤ s.2) && sTok (max s.1 t.1) s.2) = true from hok)
    have k := sTok_le k2
    rw [e1, if_pos (of_decide_eq_true k1), (sT_ok k).1]
    exact sW_mk k r1 (by dsimp only; omega) (by dsimp only; omega)
  by_cases o6 : op = 160
  · subst o6
    have e1 : sIf' 160 s t = if s.1 < t.2 then sT s.1 (min s.2 (t.2 - 1)) else (0, 0) := rfl
    obtain ⟨k1, k2⟩ := Bool.and_eq_true_iff.mp (show (decide (s.1 < t.2) && sTok s.1 (min s.2 (t.2 - 1))) = true from hok)
    have k := sTok_le k2
    rw [e1, if_pos (of_decide_eq_true k1), (sT_ok k).1]
    exact sW_mk k r1 (by dsimp only; omega) (by dsimp only; omega)
  by_cases o7 : op = 176
  · subst o7
    have e1 : sIf' 176 s t = if s.1 ≤ t.2 then sT s.1 (min s.2 t.2) else (0, 0) := rfl
    obtain ⟨k1, k2⟩ := Bool.and_eq_true_iff.mp (show (decide (s.1 ≤ t.2) && sTok s.1 (min s.2 t.2)) = true from hok)
    have k := sTok_le k2
    rw [e1, if_pos (of_decide_eq_true k1), (sT_ok k).1]
    exact sW_mk k r1 (by dsimp only; omega) (by dsimp only; omega)
  have e1 : sIf' op s t = s := by unfold sIf'; rw [if_neg o1, if_neg o2, if_neg o3, if_neg o4, if_neg o5, if_neg o6, if_neg o7]
  rw [e1]
  exact sW_mk r1 r1 (by omega) (by omega)

theorem sT_no {l h : Int} (k : sTok l h = false) : sT l h = (0, 0) := if_pos (by have := of_decide_eq_false k; omega)
theorem sif_zero {op : Int} {s t : Sp} (hok : sIfok op s t = false) : sIf op s t = (0, 0) := by
  unfold sIfok at hok
  unfold sIf
  cases hrr : sRR s t
  · rfl
  rw [hrr, Bool.true_and] at hok
  rw [if_pos rfl]
  by_cases o1 : op = 16
  · subst o1
    exact sT_no hok
  by_cases o2 : op = 80
  · subst o2
    have hok' : sUnok s t = false := hok
    unfold sUnok at hok'
    show sUn s t = (0, 0)
    unfold sUn
    by_cases k : t.1 = t.2 ∧ s.1 ≤ t.1 ∧ t.1 ≤ s.2
    · rw [decide_eq_true k] at hok'
      rw [if_pos k, if_pos (by simpa using hok')]
    · rw [decide_eq_false k] at hok'
      cases hok'
  by_cases o3 : op = 64
  · subst o3
    have hok' : (!decide (s.2 = 0 ∨ t.2 = 0)) = false := hok
    show (if s.2 = 0 ∨ t.2 = 0 then (0, 0) else s) = (0, 0)
    rw [if_pos (of_decide_eq_true (by simpa only [Bool.not_eq_false'] using hok'))]
  by_cases o4 : op = 32
  · subst o4
    have hok' : (decide (t.1 < s.2) && sTok (max s.1 (t.1 + 1)) s.2) = false := hok
    show (if t.1 < s.2 then sT (max s.1 (t.1 + 1)) s.2 else (0, 0)) = (0, 0)
    by_cases k : t.1 < s.2
    · rw [decide_eq_true k, Bool.true_and] at hok'
      rw [if_pos k, sT_no hok']
    · rw [if_neg k]
  by_cases o5 : op = 48
  · subst o5
    have hok' : (decide (t.1 ≤ s.2) && sTok (max s.1 t.1) s.2) = false := hok
    show (if t.1 ≤ s.2 then sT (max s.1 t.1) s.2 else (0, 0)) = (0, 0)
    by_cases k : t.1 ≤ s.2
    · rw [decide_eq_true k, Bool.true_and] at hok'
      rw [if_pos k, sT_no hok']
    · rw [if_neg k]
  by_cases o6 : op = 160
  · subst o6
    have hok' : (decide (s.1 < t.2) && sTok s.1 (min s.2 (t.2 - 1))) = false := hok
    show (if s.1 < t.2 then sT s.1 (min s.2 (t.2 - 1)) else (0, 0)) = (0, 0)
    by_cases k : s.1 < t.2
    · rw [decide_eq_true k, Bool.true_and] at hok'
      rw [if_pos k, sT_no hok']
    · rw [if_neg k]
  by_cases o7 : op = 176
  · subst o7
    have hok' : (decide (s.1 ≤ t.2) && sTok s.1 (min s.2 t.2)) = false := hok
    show (if s.1 ≤ t.2 then sT s.1 (min s.2 t.2) else (0, 0)) = (0, 0)
    by_cases k : s.1 ≤ t.2
    · rw [decide_eq_true k, Bool.true_and] at hok'
      rw [if_pos k, sT_no hok']
    · rw [if_neg k]
  have e2 : sIfok' op s t = true := by unfold sIfok'; rw [if_neg o1, if_neg o2, if_neg o3, if_neg o4, if_neg o5, if_neg o6, if_neg o7]
  rw [e2] at hok
  cases hok

end Go.Proofs.Ytpnobkaeoiaelaa
