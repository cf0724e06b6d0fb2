/-
  P8.2, P8.3: what is stored in one area changes no other one: the walk of the statement MemApart.
  Conditions: none beyond the row's own.
-/
import Derived.Test.YtegmhbflgceecaaMemKeeps
import Derived.Test.YtegmhbflgceecaaByteStr
import Derived.LoopTactic
import Derived.BigRegion
namespace Go.Proofs.Ytegmhbflgceecaa
open Go.RowKit
set_option linter.unusedVariables false
set_option linter.unusedSimpArgs false

def apM (x y : List Int) : PM := [⟨1, x, List.replicate x.length false, true⟩, ⟨2, y, List.replicate y.length false, false⟩]
theorem ap_make (x y : List Int) (hx : x.length ≤ 100) (hy : y.length ≤ 100) : pMake [⟨1, x, List.replicate x.length false, true⟩] 2 y false false = (apM x y, 0) := by
  unfold pMake
  rw [if_neg (by rintro (h | h | h) <;> first | omega | (simp [pIx] at h)), if_neg (by omega)]
  rfl
theorem ap_ix (x y : List Int) (i : Int) : pIx (apM x y) i = if 1 = i then some 0 else if 2 = i then some 1 else none := by
  unfold apM pIx pIx pIx
  by_cases h1 : (1 : Int) = i
  · rw [if_pos h1, if_pos h1]
  · rw [if_neg h1, if_neg h1]
    by_cases h2 : (2 : Int) = i
    · rw [if_pos h2, if_pos h2]; rfl
    · rw [if_neg h2, if_neg h2]; rfl
theorem ap_area (x y : List Int) : pArea (apM x y) 1 = (x, true) ∧ pArea (apM x y) 2 = (y, true) := by
  unfold pArea
  rw [ap_ix, ap_ix]
  exact ⟨rfl, rfl⟩
theorem ap_wh (x y : List Int) (at_ : Int) (h : 0 ≤ at_) : pWh (apM x y) at_ 1 =
    if at_ / 4294967296 = 1 ∧ at_ % 4294967296 < x.length then some (0, (at_ % 4294967296).toNat) else if at_ / 4294967296 = 2 ∧ at_ % 4294967296 < y.length then some (1, (at_ % 4294967296).toNat) else none := by
  unfold pWh
  rw [ap_ix]
  by_cases h1 : (1 : Int) = at_ / 4294967296
  · rw [if_pos h1]
    simp only
    rw [show pAt (apM x y) 0 = ⟨1, x, List.replicate x.length false, true⟩ from rfl]
    simp only
    by_cases h2 : at_ % 4294967296 < x.length
    · rw [if_pos (by omega), if_pos (by omega)]
    · rw [if_neg (by omega), if_neg (by omega), if_neg (by omega)]
  · rw [if_neg h1]
    by_cases h3 : (2 : Int) = at_ / 4294967296
    · rw [if_pos h3]
      simp only
      rw [show pAt (apM x y) 1 = ⟨2, y, List.replicate y.length false, false⟩ from rfl]
      simp only
      by_cases h2 : at_ % 4294967296 < y.length
      · rw [if_pos (by omega), if_neg (by omega), if_pos (by omega)]
      · rw [if_neg (by omega), if_neg (by omega), if_neg (by omega)]
    · rw [if_neg h3, if_neg (by omega), if_neg (by omega)]
theorem rep_bit (n o : Nat) : (List.replicate n false).getD o false = false := by
  rw [List.getD_eq_getElem?_getD, List.getElem?_replicate]
  split <;> rfl
/-- In the first area: it is fixed, and there. -/
theorem ap_first {x y : List Int} {at_ n : Int} (h : 0 ≤ at_) (h1 : at_ / 4294967296 = 1) (h2 : at_ % 4294967296 < x.length) : pStore (apM x y) at_ 1 n = (apM x y, 82) ∧ ∃ c, pLoad (apM x y) at_ 1 = (c, 0) := by
  have hw := ap_wh x y at_ h
  rw [if_pos ⟨h1, h2⟩] at hw
  have hr : pRead (apM x y) at_ 1 = ([bAt x (at_ % 4294967296).toNat], 0) := by
    have ho : (((at_ % 4294967296).toNat : Nat) : Int) = at_ % 4294967296 := by omega
    have hat : at_ = atI 1 ((at_ % 4294967296).toNat : Nat) := by unfold atI; omega
    generalize (at_ % 4294967296).toNat = o at *
    have hb : rdA ⟨1, x, List.replicate x.length false, true⟩ o 1 = ([bAt x o], 0) := by
      rw [read_byte, if_pos (show o + 1 ≤ x.length by omega)]
      rw [show (PA.mk 1 x (List.replicate x.length false) true).bl.getD o false = false from rep_bit _ _]
      rfl
    have := pRead_of (M := apM x y) (i := 1) (k := 0) (s := 1) (o := o) (by rw [ap_ix]; rfl) (by omega) (by omega)
    rw [← hat] at this
    exact this.trans hb
  refine ⟨?_, bAt x (at_ % 4294967296).toNat, ?_⟩
  · unfold pStore
    rw [show fitsZ 1 = true from rfl, if_pos rfl, hw]
    rfl
  · unfold pLoad
    rw [show fitsZ 1 = true from rfl, if_pos rfl, hr, if_pos rfl, leN_one]
theorem ap_second {x y : List Int} {at_ n : Int} (h : 0 ≤ at_) (h1 : at_ / 4294967296 = 2) (h2 : at_ % 4294967296 < y.length) :
    ∃ y' : PA, y'.b.length = y.length ∧ pStore (apM x y) at_ 1 n = ([⟨1, x, List.replicate x.length false, true⟩, y'], 0) ∧ pArea [⟨1, x, List.replicate x.length false, true⟩, y'] 1 = (x, true) ∧ pArea [⟨1, x, List.replicate x.length false, true⟩, y'] 2 = (y'.b, true) ∧ ∃ c, pLoad [⟨1, x, List.replicate x.length false, true⟩, y'] at_ 1 = (c, 0) := by
  have hw := ap_wh x y at_ h
  rw [if_neg (by omega), if_pos ⟨h1, h2⟩] at hw
  have ho : (((at_ % 4294967296).toNat : Nat) : Int) = at_ % 4294967296 := by omega
  have hat : at_ = atI 2 ((at_ % 4294967296).toNat : Nat) := by unfold atI; omega
  generalize (at_ % 4294967296).toNat = o at *
  have hl : (paSet ⟨2, y, List.replicate y.length false, false⟩ o 1 n).b.length = y.length := putN_len _ _ _
  refine ⟨paSet ⟨2, y, List.replicate y.length false, false⟩ o 1 n, hl, ?_, ?_, ?_, bAt (paSet ⟨2, y, List.replicate y.length false, false⟩ o 1 n).b o, ?_⟩
  · unfold pStore
    rw [show fitsZ 1 = true from rfl, if_pos rfl, hw]
    rfl
  · unfold pArea pIx
    rw [if_pos rfl]
    rfl
  · have e : pIx [⟨1, x, List.replicate x.length false, true⟩, paSet ⟨2, y, List.replicate y.length false, false⟩ o 1 n] 2 = some 1 := by
      unfold pIx
      rw [if_neg (by simp only; omega)]
      unfold pIx
      rw [if_pos (show (paSet ⟨2, y, List.replicate y.length false, false⟩ o 1 n).id = 2 from rfl)]
      rfl
    unfold pArea
    rw [e]
    rfl
  · have e : pIx [⟨1, x, List.replicate x.length false, true⟩, paSet ⟨2, y, List.replicate y.length false, false⟩ o 1 n] 2 = some 1 := by
      unfold pIx
      rw [if_neg (by simp only; omega)]
      unfold pIx
      rw [if_pos (show (paSet ⟨2, y, List.replicate y.length false, false⟩ o 1 n).id = 2 from rfl)]
      rfl
    have hb : rdA (paSet ⟨2, y, List.replicate y.length false, false⟩ o 1 n) o 1 = ([bAt (paSet ⟨2, y, List.replicate y.length false, false⟩ o 1 n).b o], 0) := by
      rw [read_byte, if_pos (by rw [hl]; omega)]
      have hbit : (paSet ⟨2, y, List.replicate y.length false, false⟩ o 1 n).bl.getD o false = false := by
        rw [set_bit (a := ⟨2, y, List.replicate y.length false, false⟩) (by simp only [List.length_replicate]; omega)]
        exact if_pos (by omega)
      rw [hbit]
      rfl
    have hr := pRead_of (s := 1) e (by omega) (o := o) (by omega)
    rw [← hat] at hr
    replace hr := hr.trans hb
    unfold pLoad
    rw [show fitsZ 1 = true from rfl, if_pos rfl]
    have hr' : pRead [⟨1, x, List.replicate x.length false, true⟩, paSet ⟨2, y, List.replicate y.length false, false⟩ o 1 n] at_ 1 = ([bAt (paSet ⟨2, y, List.replicate y.length false, false⟩ o 1 n).b o], 0) := hr
    rw [hr', if_pos rfl, leN_one]
theorem ap_none {x y : List Int} {at_ n : Int} (h : 0 ≤ at_) (h1 : ¬ (at_ / 4294967296 = 1 ∧ at_ % 4294967296 < x.length)) (h2 : ¬ (at_ / 4294967296 = 2 ∧ at_ % 4294967296 < y.length)) : pStore (apM x y) at_ 1 n = (apM x y, 80) ∧ pLoad (apM x y) at_ 1 = (0, 80) := by
  have hw := ap_wh x y at_ h
  rw [if_neg h1, if_neg h2] at hw
  constructor
  · unfold pStore
    rw [show fitsZ 1 = true from rfl, if_pos rfl, hw]
  · have hr : pRead (apM x y) at_ 1 = ([], 80) := by
      unfold pRead
      rw [if_neg (by omega), hw]
    unfold pLoad
    rw [show fitsZ 1 = true from rfl, if_pos rfl, hr]
    rfl

set_option maxRecDepth 100000 in
set_option maxHeartbeats 4000000 in
theorem l8_MemApart_1ss (x y : List Int) (a b : List Int) (A B : Option Addr) (c d : Nat) (at_ n : Int) (w : World) (hat : 0 ≤ at_ ∧ at_ ≤ 18446744073709551615) (hn : 0 ≤ n ∧ n ≤ 18446744073709551615) (hx1 : BytS w A x) (hx2 : OkB x) (hx4 : x.length ≤ c) (hy1 : BytS w B y) (hy2 : OkB y) (hy4 : y.length ≤ d) (hac : a.length ≤ c) (hbd : b.length ≤ d) (hcm : c ≤ maxLen) (hdm : d ≤ maxLen) (hxa : x.length = min 100 a.length) (hyb : y.length = min 100 b.length) (h1 : at_ / 4294967296 = 1) (h2 : at_ % 4294967296 < x.length) (hA : a.length ≤ 100 ∧ x.length = a.length) (hBB : b.length ≤ 100 ∧ y.length = b.length) : Calls Try.prog 6 #[.slice A a.length c, .slice B b.length d, .int .u64 at_, .int .u64 n] w (Fine w) := by
  have N := Lib.hid (mm_New w)
  have SH := Lib.hid l8_shown
  have x100 : x.length ≤ 100 := by omega
  have y100 : y.length ≤ 100 := by omega
  have M1 := Lib.hid fun g w' (h : Mm w w' g []) (hb : BytS w' A x) => mm_Make 1 x A c false true h hb hx2 hx4 hcm (by simp)
  rw [make_one 1 x false true (by omega) (by omega)] at M1
  have M2 := Lib.hid fun g w' (h : Mm w w' g [⟨1, x, List.replicate x.length false, true⟩]) (hb : BytS w' B y) => mm_Make 2 y B d false false h hb hy2 hy4 hdm (by simp)
  rw [ap_make x y x100 y100] at M2
  obtain ⟨e1, cv, e2⟩ := ap_first (n := n) hat.1 h1 h2 (y := y)
  obtain ⟨e3, e4⟩ := ap_area x y
  generalize hM : apM x y = M at *
  have e5 : y.length = y.length := rfl
  have S1 := Lib.hid fun g w' (h : Mm w w' g M) => mm_Store at_ 1 n h hat hn
  rw [e1] at S1
  have L1 := Lib.hid fun g w' (h : Mm w w' g M) => mm_Load at_ 1 h hat
  rw [e2] at L1
  have R1 := Lib.hid fun g w' (h : Mm w w' g M) => mm_Area 1 h
  rw [e3] at R1
  have R2 := Lib.hid fun g w' (h : Mm w w' g M) => mm_Area 2 h
  rw [e4] at R2
  have HX := Lib.hid hx1
  have HY := Lib.hid hy1
  have hand : bits .and .u64 at_ 4294967295 = at_ % 4294967296 := by
    have := and_low (n := at_) (k := 32) hat (by omega)
    simpa using this
  obtain ⟨hA1, hA2⟩ := hA
  obtain ⟨hB1, hB2⟩ := hBB
  clear hxa hyb x100 y100 e1 e2 e3 e4 hx1 hy1 hx2 hy2
  generalize hlx : x.length = nx at *
  subst hA2
  have HLX := Lib.hid hlx
  generalize hly : y.length = ny at *
  subst hB2
  have HLY := Lib.hid hly
  clear hlx hly
  generalize a.length = na at *
  generalize b.length = nb at *
  have g1 : (na : Int) ≤ 100 := by omega
  have g2 : min (na : Int) 100 = na := by omega
  have g3 : (nb : Int) ≤ 100 := by omega
  have g4 : min (nb : Int) 100 = nb := by omega
  have nac : (na : Int) ≤ c := by omega
  have nbd : (nb : Int) ≤ d := by omega
  have xc : (na : Int) ≤ c := by omega
  have yd : (nb : Int) ≤ d := by omega
  have i1 : at_ % 4294967296 < (na : Int) := by omega
  have q1' : (at_ / 4294967296 == 1) = true := by first | exact beq_iff_eq.mpr h1 | exact beq_false_of_ne (by omega)
  have q2' : (at_ / 4294967296 == 2) = false := by first | exact beq_iff_eq.mpr h1 | exact beq_false_of_ne (by omega)
  unfold maxLen at hcm hdm
  clear h1 h2
  go_enter Try.func6, Try.ntmps6
  go_wp2_with fail
  refine (SH.out _).mono ?_
  rintro e w0 ⟨rfl, b0⟩
  have V := Lib.hid b0
  clear b0
  go_wp2_with fail
  refine (N.out _ V.out).mono ?_
  rintro e w1 ⟨g, rfl, q1⟩
  have Q := Lib.hid q1
  clear q1 V N SH
  go_wp2_with fail
  go_quiet (fail)
  replace Q := Lib.hid (Q.out.after (below_drewN (Below.refl _ _) nq))
  generalize w1.drewN nq = wq at *
  go_wp2_with fail
  refine (M1.out _ _ Q.out (HX.out.after Q.out.below)).mono ?_
  rintro e w2 ⟨rfl, q⟩
  replace Q := Lib.hid q
  clear q
  go_wp2_with fail
  refine (M2.out _ _ Q.out (HY.out.after Q.out.below)).mono ?_
  rintro e w3 ⟨rfl, q⟩
  replace Q := Lib.hid q
  clear q
  go_wp2_with fail
  refine (S1.out _ _ Q.out).mono ?_
  rintro e w4 ⟨rfl, q⟩
  replace Q := Lib.hid q
  clear q
  go_wp2_with fail
  refine (R1.out _ _ Q.out).mono ?_
  rintro e w5 ⟨Ap, cp, rfl, hp, kp1, kp2, b5⟩
  replace Q := Lib.hid (Q.out.after b5)
  dsimp only at hp kp1 ⊢
  try rw [HLX.out]
  go_wp2_with fail
  refine (R2.out _ _ Q.out).mono ?_
  rintro e w6 ⟨Aq, cq, rfl, hq, kq1, kq2, b6⟩
  replace Q := Lib.hid (Q.out.after b6)
  dsimp only at hq kq1 ⊢
  try rw [HLY.out]
  have s1 := str_bytS (hp.after b6) cp
  have s2 := str_bytS (HX.out.after Q.out.below) c
  rw [HLX.out] at s1 s2
  have s3 := str_bytS hq cq
  have s4 := str_bytS (HY.out.after Q.out.below) d
  rw [HLY.out] at s3 s4
  generalize strOfNums y = sy at *
  generalize strOfNums x = sx at *
  clear M1 M2 S1 R1 R2 hp hq b5 b6
  go_wp2_with fail
  clear s1 s2 s3 s4
  refine (L1.out _ _ Q.out).mono ?_
  rintro e w7 ⟨rfl, b⟩
  replace Q := Lib.hid (Q.out.after b)
  clear b L1
  go_wp2_with fail
  go_ret
  exact ⟨rfl, Q.out.below⟩

set_option maxRecDepth 100000 in
set_option maxHeartbeats 4000000 in
theorem l8_MemApart_1sb (x y : List Int) (a b : List Int) (A B : Option Addr) (c d : Nat) (at_ n : Int) (w : World) (hat : 0 ≤ at_ ∧ at_ ≤ 18446744073709551615) (hn : 0 ≤ n ∧ n ≤ 18446744073709551615) (hx1 : BytS w A x) (hx2 : OkB x) (hx4 : x.length ≤ c) (hy1 : BytS w B y) (hy2 : OkB y) (hy4 : y.length ≤ d) (hac : a.length ≤ c) (hbd : b.length ≤ d) (hcm : c ≤ maxLen) (hdm : d ≤ maxLen) (hxa : x.length = min 100 a.length) (hyb : y.length = min 100 b.length) (h1 : at_ / 4294967296 = 1) (h2 : at_ % 4294967296 < x.length) (hA : a.length ≤ 100 ∧ x.length = a.length) (hBB : 100 < b.length ∧ y.length = 100) : Calls Try.prog 6 #[.slice A a.length c, .slice B b.length d, .int .u64 at_, .int .u64 n] w (Fine w) := by
  have N := Lib.hid (mm_New w)
  have SH := Lib.hid l8_shown
  have x100 : x.length ≤ 100 := by omega
  have y100 : y.length ≤ 100 := by omega
  have M1 := Lib.hid fun g w' (h : Mm w w' g []) (hb : BytS w' A x) => mm_Make 1 x A c false true h hb hx2 hx4 hcm (by simp)
  rw [make_one 1 x false true (by omega) (by omega)] at M1
  have M2 := Lib.hid fun g w' (h : Mm w w' g [⟨1, x, List.replicate x.length false, true⟩]) (hb : BytS w' B y) => mm_Make 2 y B d false false h hb hy2 hy4 hdm (by simp)
  rw [ap_make x y x100 y100] at M2
  obtain ⟨e1, cv, e2⟩ := ap_first (n := n) hat.1 h1 h2 (y := y)
  obtain ⟨e3, e4⟩ := ap_area x y
  generalize hM : apM x y = M at *
  have e5 : y.length = y.length := rfl
  have S1 := Lib.hid fun g w' (h : Mm w w' g M) => mm_Store at_ 1 n h hat hn
  rw [e1] at S1
  have L1 := Lib.hid fun g w' (h : Mm w w' g M) => mm_Load at_ 1 h hat
  rw [e2] at L1
  have R1 := Lib.hid fun g w' (h : Mm w w' g M) => mm_Area 1 h
  rw [e3] at R1
  have R2 := Lib.hid fun g w' (h : Mm w w' g M) => mm_Area 2 h
  rw [e4] at R2
  have HX := Lib.hid hx1
  have HY := Lib.hid hy1
  have hand : bits .and .u64 at_ 4294967295 = at_ % 4294967296 := by
    have := and_low (n := at_) (k := 32) hat (by omega)
    simpa using this
  obtain ⟨hA1, hA2⟩ := hA
  obtain ⟨hB1, hB2⟩ := hBB
  clear hxa hyb x100 y100 e1 e2 e3 e4 hx1 hy1 hx2 hy2
  generalize hlx : x.length = nx at *
  subst hA2
  have HLX := Lib.hid hlx
  generalize hly : y.length = ny at *
  subst hB2
  have HLY := Lib.hid hly
  clear hlx hly
  generalize a.length = na at *
  generalize b.length = nb at *
  have g1 : (na : Int) ≤ 100 := by omega
  have g2 : min (na : Int) 100 = na := by omega
  have g3 : (100 : Int) < nb := by omega
  have g4 : min (nb : Int) 100 = 100 := by omega
  have nac : (na : Int) ≤ c := by omega
  have nbd : (nb : Int) ≤ d := by omega
  have xc : (na : Int) ≤ c := by omega
  have yd : (100 : Int) ≤ d := by omega
  have i1 : at_ % 4294967296 < (na : Int) := by omega
  have q1' : (at_ / 4294967296 == 1) = true := by first | exact beq_iff_eq.mpr h1 | exact beq_false_of_ne (by omega)
  have q2' : (at_ / 4294967296 == 2) = false := by first | exact beq_iff_eq.mpr h1 | exact beq_false_of_ne (by omega)
  unfold maxLen at hcm hdm
  clear h1 h2
  go_enter Try.func6, Try.ntmps6
  go_wp2_with fail
  refine (SH.out _).mono ?_
  rintro e w0 ⟨rfl, b0⟩
  have V := Lib.hid b0
  clear b0
  go_wp2_with fail
  refine (N.out _ V.out).mono ?_
  rintro e w1 ⟨g, rfl, q1⟩
  have Q := Lib.hid q1
  clear q1 V N SH
  go_wp2_with fail
  go_quiet (fail)
  replace Q := Lib.hid (Q.out.after (below_drewN (Below.refl _ _) nq))
  generalize w1.drewN nq = wq at *
  go_wp2_with fail
  refine (M1.out _ _ Q.out (HX.out.after Q.out.below)).mono ?_
  rintro e w2 ⟨rfl, q⟩
  replace Q := Lib.hid q
  clear q
  go_wp2_with fail
  refine (M2.out _ _ Q.out (HY.out.after Q.out.below)).mono ?_
  rintro e w3 ⟨rfl, q⟩
  replace Q := Lib.hid q
  clear q
  go_wp2_with fail
  refine (S1.out _ _ Q.out).mono ?_
  rintro e w4 ⟨rfl, q⟩
  replace Q := Lib.hid q
  clear q
  go_wp2_with fail
  refine (R1.out _ _ Q.out).mono ?_
  rintro e w5 ⟨Ap, cp, rfl, hp, kp1, kp2, b5⟩
  replace Q := Lib.hid (Q.out.after b5)
  dsimp only at hp kp1 ⊢
  try rw [HLX.out]
  go_wp2_with fail
  refine (R2.out _ _ Q.out).mono ?_
  rintro e w6 ⟨Aq, cq, rfl, hq, kq1, kq2, b6⟩
  replace Q := Lib.hid (Q.out.after b6)
  dsimp only at hq kq1 ⊢
  try rw [HLY.out]
  have s1 := str_bytS (hp.after b6) cp
  have s2 := str_bytS (HX.out.after Q.out.below) c
  rw [HLX.out] at s1 s2
  have s3 := str_bytS hq cq
  have s4 := str_bytS (HY.out.after Q.out.below) d
  rw [HLY.out] at s3 s4
  generalize strOfNums y = sy at *
  generalize strOfNums x = sx at *
  clear M1 M2 S1 R1 R2 hp hq b5 b6
  go_wp2_with fail
  clear s1 s2 s3 s4
  refine (L1.out _ _ Q.out).mono ?_
  rintro e w7 ⟨rfl, b⟩
  replace Q := Lib.hid (Q.out.after b)
  clear b L1
  go_wp2_with fail
  go_ret
  exact ⟨rfl, Q.out.below⟩

set_option maxRecDepth 100000 in
set_option maxHeartbeats 4000000 in
theorem l8_MemApart_1bs (x y : List Int) (a b : List Int) (A B : Option Addr) (c d : Nat) (at_ n : Int) (w : World) (hat : 0 ≤ at_ ∧ at_ ≤ 18446744073709551615) (hn : 0 ≤ n ∧ n ≤ 18446744073709551615) (hx1 : BytS w A x) (hx2 : OkB x) (hx4 : x.length ≤ c) (hy1 : BytS w B y) (hy2 : OkB y) (hy4 : y.length ≤ d) (hac : a.length ≤ c) (hbd : b.length ≤ d) (hcm : c ≤ maxLen) (hdm : d ≤ maxLen) (hxa : x.length = min 100 a.length) (hyb : y.length = min 100 b.length) (h1 : at_ / 4294967296 = 1) (h2 : at_ % 4294967296 < x.length) (hA : 100 < a.length ∧ x.length = 100) (hBB : b.length ≤ 100 ∧ y.length = b.length) : Calls Try.prog 6 #[.slice A a.length c, .slice B b.length d, .int .u64 at_, .int .u64 n] w (Fine w) := by
  have N := Lib.hid (mm_New w)
  have SH := Lib.hid l8_shown
  have x100 : x.length ≤ 100 := by omega
  have y100 : y.length ≤ 100 := by omega
  have M1 := Lib.hid fun g w' (h : Mm w w' g []) (hb : BytS w' A x) => mm_Make 1 x A c false true h hb hx2 hx4 hcm (by simp)
  rw [make_one 1 x false true (by omega) (by omega)] at M1
  have M2 := Lib.hid fun g w' (h : Mm w w' g [⟨1, x, List.replicate x.length false, true⟩]) (hb : BytS w' B y) => mm_Make 2 y B d false false h hb hy2 hy4 hdm (by simp)
  rw [ap_make x y x100 y100] at M2
  obtain ⟨e1, cv, e2⟩ := ap_first (n := n) hat.1 h1 h2 (y := y)
  obtain ⟨e3, e4⟩ := ap_area x y
  generalize hM : apM x y = M at *
  have e5 : y.length = y.length := rfl
  have S1 := Lib.hid fun g w' (h : Mm w w' g M) => mm_Store at_ 1 n h hat hn
  rw [e1] at S1
  have L1 := Lib.hid fun g w' (h : Mm w w' g M) => mm_Load at_ 1 h hat
  rw [e2] at L1
  have R1 := Lib.hid fun g w' (h : Mm w w' g M) => mm_Area 1 h
  rw [e3] at R1
  have R2 := Lib.hid fun g w' (h : Mm w w' g M) => mm_Area 2 h
  rw [e4] at R2
  have HX := Lib.hid hx1
  have HY := Lib.hid hy1
  have hand : bits .and .u64 at_ 4294967295 = at_ % 4294967296 := by
    have := and_low (n := at_) (k := 32) hat (by omega)
    simpa using this
  obtain ⟨hA1, hA2⟩ := hA
  obtain ⟨hB1, hB2⟩ := hBB
  clear hxa hyb x100 y100 e1 e2 e3 e4 hx1 hy1 hx2 hy2
  generalize hlx : x.length = nx at *
  subst hA2
  have HLX := Lib.hid hlx
  generalize hly : y.length = ny at *
  subst hB2
  have HLY := Lib.hid hly
  clear hlx hly
  generalize a.length = na at *
  generalize b.length = nb at *
  have g1 : (100 : Int) < na := by omega
  have g2 : min (na : Int) 100 = 100 := by omega
  have g3 : (nb : Int) ≤ 100 := by omega
  have g4 : min (nb : Int) 100 = nb := by omega
  have nac : (na : Int) ≤ c := by omega
  have nbd : (nb : Int) ≤ d := by omega
  have xc : (100 : Int) ≤ c := by omega
  have yd : (nb : Int) ≤ d := by omega
  have i1 : at_ % 4294967296 < (100 : Int) := by omega
  have q1' : (at_ / 4294967296 == 1) = true := by first | exact beq_iff_eq.mpr h1 | exact beq_false_of_ne (by omega)
  have q2' : (at_ / 4294967296 == 2) = false := by first | exact beq_iff_eq.mpr h1 | exact beq_false_of_ne (by omega)
  unfold maxLen at hcm hdm
  clear h1 h2
  go_enter Try.func6, Try.ntmps6
  go_wp2_with fail
  refine (SH.out _).mono ?_
  rintro e w0 ⟨rfl, b0⟩
  have V := Lib.hid b0
  clear b0
  go_wp2_with fail
  refine (N.out _ V.out).mono ?_
  rintro e w1 ⟨g, rfl, q1⟩
  have Q := Lib.hid q1
  clear q1 V N SH
  go_wp2_with fail
  go_quiet (fail)
  replace Q := Lib.hid (Q.out.after (below_drewN (Below.refl _ _) nq))
  generalize w1.drewN nq = wq at *
  go_wp2_with fail
  refine (M1.out _ _ Q.out (HX.out.after Q.out.below)).mono ?_
  rintro e w2 ⟨rfl, q⟩
  replace Q := Lib.hid q
  clear q
  go_wp2_with fail
  refine (M2.out _ _ Q.out (HY.out.after Q.out.below)).mono ?_
  rintro e w3 ⟨rfl, q⟩
  replace Q := Lib.hid q
  clear q
  go_wp2_with fail
  refine (S1.out _ _ Q.out).mono ?_
  rintro e w4 ⟨rfl, q⟩
  replace Q := Lib.hid q
  clear q
  go_wp2_with fail
  refine (R1.out _ _ Q.out).mono ?_
  rintro e w5 ⟨Ap, cp, rfl, hp, kp1, kp2, b5⟩
  replace Q := Lib.hid (Q.out.after b5)
  dsimp only at hp kp1 ⊢
  try rw [HLX.out]
  go_wp2_with fail
  refine (R2.out _ _ Q.out).mono ?_
  rintro e w6 ⟨Aq, cq, rfl, hq, kq1, kq2, b6⟩
  replace Q := Lib.hid (Q.out.after b6)
  dsimp only at hq kq1 ⊢
  try rw [HLY.out]
  have s1 := str_bytS (hp.after b6) cp
  have s2 := str_bytS (HX.out.after Q.out.below) c
  rw [HLX.out] at s1 s2
  have s3 := str_bytS hq cq
  have s4 := str_bytS (HY.out.after Q.out.below) d
  rw [HLY.out] at s3 s4
  generalize strOfNums y = sy at *
  generalize strOfNums x = sx at *
  clear M1 M2 S1 R1 R2 hp hq b5 b6
  go_wp2_with fail
  clear s1 s2 s3 s4
  refine (L1.out _ _ Q.out).mono ?_
  rintro e w7 ⟨rfl, b⟩
  replace Q := Lib.hid (Q.out.after b)
  clear b L1
  go_wp2_with fail
  go_ret
  exact ⟨rfl, Q.out.below⟩

set_option maxRecDepth 100000 in
set_option maxHeartbeats 4000000 in
theorem l8_MemApart_1bb (x y : List Int) (a b : List Int) (A B : Option Addr) (c d : Nat) (at_ n : Int) (w : World) (hat : 0 ≤ at_ ∧ at_ ≤ 18446744073709551615) (hn : 0 ≤ n ∧ n ≤ 18446744073709551615) (hx1 : BytS w A x) (hx2 : OkB x) (hx4 : x.length ≤ c) (hy1 : BytS w B y) (hy2 : OkB y) (hy4 : y.length ≤ d) (hac : a.length ≤ c) (hbd : b.length ≤ d) (hcm : c ≤ maxLen) (hdm : d ≤ maxLen) (hxa : x.length = min 100 a.length) (hyb : y.length = min 100 b.length) (h1 : at_ / 4294967296 = 1) (h2 : at_ % 4294967296 < x.length) (hA : 100 < a.length ∧ x.length = 100) (hBB : 100 < b.length ∧ y.length = 100) : Calls Try.prog 6 #[.slice A a.length c, .slice B b.length d, .int .u64 at_, .int .u64 n] w (Fine w) := by
  have N := Lib.hid (mm_New w)
  have SH := Lib.hid l8_shown
  have x100 : x.length ≤ 100 := by omega
  have y100 : y.length ≤ 100 := by omega
  have M1 := Lib.hid fun g w' (h : Mm w w' g []) (hb : BytS w' A x) => mm_Make 1 x A c false true h hb hx2 hx4 hcm (by simp)
  rw [make_one 1 x false true (by omega) (by omega)] at M1
  have M2 := Lib.hid fun g w' (h : Mm w w' g [⟨1, x, List.replicate x.length false, true⟩]) (hb : BytS w' B y) => mm_Make 2 y B d false false h hb hy2 hy4 hdm (by simp)
  rw [ap_make x y x100 y100] at M2
  obtain ⟨e1, cv, e2⟩ := ap_first (n := n) hat.1 h1 h2 (y := y)
  obtain ⟨e3, e4⟩ := ap_area x y
  generalize hM : apM x y = M at *
  have e5 : y.length = y.length := rfl
  have S1 := Lib.hid fun g w' (h : Mm w w' g M) => mm_Store at_ 1 n h hat hn
  rw [e1] at S1
  have L1 := Lib.hid fun g w' (h : Mm w w' g M) => mm_Load at_ 1 h hat
  rw [e2] at L1
  have R1 := Lib.hid fun g w' (h : Mm w w' g M) => mm_Area 1 h
  rw [e3] at R1
  have R2 := Lib.hid fun g w' (h : Mm w w' g M) => mm_Area 2 h
  rw [e4] at R2
  have HX := Lib.hid hx1
  have HY := Lib.hid hy1
  have hand : bits .and .u64 at_ 4294967295 = at_ % 4294967296 := by
    have := and_low (n := at_) (k := 32) hat (by omega)
    simpa using this
  obtain ⟨hA1, hA2⟩ := hA
  obtain ⟨hB1, hB2⟩ := hBB
  clear hxa hyb x100 y100 e1 e2 e3 e4 hx1 hy1 hx2 hy2
  generalize hlx : x.length = nx at *
  subst hA2
  have HLX := Lib.hid hlx
  generalize hly : y.length = ny at *
  subst hB2
  have HLY := Lib.hid hly
  clear hlx hly
  generalize a.length = na at *
  generalize b.length = nb at *
  have g1 : (100 : Int) < na := by omega
  have g2 : min (na : Int) 100 = 100 := by omega
  have g3 : (100 : Int) < nb := by omega
  have g4 : min (nb : Int) 100 = 100 := by omega
  have nac : (na : Int) ≤ c := by omega
  have nbd : (nb : Int) ≤ d := by omega
  have xc : (100 : Int) ≤ c := by omega
  have yd : (100 : Int) ≤ d := by omega
  have i1 : at_ % 4294967296 < (100 : Int) := by omega
  have q1' : (at_ / 4294967296 == 1) = true := by first | exact beq_iff_eq.mpr h1 | exact beq_false_of_ne (by omega)
  have q2' : (at_ / 4294967296 == 2) = false := by first | exact beq_iff_eq.mpr h1 | exact beq_false_of_ne (by omega)
  unfold maxLen at hcm hdm
  clear h1 h2
  go_enter Try.func6, Try.ntmps6
  go_wp2_with fail
  refine (SH.out _).mono ?_
  rintro e w0 ⟨rfl, b0⟩
  have V := Lib.hid b0
  clear b0
  go_wp2_with fail
  refine (N.out _ V.out).mono ?_
  rintro e w1 ⟨g, rfl, q1⟩
  have Q := Lib.hid q1
  clear q1 V N SH
  go_wp2_with fail
  go_quiet (fail)
  replace Q := Lib.hid (Q.out.after (below_drewN (Below.refl _ _) nq))
  generalize w1.drewN nq = wq at *
  go_wp2_with fail
  refine (M1.out _ _ Q.out (HX.out.after Q.out.below)).mono ?_
  rintro e w2 ⟨rfl, q⟩
  replace Q := Lib.hid q
  clear q
  go_wp2_with fail
  refine (M2.out _ _ Q.out (HY.out.after Q.out.below)).mono ?_
  rintro e w3 ⟨rfl, q⟩
  replace Q := Lib.hid q
  clear q
  go_wp2_with fail
  refine (S1.out _ _ Q.out).mono ?_
  rintro e w4 ⟨rfl, q⟩
  replace Q := Lib.hid q
  clear q
  go_wp2_with fail
  refine (R1.out _ _ Q.out).mono ?_
  rintro e w5 ⟨Ap, cp, rfl, hp, kp1, kp2, b5⟩
  replace Q := Lib.hid (Q.out.after b5)
  dsimp only at hp kp1 ⊢
  try rw [HLX.out]
  go_wp2_with fail
  refine (R2.out _ _ Q.out).mono ?_
  rintro e w6 ⟨Aq, cq, rfl, hq, kq1, kq2, b6⟩
  replace Q := Lib.hid (Q.out.after b6)
  dsimp only at hq kq1 ⊢
  try rw [HLY.out]
  have s1 := str_bytS (hp.after b6) cp
  have s2 := str_bytS (HX.out.after Q.out.below) c
  rw [HLX.out] at s1 s2
  have s3 := str_bytS hq cq
  have s4 := str_bytS (HY.out.after Q.out.below) d
  rw [HLY.out] at s3 s4
  generalize strOfNums y = sy at *
  generalize strOfNums x = sx at *
  clear M1 M2 S1 R1 R2 hp hq b5 b6
  go_wp2_with fail
  clear s1 s2 s3 s4
  refine (L1.out _ _ Q.out).mono ?_
  rintro e w7 ⟨rfl, b⟩
  replace Q := Lib.hid (Q.out.after b)
  clear b L1
  go_wp2_with fail
  go_ret
  exact ⟨rfl, Q.out.below⟩

set_option maxRecDepth 100000 in
set_option maxHeartbeats 4000000 in
theorem l8_MemApart_2ss (x y : List Int) (a b : List Int) (A B : Option Addr) (c d : Nat) (at_ n : Int) (w : World) (hat : 0 ≤ at_ ∧ at_ ≤ 18446744073709551615) (hn : 0 ≤ n ∧ n ≤ 18446744073709551615) (hx1 : BytS w A x) (hx2 : OkB x) (hx4 : x.length ≤ c) (hy1 : BytS w B y) (hy2 : OkB y) (hy4 : y.length ≤ d) (hac : a.length ≤ c) (hbd : b.length ≤ d) (hcm : c ≤ maxLen) (hdm : d ≤ maxLen) (hxa : x.length = min 100 a.length) (hyb : y.length = min 100 b.length) (h1 : at_ / 4294967296 = 2) (h2 : at_ % 4294967296 < y.length) (hA : a.length ≤ 100 ∧ x.length = a.length) (hBB : b.length ≤ 100 ∧ y.length = b.length) : Calls Try.prog 6 #[.slice A a.length c, .slice B b.length d, .int .u64 at_, .int .u64 n] w (Fine w) := by
  have N := Lib.hid (mm_New w)
  have SH := Lib.hid l8_shown
  have x100 : x.length ≤ 100 := by omega
  have y100 : y.length ≤ 100 := by omega
  have M1 := Lib.hid fun g w' (h : Mm w w' g []) (hb : BytS w' A x) => mm_Make 1 x A c false true h hb hx2 hx4 hcm (by simp)
  rw [make_one 1 x false true (by omega) (by omega)] at M1
  have M2 := Lib.hid fun g w' (h : Mm w w' g [⟨1, x, List.replicate x.length false, true⟩]) (hb : BytS w' B y) => mm_Make 2 y B d false false h hb hy2 hy4 hdm (by simp)
  rw [ap_make x y x100 y100] at M2
  obtain ⟨y', e5, e1, e3, e4, cv, e2⟩ := ap_second (x := x) (n := n) hat.1 h1 h2
  generalize hM : [PA.mk 1 x (List.replicate x.length false) true, y'] = M at *
  have S1 := Lib.hid fun g w' (h : Mm w w' g (apM x y)) => mm_Store at_ 1 n h hat hn
  rw [e1] at S1
  have L1 := Lib.hid fun g w' (h : Mm w w' g M) => mm_Load at_ 1 h hat
  rw [e2] at L1
  have R1 := Lib.hid fun g w' (h : Mm w w' g M) => mm_Area 1 h
  rw [e3] at R1
  have R2 := Lib.hid fun g w' (h : Mm w w' g M) => mm_Area 2 h
  rw [e4] at R2
  have HX := Lib.hid hx1
  have HY := Lib.hid hy1
  have hand : bits .and .u64 at_ 4294967295 = at_ % 4294967296 := by
    have := and_low (n := at_) (k := 32) hat (by omega)
    simpa using this
  obtain ⟨hA1, hA2⟩ := hA
  obtain ⟨hB1, hB2⟩ := hBB
  clear hxa hyb x100 y100 e1 e2 e3 e4 hx1 hy1 hx2 hy2
  generalize hlx : x.length = nx at *
  subst hA2
  have HLX := Lib.hid hlx
  generalize hly : y.length = ny at *
  subst hB2
  have HLY := Lib.hid hly
  clear hlx hly
  generalize a.length = na at *
  generalize b.length = nb at *
  have g1 : (na : Int) ≤ 100 := by omega
  have g2 : min (na : Int) 100 = na := by omega
  have g3 : (nb : Int) ≤ 100 := by omega
  have g4 : min (nb : Int) 100 = nb := by omega
  have nac : (na : Int) ≤ c := by omega
  have nbd : (nb : Int) ≤ d := by omega
  have xc : (na : Int) ≤ c := by omega
  have yd : (nb : Int) ≤ d := by omega
  have i1 : at_ % 4294967296 < (nb : Int) := by omega
  have q1' : (at_ / 4294967296 == 1) = false := by first | exact beq_iff_eq.mpr h1 | exact beq_false_of_ne (by omega)
  have q2' : (at_ / 4294967296 == 2) = true := by first | exact beq_iff_eq.mpr h1 | exact beq_false_of_ne (by omega)
  unfold maxLen at hcm hdm
  clear h1 h2
  go_enter Try.func6, Try.ntmps6
  go_wp2_with fail
  refine (SH.out _).mono ?_
  rintro e w0 ⟨rfl, b0⟩
  have V := Lib.hid b0
  clear b0
  go_wp2_with fail
  refine (N.out _ V.out).mono ?_
  rintro e w1 ⟨g, rfl, q1⟩
  have Q := Lib.hid q1
  clear q1 V N SH
  go_wp2_with fail
  go_quiet (fail)
  replace Q := Lib.hid (Q.out.after (below_drewN (Below.refl _ _) nq))
  generalize w1.drewN nq = wq at *
  go_wp2_with fail
  refine (M1.out _ _ Q.out (HX.out.after Q.out.below)).mono ?_
  rintro e w2 ⟨rfl, q⟩
  replace Q := Lib.hid q
  clear q
  go_wp2_with fail
  refine (M2.out _ _ Q.out (HY.out.after Q.out.below)).mono ?_
  rintro e w3 ⟨rfl, q⟩
  replace Q := Lib.hid q
  clear q
  go_wp2_with fail
  refine (S1.out _ _ Q.out).mono ?_
  rintro e w4 ⟨rfl, q⟩
  replace Q := Lib.hid q
  clear q
  go_wp2_with fail
  refine (R1.out _ _ Q.out).mono ?_
  rintro e w5 ⟨Ap, cp, rfl, hp, kp1, kp2, b5⟩
  replace Q := Lib.hid (Q.out.after b5)
  dsimp only at hp kp1 ⊢
  try rw [HLX.out]
  go_wp2_with fail
  refine (R2.out _ _ Q.out).mono ?_
  rintro e w6 ⟨Aq, cq, rfl, hq, kq1, kq2, b6⟩
  replace Q := Lib.hid (Q.out.after b6)
  dsimp only at hq kq1 ⊢
  try rw [e5]
  have s1 := str_bytS (hp.after b6) cp
  have s2 := str_bytS (HX.out.after Q.out.below) c
  rw [HLX.out] at s1 s2
  generalize strOfNums x = sx at *
  clear M1 M2 S1 R1 R2 hp hq b5 b6
  go_wp2_with fail
  clear s1 s2
  refine (L1.out _ _ Q.out).mono ?_
  rintro e w7 ⟨rfl, b⟩
  replace Q := Lib.hid (Q.out.after b)
  clear b L1
  go_wp2_with fail
  go_ret
  exact ⟨rfl, Q.out.below⟩

set_option maxRecDepth 100000 in
set_option maxHeartbeats 4000000 in
theorem l8_MemApart_2sb (x y : List Int) (a b : List Int) (A B : Option Addr) (c d : Nat) (at_ n : Int) (w : World) (hat : 0 ≤ at_ ∧ at_ ≤ 18446744073709551615) (hn : 0 ≤ n ∧ n ≤ 18446744073709551615) (hx1 : BytS w A x) (hx2 : OkB x) (hx4 : x.length ≤ c) (hy1 : BytS w B y) (hy2 : OkB y) (hy4 : y.length ≤ d) (hac : a.length ≤ c) (hbd : b.length ≤ d) (hcm : c ≤ maxLen) (hdm : d ≤ maxLen) (hxa : x.length = min 100 a.length) (hyb : y.length = min 100 b.length) (h1 : at_ / 4294967296 = 2) (h2 : at_ % 4294967296 < y.length) (hA : a.length ≤ 100 ∧ x.length = a.length) (hBB : 100 < b.length ∧ y.length = 100) : Calls Try.prog 6 #[.slice A a.length c, .slice B b.length d, .int .u64 at_, .int .u64 n] w (Fine w) := by
  have N := Lib.hid (mm_New w)
  have SH := Lib.hid l8_shown
  have x100 : x.length ≤ 100 := by omega
  have y100 : y.length ≤ 100 := by omega
  have M1 := Lib.hid fun g w' (h : Mm w w' g []) (hb : BytS w' A x) => mm_Make 1 x A c false true h hb hx2 hx4 hcm (by simp)
  rw [make_one 1 x false true (by omega) (by omega)] at M1
  have M2 := Lib.hid fun g w' (h : Mm w w' g [⟨1, x, List.replicate x.length false, true⟩]) (hb : BytS w' B y) => mm_Make 2 y B d false false h hb hy2 hy4 hdm (by simp)
  rw [ap_make x y x100 y100] at M2
  obtain ⟨y', e5, e1, e3, e4, cv, e2⟩ := ap_second (x := x) (n := n) hat.1 h1 h2
  generalize hM : [PA.mk 1 x (List.replicate x.length false) true, y'] = M at *
  have S1 := Lib.hid fun g w' (h : Mm w w' g (apM x y)) => mm_Store at_ 1 n h hat hn
  rw [e1] at S1
  have L1 := Lib.hid fun g w' (h : Mm w w' g M) => mm_Load at_ 1 h hat
  rw [e2] at L1
  have R1 := Lib.hid fun g w' (h : Mm w w' g M) => mm_Area 1 h
  rw [e3] at R1
  have R2 := Lib.hid fun g w' (h : Mm w w' g M) => mm_Area 2 h
  rw [e4] at R2
  have HX := Lib.hid hx1
  have HY := Lib.hid hy1
  have hand : bits .and .u64 at_ 4294967295 = at_ % 4294967296 := by
    have := and_low (n := at_) (k := 32) hat (by omega)
    simpa using this
  obtain ⟨hA1, hA2⟩ := hA
  obtain ⟨hB1, hB2⟩ := hBB
  clear hxa hyb x100 y100 e1 e2 e3 e4 hx1 hy1 hx2 hy2
  generalize hlx : x.length = nx at *
  subst hA2
  have HLX := Lib.hid hlx
  generalize hly : y.length = ny at *
  subst hB2
  have HLY := Lib.hid hly
  clear hlx hly
  generalize a.length = na at *
  generalize b.length = nb at *
  have g1 : (na : Int) ≤ 100 := by omega
  have g2 : min (na : Int) 100 = na := by omega
  have g3 : (100 : Int) < nb := by omega
  have g4 : min (nb : Int) 100 = 100 := by omega
  have nac : (na : Int) ≤ c := by omega
  have nbd : (nb : Int) ≤ d := by omega
  have xc : (na : Int) ≤ c := by omega
  have yd : (100 : Int) ≤ d := by omega
  have i1 : at_ % 4294967296 < (100 : Int) := by omega
  have q1' : (at_ / 4294967296 == 1) = false := by first | exact beq_iff_eq.mpr h1 | exact beq_false_of_ne (by omega)
  have q2' : (at_ / 4294967296 == 2) = true := by first | exact beq_iff_eq.mpr h1 | exact beq_false_of_ne (by omega)
  unfold maxLen at hcm hdm
  clear h1 h2
  go_enter Try.func6, Try.ntmps6
  go_wp2_with fail
  refine (SH.out _).mono ?_
  rintro e w0 ⟨rfl, b0⟩
  have V := Lib.hid b0
  clear b0
  go_wp2_with fail
  refine (N.out _ V.out).mono ?_
  rintro e w1 ⟨g, rfl, q1⟩
  have Q := Lib.hid q1
  clear q1 V N SH
  go_wp2_with fail
  go_quiet (fail)
  replace Q := Lib.hid (Q.out.after (below_drewN (Below.refl _ _) nq))
  generalize w1.drewN nq = wq at *
  go_wp2_with fail
  refine (M1.out _ _ Q.out (HX.out.after Q.out.below)).mono ?_
  rintro e w2 ⟨rfl, q⟩
  replace Q := Lib.hid q
  clear q
  go_wp2_with fail
  refine (M2.out _ _ Q.out (HY.out.after Q.out.below)).mono ?_
  rintro e w3 ⟨rfl, q⟩
  replace Q := Lib.hid q
  clear q
  go_wp2_with fail
  refine (S1.out _ _ Q.out).mono ?_
  rintro e w4 ⟨rfl, q⟩
  replace Q := Lib.hid q
  clear q
  go_wp2_with fail
  refine (R1.out _ _ Q.out).mono ?_
  rintro e w5 ⟨Ap, cp, rfl, hp, kp1, kp2, b5⟩
  replace Q := Lib.hid (Q.out.after b5)
  dsimp only at hp kp1 ⊢
  try rw [HLX.out]
  go_wp2_with fail
  refine (R2.out _ _ Q.out).mono ?_
  rintro e w6 ⟨Aq, cq, rfl, hq, kq1, kq2, b6⟩
  replace Q := Lib.hid (Q.out.after b6)
  dsimp only at hq kq1 ⊢
  try rw [e5]
  have s1 := str_bytS (hp.after b6) cp
  have s2 := str_bytS (HX.out.after Q.out.below) c
  rw [HLX.out] at s1 s2
  generalize strOfNums x = sx at *
  clear M1 M2 S1 R1 R2 hp hq b5 b6
  go_wp2_with fail
  clear s1 s2
  refine (L1.out _ _ Q.out).mono ?_
  rintro e w7 ⟨rfl, b⟩
  replace Q := Lib.hid (Q.out.after b)
  clear b L1
  go_wp2_with fail
  go_ret
  exact ⟨rfl, Q.out.below⟩

set_option maxRecDepth 100000 in
set_option maxHeartbeats 4000000 in
theorem l8_MemApart_2bs (x y : List Int) (a b : List Int) (A B : Option Addr) (c d : Nat) (at_ n : Int) (w : World) (hat : 0 ≤ at_ ∧ at_ ≤ 18446744073709551615) (hn : 0 ≤ n ∧ n ≤ 18446744073709551615) (hx1 : BytS w A x) (hx2 : OkB x) (hx4 : x.length ≤ c) (hy1 : BytS w B y) (hy2 : OkB y) (hy4 : y.length ≤ d) (hac : a.length ≤ c) (hbd : b.length ≤ d) (hcm : c ≤ maxLen) (hdm : d ≤ maxLen) (hxa : x.length = min 100 a.length) (hyb : y.length = min 100 b.length) (h1 : at_ / 4294967296 = 2) (h2 : at_ % 4294967296 < y.length) (hA : 100 < a.length ∧ x.length = 100) (hBB : b.length ≤ 100 ∧ y.length = b.length) : Calls Try.prog 6 #[.slice A a.length c, .slice B b.length d, .int .u64 at_, .int .u64 n] w (Fine w) := by
  have N := Lib.hid (mm_New w)
  have SH := Lib.hid l8_shown
  have x100 : x.length ≤ 100 := by omega
  have y100 : y.length ≤ 100 := by omega
  have M1 := Lib.hid fun g w' (h : Mm w w' g []) (hb : BytS w' A x) => mm_Make 1 x A c false true h hb hx2 hx4 hcm (by simp)
  rw [make_one 1 x false true (by omega) (by omega)] at M1
  have M2 := Lib.hid fun g w' (h : Mm w w' g [⟨1, x, List.replicate x.length false, true⟩]) (hb : BytS w' B y) => mm_Make 2 y B d false false h hb hy2 hy4 hdm (by simp)
  rw [ap_make x y x100 y100] at M2
  obtain ⟨y', e5, e1, e3, e4, cv, e2⟩ := ap_second (x := x) (n := n) hat.1 h1 h2
  generalize hM : [PA.mk 1 x (List.replicate x.length false) true, y'] = M at *
  have S1 := Lib.hid fun g w' (h : Mm w w' g (apM x y)) => mm_Store at_ 1 n h hat hn
  rw [e1] at S1
  have L1 := Lib.hid fun g w' (h : Mm w w' g M) => mm_Load at_ 1 h hat
  rw [e2] at L1
  have R1 := Lib.hid fun g w' (h : Mm w w' g M) => mm_Area 1 h
  rw [e3] at R1
  have R2 := Lib.hid fun g w' (h : Mm w w' g M) => mm_Area 2 h
  rw [e4] at R2
  have HX := Lib.hid hx1
  have HY := Lib.hid hy1
  have hand : bits .and .u64 at_ 4294967295 = at_ % 4294967296 := by
    have := and_low (n := at_) (k := 32) hat (by omega)
    simpa using this
  obtain ⟨hA1, hA2⟩ := hA
  obtain ⟨hB1, hB2⟩ := hBB
  clear hxa hyb x100 y100 e1 e2 e3 e4 hx1 hy1 hx2 hy2
  generalize hlx : x.length = nx at *
  subst hA2
  have HLX := Lib.hid hlx
  generalize hly : y.length = ny at *
  subst hB2
  have HLY := Lib.hid hly
  clear hlx hly
  generalize a.length = na at *
  generalize b.length = nb at *
  have g1 : (100 : Int) < na := by omega
  have g2 : min (na : Int) 100 = 100 := by omega
  have g3 : (nb : Int) ≤ 100 := by omega
  have g4 : min (nb : Int) 100 = nb := by omega
  have nac : (na : Int) ≤ c := by omega
  have nbd : (nb : Int) ≤ d := by omega
  have xc : (100 : Int) ≤ c := by omega
  have yd : (nb : Int) ≤ d := by omega
  have i1 : at_ % 4294967296 < (nb : Int) := by omega
  have q1' : (at_ / 4294967296 == 1) = false := by first | exact beq_iff_eq.mpr h1 | exact beq_false_of_ne (by omega)
  have q2' : (at_ / 4294967296 == 2) = true := by first | exact beq_iff_eq.mpr h1 | exact beq_false_of_ne (by omega)
  unfold maxLen at hcm hdm
  clear h1 h2
  go_enter Try.func6, Try.ntmps6
  go_wp2_with fail
  refine (SH.out _).mono ?_
  rintro e w0 ⟨rfl, b0⟩
  have V := Lib.hid b0
  clear b0
  go_wp2_with fail
  refine (N.out _ V.out).mono ?_
  rintro e w1 ⟨g, rfl, q1⟩
  have Q := Lib.hid q1
  clear q1 V N SH
  go_wp2_with fail
  go_quiet (fail)
  replace Q := Lib.hid (Q.out.after (below_drewN (Below.refl _ _) nq))
  generalize w1.drewN nq = wq at *
  go_wp2_with fail
  refine (M1.out _ _ Q.out (HX.out.after Q.out.below)).mono ?_
  rintro e w2 ⟨rfl, q⟩
  replace Q := Lib.hid q
  clear q
  go_wp2_with fail
  refine (M2.out _ _ Q.out (HY.out.after Q.out.below)).mono ?_
  rintro e w3 ⟨rfl, q⟩
  replace Q := Lib.hid q
  clear q
  go_wp2_with fail
  refine (S1.out _ _ Q.out).mono ?_
  rintro e w4 ⟨rfl, q⟩
  replace Q := Lib.hid q
  clear q
  go_wp2_with fail
  refine (R1.out _ _ Q.out).mono ?_
  rintro e w5 ⟨Ap, cp, rfl, hp, kp1, kp2, b5⟩
  replace Q := Lib.hid (Q.out.after b5)
  dsimp only at hp kp1 ⊢
  try rw [HLX.out]
  go_wp2_with fail
  refine (R2.out _ _ Q.out).mono ?_
  rintro e w6 ⟨Aq, cq, rfl, hq, kq1, kq2, b6⟩
  replace Q := Lib.hid (Q.out.after b6)
  dsimp only at hq kq1 ⊢
  try rw [e5]
  have s1 := str_bytS (hp.after b6) cp
  have s2 := str_bytS (HX.out.after Q.out.below) c
  rw [HLX.out] at s1 s2
  generalize strOfNums x = sx at *
  clear M1 M2 S1 R1 R2 hp hq b5 b6
  go_wp2_with fail
  clear s1 s2
  refine (L1.out _ _ Q.out).mono ?_
  rintro e w7 ⟨rfl, b⟩
  replace Q := Lib.hid (Q.out.after b)
  clear b L1
  go_wp2_with fail
  go_ret
  exact ⟨rfl, Q.out.below⟩

set_option maxRecDepth 100000 in
set_option maxHeartbeats 4000000 in
theorem l8_MemApart_2bb (x y : List Int) (a b : List Int) (A B : Option Addr) (c d : Nat) (at_ n : Int) (w : World) (hat : 0 ≤ at_ ∧ at_ ≤ 18446744073709551615) (hn : 0 ≤ n ∧ n ≤ 18446744073709551615) (hx1 : BytS w A x) (hx2 : OkB x) (hx4 : x.length ≤ c) (hy1 : BytS w B y) (hy2 : OkB y) (hy4 : y.length ≤ d) (hac : a.length ≤ c) (hbd : b.length ≤ d) (hcm : c ≤ maxLen) (hdm : d ≤ maxLen) (hxa : x.length = min 100 a.length) (hyb : y.length = min 100 b.length) (h1 : at_ / 4294967296 = 2) (h2 : at_ % 4294967296 < y.length) (hA : 100 < a.length ∧ x.length = 100) (hBB : 100 < b.length ∧ y.length = 100) : Calls Try.prog 6 #[.slice A a.length c, .slice B b.length d, .int .u64 at_, .int .u64 n] w (Fine w) := by
  have N := Lib.hid (mm_New w)
  have SH := Lib.hid l8_shown
  have x100 : x.length ≤ 100 := by omega
  have y100 : y.length ≤ 100 := by omega
  have M1 := Lib.hid fun g w' (h : Mm w w' g []) (hb : BytS w' A x) => mm_Make 1 x A c false true h hb hx2 hx4 hcm (by simp)
  rw [make_one 1 x false true (by omega) (by omega)] at M1
  have M2 := Lib.hid fun g w' (h : Mm w w' g [⟨1, x, List.replicate x.length false, true⟩]) (hb : BytS w' B y) => mm_Make 2 y B d false false h hb hy2 hy4 hdm (by simp)
  rw [ap_make x y x100 y100] at M2
  obtain ⟨y', e5, e1, e3, e4, cv, e2⟩ := ap_second (x := x) (n := n) hat.1 h1 h2
  generalize hM : [PA.mk 1 x (List.replicate x.length false) true, y'] = M at *
  have S1 := Lib.hid fun g w' (h : Mm w w' g (apM x y)) => mm_Store at_ 1 n h hat hn
  rw [e1] at S1
  have L1 := Lib.hid fun g w' (h : Mm w w' g M) => mm_Load at_ 1 h hat
  rw [e2] at L1
  have R1 := Lib.hid fun g w' (h : Mm w w' g M) => mm_Area 1 h
  rw [e3] at R1
  have R2 := Lib.hid fun g w' (h : Mm w w' g M) => mm_Area 2 h
  rw [e4] at R2
  have HX := Lib.hid hx1
  have HY := Lib.hid hy1
  have hand : bits .and .u64 at_ 4294967295 = at_ % 4294967296 := by
    have := and_low (n := at_) (k := 32) hat (by omega)
    simpa using this
  obtain ⟨hA1, hA2⟩ := hA
  obtain ⟨hB1, hB2⟩ := hBB
  clear hxa hyb x100 y100 e1 e2 e3 e4 hx1 hy1 hx2 hy2
  generalize hlx : x.length = nx at *
  subst hA2
  have HLX := Lib.hid hlx
  generalize hly : y.length = ny at *
  subst hB2
  have HLY := Lib.hid hly
  clear hlx hly
  generalize a.length = na at *
  generalize b.length = nb at *
  have g1 : (100 : Int) < na := by omega
  have g2 : min (na : Int) 100 = 100 := by omega
  have g3 : (100 : Int) < nb := by omega
  have g4 : min (nb : Int) 100 = 100 := by omega
  have nac : (na : Int) ≤ c := by omega
  have nbd : (nb : Int) ≤ d := by omega
  have xc : (100 : Int) ≤ c := by omega
  have yd : (100 : Int) ≤ d := by omega
  have i1 : at_ % 4294967296 < (100 : Int) := by omega
  have q1' : (at_ / 4294967296 == 1) = false := by first | exact beq_iff_eq.mpr h1 | exact beq_false_of_ne (by omega)
  have q2' : (at_ / 4294967296 == 2) = true := by first | exact beq_iff_eq.mpr h1 | exact beq_false_of_ne (by omega)
  unfold maxLen at hcm hdm
  clear h1 h2
  go_enter Try.func6, Try.ntmps6
  go_wp2_with fail
  refine (SH.out _).mono ?_
  rintro e w0 ⟨rfl, b0⟩
  have V := Lib.hid b0
  clear b0
  go_wp2_with fail
  refine (N.out _ V.out).mono ?_
  rintro e w1 ⟨g, rfl, q1⟩
  have Q := Lib.hid q1
  clear q1 V N SH
  go_wp2_with fail
  go_quiet (fail)
  replace Q := Lib.hid (Q.out.after (below_drewN (Below.refl _ _) nq))
  generalize w1.drewN nq = wq at *
  go_wp2_with fail
  refine (M1.out _ _ Q.out (HX.out.after Q.out.below)).mono ?_
  rintro e w2 ⟨rfl, q⟩
  replace Q := Lib.hid q
  clear q
  go_wp2_with fail
  refine (M2.out _ _ Q.out (HY.out.after Q.out.below)).mono ?_
  rintro e w3 ⟨rfl, q⟩
  replace Q := Lib.hid q
  clear q
  go_wp2_with fail
  refine (S1.out _ _ Q.out).mono ?_
  rintro e w4 ⟨rfl, q⟩
  replace Q := Lib.hid q
  clear q
  go_wp2_with fail
  refine (R1.out _ _ Q.out).mono ?_
  rintro e w5 ⟨Ap, cp, rfl, hp, kp1, kp2, b5⟩
  replace Q := Lib.hid (Q.out.after b5)
  dsimp only at hp kp1 ⊢
  try rw [HLX.out]
  go_wp2_with fail
  refine (R2.out _ _ Q.out).mono ?_
  rintro e w6 ⟨Aq, cq, rfl, hq, kq1, kq2, b6⟩
  replace Q := Lib.hid (Q.out.after b6)
  dsimp only at hq kq1 ⊢
  try rw [e5]
  have s1 := str_bytS (hp.after b6) cp
  have s2 := str_bytS (HX.out.after Q.out.below) c
  rw [HLX.out] at s1 s2
  generalize strOfNums x = sx at *
  clear M1 M2 S1 R1 R2 hp hq b5 b6
  go_wp2_with fail
  clear s1 s2
  refine (L1.out _ _ Q.out).mono ?_
  rintro e w7 ⟨rfl, b⟩
  replace Q := Lib.hid (Q.out.after b)
  clear b L1
  go_wp2_with fail
  go_ret
  exact ⟨rfl, Q.out.below⟩

set_option maxRecDepth 100000 in
set_option maxHeartbeats 4000000 in
theorem l8_MemApart_3ss (x y : List Int) (a b : List Int) (A B : Option Addr) (c d : Nat) (at_ n : Int) (w : World) (hat : 0 ≤ at_ ∧ at_ ≤ 18446744073709551615) (hn : 0 ≤ n ∧ n ≤ 18446744073709551615) (hx1 : BytS w A x) (hx2 : OkB x) (hx4 : x.length ≤ c) (hy1 : BytS w B y) (hy2 : OkB y) (hy4 : y.length ≤ d) (hac : a.length ≤ c) (hbd : b.length ≤ d) (hcm : c ≤ maxLen) (hdm : d ≤ maxLen) (hxa : x.length = min 100 a.length) (hyb : y.length = min 100 b.length) (h1 : at_ / 4294967296 = 1) (h2 : ¬ at_ % 4294967296 < x.length) (hA : a.length ≤ 100 ∧ x.length = a.length) (hBB : b.length ≤ 100 ∧ y.length = b.length) : Calls Try.prog 6 #[.slice A a.length c, .slice B b.length d, .int .u64 at_, .int .u64 n] w (Fine w) := by
  have N := Lib.hid (mm_New w)
  have SH := Lib.hid l8_shown
  have x100 : x.length ≤ 100 := by omega
  have y100 : y.length ≤ 100 := by omega
  have M1 := Lib.hid fun g w' (h : Mm w w' g []) (hb : BytS w' A x) => mm_Make 1 x A c false true h hb hx2 hx4 hcm (by simp)
  rw [make_one 1 x false true (by omega) (by omega)] at M1
  have M2 := Lib.hid fun g w' (h : Mm w w' g [⟨1, x, List.replicate x.length false, true⟩]) (hb : BytS w' B y) => mm_Make 2 y B d false false h hb hy2 hy4 hdm (by simp)
  rw [ap_make x y x100 y100] at M2
  obtain ⟨e1, e2⟩ := ap_none (x := x) (y := y) (n := n) hat.1 (by omega) (by omega)
  obtain ⟨e3, e4⟩ := ap_area x y
  have S1 := Lib.hid fun g w' (h : Mm w w' g (apM x y)) => mm_Store at_ 1 n h hat hn
  rw [e1] at S1
  have L1 := Lib.hid fun g w' (h : Mm w w' g (apM x y)) => mm_Load at_ 1 h hat
  rw [e2] at L1
  have R1 := Lib.hid fun g w' (h : Mm w w' g (apM x y)) => mm_Area 1 h
  rw [e3] at R1
  have R2 := Lib.hid fun g w' (h : Mm w w' g (apM x y)) => mm_Area 2 h
  rw [e4] at R2
  have HX := Lib.hid hx1
  have HY := Lib.hid hy1
  have hand : bits .and .u64 at_ 4294967295 = at_ % 4294967296 := by
    have := and_low (n := at_) (k := 32) hat (by omega)
    simpa using this
  obtain ⟨hA1, hA2⟩ := hA
  obtain ⟨hB1, hB2⟩ := hBB
  clear hxa hyb x100 y100 e1 e2 e3 e4 hx1 hy1 hx2 hy2
  generalize hlx : x.length = nx at *
  subst hA2
  have HLX := Lib.hid hlx
  generalize hly : y.length = ny at *
  subst hB2
  have HLY := Lib.hid hly
  clear hlx hly
  generalize a.length = na at *
  generalize b.length = nb at *
  have g1 : (na : Int) ≤ 100 := by omega
  have g2 : min (na : Int) 100 = na := by omega
  have g3 : (nb : Int) ≤ 100 := by omega
  have g4 : min (nb : Int) 100 = nb := by omega
  have nac : (na : Int) ≤ c := by omega
  have nbd : (nb : Int) ≤ d := by omega
  have xc : (na : Int) ≤ c := by omega
  have yd : (nb : Int) ≤ d := by omega
  have i1 : ¬ at_ % 4294967296 < (na : Int) := by omega
  have q1' : (at_ / 4294967296 == 1) = true := by first | exact beq_iff_eq.mpr h1 | exact beq_false_of_ne (by omega)
  have q2' : (at_ / 4294967296 == 2) = false := by first | exact beq_iff_eq.mpr h1 | exact beq_false_of_ne (by omega)
  unfold maxLen at hcm hdm
  clear h1 h2
  go_enter Try.func6, Try.ntmps6
  go_wp2_with fail
  refine (SH.out _).mono ?_
  rintro e w0 ⟨rfl, b0⟩
  have V := Lib.hid b0
  clear b0
  go_wp2_with fail
  refine (N.out _ V.out).mono ?_
  rintro e w1 ⟨g, rfl, q1⟩
  have Q := Lib.hid q1
  clear q1 V N SH
  go_wp2_with fail
  go_quiet (fail)
  replace Q := Lib.hid (Q.out.after (below_drewN (Below.refl _ _) nq))
  generalize w1.drewN nq = wq at *
  go_wp2_with fail
  refine (M1.out _ _ Q.out (HX.out.after Q.out.below)).mono ?_
  rintro e w2 ⟨rfl, q⟩
  replace Q := Lib.hid q
  clear q
  go_wp2_with fail
  refine (M2.out _ _ Q.out (HY.out.after Q.out.below)).mono ?_
  rintro e w3 ⟨rfl, q⟩
  replace Q := Lib.hid q
  clear q
  go_wp2_with fail
  refine (S1.out _ _ Q.out).mono ?_
  rintro e w4 ⟨rfl, q⟩
  replace Q := Lib.hid q
  clear q
  go_wp2_with fail
  refine (R1.out _ _ Q.out).mono ?_
  rintro e w5 ⟨Ap, cp, rfl, hp, kp1, kp2, b5⟩
  replace Q := Lib.hid (Q.out.after b5)
  dsimp only at hp kp1 ⊢
  try rw [HLX.out]
  go_wp2_with fail
  refine (R2.out _ _ Q.out).mono ?_
  rintro e w6 ⟨Aq, cq, rfl, hq, kq1, kq2, b6⟩
  replace Q := Lib.hid (Q.out.after b6)
  dsimp only at hq kq1 ⊢
  try rw [HLY.out]
  have s1 := str_bytS (hp.after b6) cp
  have s2 := str_bytS (HX.out.after Q.out.below) c
  rw [HLX.out] at s1 s2
  have s3 := str_bytS hq cq
  have s4 := str_bytS (HY.out.after Q.out.below) d
  rw [HLY.out] at s3 s4
  generalize strOfNums y = sy at *
  generalize strOfNums x = sx at *
  clear M1 M2 S1 R1 R2 hp hq b5 b6
  go_wp2_with fail
  clear s1 s2 s3 s4
  refine (L1.out _ _ Q.out).mono ?_
  rintro e w7 ⟨rfl, b⟩
  replace Q := Lib.hid (Q.out.after b)
  clear b L1
  go_wp2_with fail
  go_ret
  exact ⟨rfl, Q.out.below⟩

set_option maxRecDepth 100000 in
set_option maxHeartbeats 4000000 in
theorem l8_MemApart_3sb (x y : List Int) (a b : List Int) (A B : Option Addr) (c d : Nat) (at_ n : Int) (w : World) (hat : 0 ≤ at_ ∧ at_ ≤ 18446744073709551615) (hn : 0 ≤ n ∧ n ≤ 18446744073709551615) (hx1 : BytS w A x) (hx2 : OkB x) (hx4 : x.length ≤ c) (hy1 : BytS w B y) (hy2 : OkB y) (hy4 : y.length ≤ d) (hac : a.length ≤ c) (hbd : b.length ≤ d) (hcm : c ≤ maxLen) (hdm : d ≤ maxLen) (hxa : x.length = min 100 a.length) (hyb : y.length = min 100 b.length) (h1 : at_ / 4294967296 = 1) (h2 : ¬ at_ % 4294967296 < x.length) (hA : a.length ≤ 100 ∧ x.length = a.length) (hBB : 100 < b.length ∧ y.length = 100) : Calls Try.prog 6 #[.slice A a.length c, .slice B b.length d, .int .u64 at_, .int .u64 n] w (Fine w) := by
  have N := Lib.hid (mm_New w)
  have SH := Lib.hid l8_shown
  have x100 : x.length ≤ 100 := by omega
  have y100 : y.length ≤ 100 := by omega
  have M1 := Lib.hid fun g w' (h : Mm w w' g []) (hb : BytS w' A x) => mm_Make 1 x A c false true h hb hx2 hx4 hcm (by simp)
  rw [make_one 1 x false true (by omega) (by omega)] at M1
  have M2 := Lib.hid fun g w' (h : Mm w w' g [⟨1, x, List.replicate x.length false, true⟩]) (hb : BytS w' B y) => mm_Make 2 y B d false false h hb hy2 hy4 hdm (by simp)
  rw [ap_make x y x100 y100] at M2
  obtain ⟨e1, e2⟩ := ap_none (x := x) (y := y) (n := n) hat.1 (by omega) (by omega)
  obtain ⟨e3, e4⟩ := ap_area x y
  have S1 := Lib.hid fun g w' (h : Mm w w' g (apM x y)) => mm_Store at_ 1 n h hat hn
  rw [e1] at S1
  have L1 := Lib.hid fun g w' (h : Mm w w' g (apM x y)) => mm_Load at_ 1 h hat
  rw [e2] at L1
  have R1 := Lib.hid fun g w' (h : Mm w w' g (apM x y)) => mm_Area 1 h
  rw [e3] at R1
  have R2 := Lib.hid fun g w' (h : Mm w w' g (apM x y)) => mm_Area 2 h
  rw [e4] at R2
  have HX := Lib.hid hx1
  have HY := Lib.hid hy1
  have hand : bits .and .u64 at_ 4294967295 = at_ % 4294967296 := by
    have := and_low (n := at_) (k := 32) hat (by omega)
    simpa using this
  obtain ⟨hA1, hA2⟩ := hA
  obtain ⟨hB1, hB2⟩ := hBB
  clear hxa hyb x100 y100 e1 e2 e3 e4 hx1 hy1 hx2 hy2
  generalize hlx : x.length = nx at *
  subst hA2
  have HLX := Lib.hid hlx
  generalize hly : y.length = ny at *
  subst hB2
  have HLY := Lib.hid hly
  clear hlx hly
  generalize a.length = na at *
  generalize b.length = nb at *
  have g1 : (na : Int) ≤ 100 := by omega
  have g2 : min (na : Int) 100 = na := by omega
  have g3 : (100 : Int) < nb := by omega
  have g4 : min (nb : Int) 100 = 100 := by omega
  have nac : (na : Int) ≤ c := by omega
  have nbd : (nb : Int) ≤ d := by omega
  have xc : (na : Int) ≤ c := by omega
  have yd : (100 : Int) ≤ d := by omega
  have i1 : ¬ at_ % 4294967296 < (na : Int) := by omega
  have q1' : (at_ / 4294967296 == 1) = true := by first | exact beq_iff_eq.mpr h1 | exact beq_false_of_ne (by omega)
  have q2' : (at_ / 4294967296 == 2) = false := by first | exact beq_iff_eq.mpr h1 | exact beq_false_of_ne (by omega)
  unfold maxLen at hcm hdm
  clear h1 h2
  go_enter Try.func6, Try.ntmps6
  go_wp2_with fail
  refine (SH.out _).mono ?_
  rintro e w0 ⟨rfl, b0⟩
  have V := Lib.hid b0
  clear b0
  go_wp2_with fail
  refine (N.out _ V.out).mono ?_
  rintro e w1 ⟨g, rfl, q1⟩
  have Q := Lib.hid q1
  clear q1 V N SH
  go_wp2_with fail
  go_quiet (fail)
  replace Q := Lib.hid (Q.out.after (below_drewN (Below.refl _ _) nq))
  generalize w1.drewN nq = wq at *
  go_wp2_with fail
  refine (M1.out _ _ Q.out (HX.out.after Q.out.below)).mono ?_
  rintro e w2 ⟨rfl, q⟩
  replace Q := Lib.hid q
  clear q
  go_wp2_with fail
  refine (M2.out _ _ Q.out (HY.out.after Q.out.below)).mono ?_
  rintro e w3 ⟨rfl, q⟩
  replace Q := Lib.hid q
  clear q
  go_wp2_with fail
  refine (S1.out _ _ Q.out).mono ?_
  rintro e w4 ⟨rfl, q⟩
  replace Q := Lib.hid q
  clear q
  go_wp2_with fail
  refine (R1.out _ _ Q.out).mono ?_
  rintro e w5 ⟨Ap, cp, rfl, hp, kp1, kp2, b5⟩
  replace Q := Lib.hid (Q.out.after b5)
  dsimp only at hp kp1 ⊢
  try rw [HLX.out]
  go_wp2_with fail
  refine (R2.out _ _ Q.out).mono ?_
  rintro e w6 ⟨Aq, cq, rfl, hq, kq1, kq2, b6⟩
  replace Q := Lib.hid (Q.out.after b6)
  dsimp only at hq kq1 ⊢
  try rw [HLY.out]
  have s1 := str_bytS (hp.after b6) cp
  have s2 := str_bytS (HX.out.after Q.out.below) c
  rw [HLX.out] at s1 s2
  have s3 := str_bytS hq cq
  have s4 := str_bytS (HY.out.after Q.out.below) d
  rw [HLY.out] at s3 s4
  generalize strOfNums y = sy at *
  generalize strOfNums x = sx at *
  clear M1 M2 S1 R1 R2 hp hq b5 b6
  go_wp2_with fail
  clear s1 s2 s3 s4
  refine (L1.out _ _ Q.out).mono ?_
  rintro e w7 ⟨rfl, b⟩
  replace Q := Lib.hid (Q.out.after b)
  clear b L1
  go_wp2_with fail
  go_ret
  exact ⟨rfl, Q.out.below⟩

set_option maxRecDepth 100000 in
set_option maxHeartbeats 4000000 in
theorem l8_MemApart_3bs (x y : List Int) (a b : List Int) (A B : Option Addr) (c d : Nat) (at_ n : Int) (w : World) (hat : 0 ≤ at_ ∧ at_ ≤ 18446744073709551615) (hn : 0 ≤ n ∧ n ≤ 18446744073709551615) (hx1 : BytS w A x) (hx2 : OkB x) (hx4 : x.length ≤ c) (hy1 : BytS w B y) (hy2 : OkB y) (hy4 : y.length ≤ d) (hac : a.length ≤ c) (hbd : b.length ≤ d) (hcm : c ≤ maxLen) (hdm : d ≤ maxLen) (hxa : x.length = min 100 a.length) (hyb : y.length = min 100 b.length) (h1 : at_ / 4294967296 = 1) (h2 : ¬ at_ % 4294967296 < x.length) (hA : 100 < a.length ∧ x.length = 100) (hBB : b.length ≤ 100 ∧ y.length = b.length) : Calls Try.prog 6 #[.slice A a.length c, .slice B b.length d, .int .u64 at_, .int .u64 n] w (Fine w) := by
  have N := Lib.hid (mm_New w)
  have SH := Lib.hid l8_shown
  have x100 : x.length ≤ 100 := by omega
  have y100 : y.length ≤ 100 := by omega
  have M1 := Lib.hid fun g w' (h : Mm w w' g []) (hb : BytS w' A x) => mm_Make 1 x A c false true h hb hx2 hx4 hcm (by simp)
  rw [make_one 1 x false true (by omega) (by omega)] at M1
  have M2 := Lib.hid fun g w' (h : Mm w w' g [⟨1, x, List.replicate x.length false, true⟩]) (hb : BytS w' B y) => mm_Make 2 y B d false false h hb hy2 hy4 hdm (by simp)
  rw [ap_make x y x100 y100] at M2
  obtain ⟨e1, e2⟩ := ap_none (x := x) (y := y) (n := n) hat.1 (by omega) (by omega)
  obtain ⟨e3, e4⟩ := ap_area x y
  have S1 := Lib.hid fun g w' (h : Mm w w' g (apM x y)) => mm_Store at_ 1 n h hat hn
  rw [e1] at S1
  have L1 := Lib.hid fun g w' (h : Mm w w' g (apM x y)) => mm_Load at_ 1 h hat
  rw [e2] at L1
  have R1 := Lib.hid fun g w' (h : Mm w w' g (apM x y)) => mm_Area 1 h
  rw [e3] at R1
  have R2 := Lib.hid fun g w' (h : Mm w w' g (apM x y)) => mm_Area 2 h
  rw [e4] at R2
  have HX := Lib.hid hx1
  have HY := Lib.hid hy1
  have hand : bits .and .u64 at_ 4294967295 = at_ % 4294967296 := by
    have := and_low (n := at_) (k := 32) hat (by omega)
    simpa using this
  obtain ⟨hA1, hA2⟩ := hA
  obtain ⟨hB1, hB2⟩ := hBB
  clear hxa hyb x100 y100 e1 e2 e3 e4 hx1 hy1 hx2 hy2
  generalize hlx : x.length = nx at *
  subst hA2
  have HLX := Lib.hid hlx
  generalize hly : y.length = ny at *
  subst hB2
  have HLY := Lib.hid hly
  clear hlx hly
  generalize a.length = na at *
  generalize b.length = nb at *
  have g1 : (100 : Int) < na := by omega
  have g2 : min (na : Int) 100 = 100 := by omega
  have g3 : (nb : Int) ≤ 100 := by omega
  have g4 : min (nb : Int) 100 = nb := by omega
  have nac : (na : Int) ≤ c := by omega
  have nbd : (nb : Int) ≤ d := by omega
  have xc : (100 : Int) ≤ c := by omega
  have yd : (nb : Int) ≤ d := by omega
  have i1 : ¬ at_ % 4294967296 < (100 : Int) := by omega
  have q1' : (at_ / 4294967296 == 1) = true := by first | exact beq_iff_eq.mpr h1 | exact beq_false_of_ne (by omega)
  have q2' : (at_ / 4294967296 == 2) = false := by first | exact beq_iff_eq.mpr h1 | exact beq_false_of_ne (by omega)
  unfold maxLen at hcm hdm
  clear h1 h2
  go_enter Try.func6, Try.ntmps6
  go_wp2_with fail
  refine (SH.out _).mono ?_
  rintro e w0 ⟨rfl, b0⟩
  have V := Lib.hid b0
  clear b0
  go_wp2_with fail
  refine (N.out _ V.out).mono ?_
  rintro e w1 ⟨g, rfl, q1⟩
  have Q := Lib.hid q1
  clear q1 V N SH
  go_wp2_with fail
  go_quiet (fail)
  replace Q := Lib.hid (Q.out.after (below_drewN (Below.refl _ _) nq))
  generalize w1.drewN nq = wq at *
  go_wp2_with fail
  refine (M1.out _ _ Q.out (HX.out.after Q.out.below)).mono ?_
  rintro e w2 ⟨rfl, q⟩
  replace Q := Lib.hid q
  clear q
  go_wp2_with fail
  refine (M2.out _ _ Q.out (HY.out.after Q.out.below)).mono ?_
  rintro e w3 ⟨rfl, q⟩
  replace Q := Lib.hid q
  clear q
  go_wp2_with fail
  refine (S1.out _ _ Q.out).mono ?_
  rintro e w4 ⟨rfl, q⟩
  replace Q := Lib.hid q
  clear q
  go_wp2_with fail
  refine (R1.out _ _ Q.out).mono ?_
  rintro e w5 ⟨Ap, cp, rfl, hp, kp1, kp2, b5⟩
  replace Q := Lib.hid (Q.out.after b5)
  dsimp only at hp kp1 ⊢
  try rw [HLX.out]
  go_wp2_with fail
  refine (R2.out _ _ Q.out).mono ?_
  rintro e w6 ⟨Aq, cq, rfl, hq, kq1, kq2, b6⟩
  replace Q := Lib.hid (Q.out.after b6)
  dsimp only at hq kq1 ⊢
  try rw [HLY.out]
  have s1 := str_bytS (hp.after b6) cp
  have s2 := str_bytS (HX.out.after Q.out.below) c
  rw [HLX.out] at s1 s2
  have s3 := str_bytS hq cq
  have s4 := str_bytS (HY.out.after Q.out.below) d
  rw [HLY.out] at s3 s4
  generalize strOfNums y = sy at *
  generalize strOfNums x = sx at *
  clear M1 M2 S1 R1 R2 hp hq b5 b6
  go_wp2_with fail
  clear s1 s2 s3 s4
  refine (L1.out _ _ Q.out).mono ?_
  rintro e w7 ⟨rfl, b⟩
  replace Q := Lib.hid (Q.out.after b)
  clear b L1
  go_wp2_with fail
  go_ret
  exact ⟨rfl, Q.out.below⟩

set_option maxRecDepth 100000 in
set_option maxHeartbeats 4000000 in
theorem l8_MemApart_3bb (x y : List Int) (a b : List Int) (A B : Option Addr) (c d : Nat) (at_ n : Int) (w : World) (hat : 0 ≤ at_ ∧ at_ ≤ 18446744073709551615) (hn : 0 ≤ n ∧ n ≤ 18446744073709551615) (hx1 : BytS w A x) (hx2 : OkB x) (hx4 : x.length ≤ c) (hy1 : BytS w B y) (hy2 : OkB y) (hy4 : y.length ≤ d) (hac : a.length ≤ c) (hbd : b.length ≤ d) (hcm : c ≤ maxLen) (hdm : d ≤ maxLen) (hxa : x.length = min 100 a.length) (hyb : y.length = min 100 b.length) (h1 : at_ / 4294967296 = 1) (h2 : ¬ at_ % 4294967296 < x.length) (hA : 100 < a.length ∧ x.length = 100) (hBB : 100 < b.length ∧ y.length = 100) : Calls Try.prog 6 #[.slice A a.length c, .slice B b.length d, .int .u64 at_, .int .u64 n] w (Fine w) := by
  have N := Lib.hid (mm_New w)
  have SH := Lib.hid l8_shown
  have x100 : x.length ≤ 100 := by omega
  have y100 : y.length ≤ 100 := by omega
  have M1 := Lib.hid fun g w' (h : Mm w w' g []) (hb : BytS w' A x) => mm_Make 1 x A c false true h hb hx2 hx4 hcm (by simp)
  rw [make_one 1 x false true (by omega) (by omega)] at M1
  have M2 := Lib.hid fun g w' (h : Mm w w' g [⟨1, x, List.replicate x.length false, true⟩]) (hb : BytS w' B y) => mm_Make 2 y B d false false h hb hy2 hy4 hdm (by simp)
  rw [ap_make x y x100 y100] at M2
  obtain ⟨e1, e2⟩ := ap_none (x := x) (y := y) (n := n) hat.1 (by omega) (by omega)
  obtain ⟨e3, e4⟩ := ap_area x y
  have S1 := Lib.hid fun g w' (h : Mm w w' g (apM x y)) => mm_Store at_ 1 n h hat hn
  rw [e1] at S1
  have L1 := Lib.hid fun g w' (h : Mm w w' g (apM x y)) => mm_Load at_ 1 h hat
  rw [e2] at L1
  have R1 := Lib.hid fun g w' (h : Mm w w' g (apM x y)) => mm_Area 1 h
  rw [e3] at R1
  have R2 := Lib.hid fun g w' (h : Mm w w' g (apM x y)) => mm_Area 2 h
  rw [e4] at R2
  have HX := Lib.hid hx1
  have HY := Lib.hid hy1
  have hand : bits .and .u64 at_ 4294967295 = at_ % 4294967296 := by
    have := and_low (n := at_) (k := 32) hat (by omega)
    simpa using this
  obtain ⟨hA1, hA2⟩ := hA
  obtain ⟨hB1, hB2⟩ := hBB
  clear hxa hyb x100 y100 e1 e2 e3 e4 hx1 hy1 hx2 hy2
  generalize hlx : x.length = nx at *
  subst hA2
  have HLX := Lib.hid hlx
  generalize hly : y.length = ny at *
  subst hB2
  have HLY := Lib.hid hly
  clear hlx hly
  generalize a.length = na at *
  generalize b.length = nb at *
  have g1 : (100 : Int) < na := by omega
  have g2 : min (na : Int) 100 = 100 := by omega
  have g3 : (100 : Int) < nb := by omega
  have g4 : min (nb : Int) 100 = 100 := by omega
  have nac : (na : Int) ≤ c := by omega
  have nbd : (nb : Int) ≤ d := by omega
  have xc : (100 : Int) ≤ c := by omega
  have yd : (100 : Int) ≤ d := by omega
  have i1 : ¬ at_ % 4294967296 < (100 : Int) := by omega
  have q1' : (at_ / 4294967296 == 1) = true := by first | exact beq_iff_eq.mpr h1 | exact beq_false_of_ne (by omega)
  have q2' : (at_ / 4294967296 == 2) = false := by first | exact beq_iff_eq.mpr h1 | exact beq_false_of_ne (by omega)
  unfold maxLen at hcm hdm
  clear h1 h2
  go_enter Try.func6, Try.ntmps6
  go_wp2_with fail
  refine (SH.out _).mono ?_
  rintro e w0 ⟨rfl, b0⟩
  have V := Lib.hid b0
  clear b0
  go_wp2_with fail
  refine (N.out _ V.out).mono ?_
  rintro e w1 ⟨g, rfl, q1⟩
  have Q := Lib.hid q1
  clear q1 V N SH
  go_wp2_with fail
  go_quiet (fail)
  replace Q := Lib.hid (Q.out.after (below_drewN (Below.refl _ _) nq))
  generalize w1.drewN nq = wq at *
  go_wp2_with fail
  refine (M1.out _ _ Q.out (HX.out.after Q.out.below)).mono ?_
  rintro e w2 ⟨rfl, q⟩
  replace Q := Lib.hid q
  clear q
  go_wp2_with fail
  refine (M2.out _ _ Q.out (HY.out.after Q.out.below)).mono ?_
  rintro e w3 ⟨rfl, q⟩
  replace Q := Lib.hid q
  clear q
  go_wp2_with fail
  refine (S1.out _ _ Q.out).mono ?_
  rintro e w4 ⟨rfl, q⟩
  replace Q := Lib.hid q
  clear q
  go_wp2_with fail
  refine (R1.out _ _ Q.out).mono ?_
  rintro e w5 ⟨Ap, cp, rfl, hp, kp1, kp2, b5⟩
  replace Q := Lib.hid (Q.out.after b5)
  dsimp only at hp kp1 ⊢
  try rw [HLX.out]
  go_wp2_with fail
  refine (R2.out _ _ Q.out).mono ?_
  rintro e w6 ⟨Aq, cq, rfl, hq, kq1, kq2, b6⟩
  replace Q := Lib.hid (Q.out.after b6)
  dsimp only at hq kq1 ⊢
  try rw [HLY.out]
  have s1 := str_bytS (hp.after b6) cp
  have s2 := str_bytS (HX.out.after Q.out.below) c
  rw [HLX.out] at s1 s2
  have s3 := str_bytS hq cq
  have s4 := str_bytS (HY.out.after Q.out.below) d
  rw [HLY.out] at s3 s4
  generalize strOfNums y = sy at *
  generalize strOfNums x = sx at *
  clear M1 M2 S1 R1 R2 hp hq b5 b6
  go_wp2_with fail
  clear s1 s2 s3 s4
  refine (L1.out _ _ Q.out).mono ?_
  rintro e w7 ⟨rfl, b⟩
  replace Q := Lib.hid (Q.out.after b)
  clear b L1
  go_wp2_with fail
  go_ret
  exact ⟨rfl, Q.out.below⟩

set_option maxRecDepth 100000 in
set_option maxHeartbeats 4000000 in
theorem l8_MemApart_4ss (x y : List Int) (a b : List Int) (A B : Option Addr) (c d : Nat) (at_ n : Int) (w : World) (hat : 0 ≤ at_ ∧ at_ ≤ 18446744073709551615) (hn : 0 ≤ n ∧ n ≤ 18446744073709551615) (hx1 : BytS w A x) (hx2 : OkB x) (hx4 : x.length ≤ c) (hy1 : BytS w B y) (hy2 : OkB y) (hy4 : y.length ≤ d) (hac : a.length ≤ c) (hbd : b.length ≤ d) (hcm : c ≤ maxLen) (hdm : d ≤ maxLen) (hxa : x.length = min 100 a.length) (hyb : y.length = min 100 b.length) (h1 : at_ / 4294967296 = 2) (h2 : ¬ at_ % 4294967296 < y.length) (hA : a.length ≤ 100 ∧ x.length = a.length) (hBB : b.length ≤ 100 ∧ y.length = b.length) : Calls Try.prog 6 #[.slice A a.length c, .slice B b.length d, .int .u64 at_, .int .u64 n] w (Fine w) := by
  have N := Lib.hid (mm_New w)
  have SH := Lib.hid l8_shown
  have x100 : x.length ≤ 100 := by omega
  have y100 : y.length ≤ 100 := by omega
  have M1 := Lib.hid fun g w' (h : Mm w w' g []) (hb : BytS w' A x) => mm_Make 1 x A c false true h hb hx2 hx4 hcm (by simp)
  rw [make_one 1 x false true (by omega) (by omega)] at M1
  have M2 := Lib.hid fun g w' (h : Mm w w' g [⟨1, x, List.replicate x.length false, true⟩]) (hb : BytS w' B y) => mm_Make 2 y B d false false h hb hy2 hy4 hdm (by simp)
  rw [ap_make x y x100 y100] at M2
  obtain ⟨e1, e2⟩ := ap_none (x := x) (y := y) (n := n) hat.1 (by omega) (by omega)
  obtain ⟨e3, e4⟩ := ap_area x y
  have S1 := Lib.hid fun g w' (h : Mm w w' g (apM x y)) => mm_Store at_ 1 n h hat hn
  rw [e1] at S1
  have L1 := Lib.hid fun g w' (h : Mm w w' g (apM x y)) => mm_Load at_ 1 h hat
  rw [e2] at L1
  have R1 := Lib.hid fun g w' (h : Mm w w' g (apM x y)) => mm_Area 1 h
  rw [e3] at R1
  have R2 := Lib.hid fun g w' (h : Mm w w' g (apM x y)) => mm_Area 2 h
  rw [e4] at R2
  have HX := Lib.hid hx1
  have HY := Lib.hid hy1
  have hand : bits .and .u64 at_ 4294967295 = at_ % 4294967296 := by
    have := and_low (n := at_) (k := 32) hat (by omega)
    simpa using this
  obtain ⟨hA1, hA2⟩ := hA
  obtain ⟨hB1, hB2⟩ := hBB
  clear hxa hyb x100 y100 e1 e2 e3 e4 hx1 hy1 hx2 hy2
  generalize hlx : x.length = nx at *
  subst hA2
  have HLX := Lib.hid hlx
  generalize hly : y.length = ny at *
  subst hB2
  have HLY := Lib.hid hly
  clear hlx hly
  generalize a.length = na at *
  generalize b.length = nb at *
  have g1 : (na : Int) ≤ 100 := by omega
  have g2 : min (na : Int) 100 = na := by omega
  have g3 : (nb : Int) ≤ 100 := by omega
  have g4 : min (nb : Int) 100 = nb := by omega
  have nac : (na : Int) ≤ c := by omega
  have nbd : (nb : Int) ≤ d := by omega
  have xc : (na : Int) ≤ c := by omega
  have yd : (nb : Int) ≤ d := by omega
  have i1 : ¬ at_ % 4294967296 < (nb : Int) := by omega
  have q1' : (at_ / 4294967296 == 1) = false := by first | exact beq_iff_eq.mpr h1 | exact beq_false_of_ne (by omega)
  have q2' : (at_ / 4294967296 == 2) = true := by first | exact beq_iff_eq.mpr h1 | exact beq_false_of_ne (by omega)
  unfold maxLen at hcm hdm
  clear h1 h2
  go_enter Try.func6, Try.ntmps6
  go_wp2_with fail
  refine (SH.out _).mono ?_
  rintro e w0 ⟨rfl, b0⟩
  have V := Lib.hid b0
  clear b0
  go_wp2_with fail
  refine (N.out _ V.out).mono ?_
  rintro e w1 ⟨g, rfl, q1⟩
  have Q := Lib.hid q1
  clear q1 V N SH
  go_wp2_with fail
  go_quiet (fail)
  replace Q := Lib.hid (Q.out.after (below_drewN (Below.refl _ _) nq))
  generalize w1.drewN nq = wq at *
  go_wp2_with fail
  refine (M1.out _ _ Q.out (HX.out.after Q.out.below)).mono ?_
  rintro e w2 ⟨rfl, q⟩
  replace Q := Lib.hid q
  clear q
  go_wp2_with fail
  refine (M2.out _ _ Q.out (HY.out.after Q.out.below)).mono ?_
  rintro e w3 ⟨rfl, q⟩
  replace Q := Lib.hid q
  clear q
  go_wp2_with fail
  refine (S1.out _ _ Q.out).mono ?_
  rintro e w4 ⟨rfl, q⟩
  replace Q := Lib.hid q
  clear q
  go_wp2_with fail
  refine (R1.out _ _ Q.out).mono ?_
  rintro e w5 ⟨Ap, cp, rfl, hp, kp1, kp2, b5⟩
  replace Q := Lib.hid (Q.out.after b5)
  dsimp only at hp kp1 ⊢
  try rw [HLX.out]
  go_wp2_with fail
  refine (R2.out _ _ Q.out).mono ?_
  rintro e w6 ⟨Aq, cq, rfl, hq, kq1, kq2, b6⟩
  replace Q := Lib.hid (Q.out.after b6)
  dsimp only at hq kq1 ⊢
  try rw [HLY.out]
  have s1 := str_bytS (hp.after b6) cp
  have s2 := str_bytS (HX.out.after Q.out.below) c
  rw [HLX.out] at s1 s2
  have s3 := str_bytS hq cq
  have s4 := str_bytS (HY.out.after Q.out.below) d
  rw [HLY.out] at s3 s4
  generalize strOfNums y = sy at *
  generalize strOfNums x = sx at *
  clear M1 M2 S1 R1 R2 hp hq b5 b6
  go_wp2_with fail
  clear s1 s2 s3 s4
  refine (L1.out _ _ Q.out).mono ?_
  rintro e w7 ⟨rfl, b⟩
  replace Q := Lib.hid (Q.out.after b)
  clear b L1
  go_wp2_with fail
  go_ret
  exact ⟨rfl, Q.out.below⟩

set_option maxRecDepth 100000 in
set_option maxHeartbeats 4000000 in
theorem l8_MemApart_4sb (x y : List Int) (a b : List Int) (A B : Option Addr) (c d : Nat) (at_ n : Int) (w : World) (hat : 0 ≤ at_ ∧ at_ ≤ 18446744073709551615) (hn : 0 ≤ n ∧ n ≤ 18446744073709551615) (hx1 : BytS w A x) (hx2 : OkB x) (hx4 : x.length ≤ c) (hy1 : BytS w B y) (hy2 : OkB y) (hy4 : y.length ≤ d) (hac : a.length ≤ c) (hbd : b.length ≤ d) (hcm : c ≤ maxLen) (hdm : d ≤ maxLen) (hxa : x.length = min 100 a.length) (hyb : y.length = min 100 b.length) (h1 : at_ / 4294967296 = 2) (h2 : ¬ at_ % 4294967296 < y.length) (hA : a.length ≤ 100 ∧ x.length = a.length) (hBB : 100 < b.length ∧ y.length = 100) : Calls Try.prog 6 #[.slice A a.length c, .slice B b.length d, .int .u64 at_, .int .u64 n] w (Fine w) := by
  have N := Lib.hid (mm_New w)
  have SH := Lib.hid l8_shown
  have x100 : x.length ≤ 100 := by omega
  have y100 : y.length ≤ 100 := by omega
  have M1 := Lib.hid fun g w' (h : Mm w w' g []) (hb : BytS w' A x) => mm_Make 1 x A c false true h hb hx2 hx4 hcm (by simp)
  rw [make_one 1 x false true (by omega) (by omega)] at M1
  have M2 := Lib.hid fun g w' (h : Mm w w' g [⟨1, x, List.replicate x.length false, true⟩]) (hb : BytS w' B y) => mm_Make 2 y B d false false h hb hy2 hy4 hdm (by simp)
  rw [ap_make x y x100 y100] at M2
  obtain ⟨e1, e2⟩ := ap_none (x := x) (y := y) (n := n) hat.1 (by omega) (by omega)
  obtain ⟨e3, e4⟩ := ap_area x y
  have S1 := Lib.hid fun g w' (h : Mm w w' g (apM x y)) => mm_Store at_ 1 n h hat hn
  rw [e1] at S1
  have L1 := Lib.hid fun g w' (h : Mm w w' g (apM x y)) => mm_Load at_ 1 h hat
  rw [e2] at L1
  have R1 := Lib.hid fun g w' (h : Mm w w' g (apM x y)) => mm_Area 1 h
  rw [e3] at R1
  have R2 := Lib.hid fun g w' (h : Mm w w' g (apM x y)) => mm_Area 2 h
  rw [e4] at R2
  have HX := Lib.hid hx1
  have HY := Lib.hid hy1
  have hand : bits .and .u64 at_ 4294967295 = at_ % 4294967296 := by
    have := and_low (n := at_) (k := 32) hat (by omega)
    simpa using this
  obtain ⟨hA1, hA2⟩ := hA
  obtain ⟨hB1, hB2⟩ := hBB
  clear hxa hyb x100 y100 e1 e2 e3 e4 hx1 hy1 hx2 hy2
  generalize hlx : x.length = nx at *
  subst hA2
  have HLX := Lib.hid hlx
  generalize hly : y.length = ny at *
  subst hB2
  have HLY := Lib.hid hly
  clear hlx hly
  generalize a.length = na at *
  generalize b.length = nb at *
  have g1 : (na : Int) ≤ 100 := by omega
  have g2 : min (na : Int) 100 = na := by omega
  have g3 : (100 : Int) < nb := by omega
  have g4 : min (nb : Int) 100 = 100 := by omega
  have nac : (na : Int) ≤ c := by omega
  have nbd : (nb : Int) ≤ d := by omega
  have xc : (na : Int) ≤ c := by omega
  have yd : (100 : Int) ≤ d := by omega
  have i1 : ¬ at_ % 4294967296 < (100 : Int) := by omega
  have q1' : (at_ / 4294967296 == 1) = false := by first | exact beq_iff_eq.mpr h1 | exact beq_false_of_ne (by omega)
  have q2' : (at_ / 4294967296 == 2) = true := by first | exact beq_iff_eq.mpr h1 | exact beq_false_of_ne (by omega)
  unfold maxLen at hcm hdm
  clear h1 h2
  go_enter Try.func6, Try.ntmps6
  go_wp2_with fail
  refine (SH.out _).mono ?_
  rintro e w0 ⟨rfl, b0⟩
  have V := Lib.hid b0
  clear b0
  go_wp2_with fail
  refine (N.out _ V.out).mono ?_
  rintro e w1 ⟨g, rfl, q1⟩
  have Q := Lib.hid q1
  clear q1 V N SH
  go_wp2_with fail
  go_quiet (fail)
  replace Q := Lib.hid (Q.out.after (below_drewN (Below.refl _ _) nq))
  generalize w1.drewN nq = wq at *
  go_wp2_with fail
  refine (M1.out _ _ Q.out (HX.out.after Q.out.below)).mono ?_
  rintro e w2 ⟨rfl, q⟩
  replace Q := Lib.hid q
  clear q
  go_wp2_with fail
  refine (M2.out _ _ Q.out (HY.out.after Q.out.below)).mono ?_
  rintro e w3 ⟨rfl, q⟩
  replace Q := Lib.hid q
  clear q
  go_wp2_with fail
  refine (S1.out _ _ Q.out).mono ?_
  rintro e w4 ⟨rfl, q⟩
  replace Q := Lib.hid q
  clear q
  go_wp2_with fail
  refine (R1.out _ _ Q.out).mono ?_
  rintro e w5 ⟨Ap, cp, rfl, hp, kp1, kp2, b5⟩
  replace Q := Lib.hid (Q.out.after b5)
  dsimp only at hp kp1 ⊢
  try rw [HLX.out]
  go_wp2_with fail
  refine (R2.out _ _ Q.out).mono ?_
  rintro e w6 ⟨Aq, cq, rfl, hq, kq1, kq2, b6⟩
  replace Q := Lib.hid (Q.out.after b6)
  dsimp only at hq kq1 ⊢
  try rw [HLY.out]
  have s1 := str_bytS (hp.after b6) cp
  have s2 := str_bytS (HX.out.after Q.out.below) c
  rw [HLX.out] at s1 s2
  have s3 := str_bytS hq cq
  have s4 := str_bytS (HY.out.after Q.out.below) d
  rw [HLY.out] at s3 s4
  generalize strOfNums y = sy at *
  generalize strOfNums x = sx at *
  clear M1 M2 S1 R1 R2 hp hq b5 b6
  go_wp2_with fail
  clear s1 s2 s3 s4
  refine (L1.out _ _ Q.out).mono ?_
  rintro e w7 ⟨rfl, b⟩
  replace Q := Lib.hid (Q.out.after b)
  clear b L1
  go_wp2_with fail
  go_ret
  exact ⟨rfl, Q.out.below⟩

set_option maxRecDepth 100000 in
set_option maxHeartbeats 4000000 in
theorem l8_MemApart_4bs (x y : List Int) (a b : List Int) (A B : Option Addr) (c d : Nat) (at_ n : Int) (w : World) (hat : 0 ≤ at_ ∧ at_ ≤ 18446744073709551615) (hn : 0 ≤ n ∧ n ≤ 18446744073709551615) (hx1 : BytS w A x) (hx2 : OkB x) (hx4 : x.length ≤ c) (hy1 : BytS w B y) (hy2 : OkB y) (hy4 : y.length ≤ d) (hac : a.length ≤ c) (hbd : b.length ≤ d) (hcm : c ≤ maxLen) (hdm : d ≤ maxLen) (hxa : x.length = min 100 a.length) (hyb : y.length = min 100 b.length) (h1 : at_ / 4294967296 = 2) (h2 : ¬ at_ % 4294967296 < y.length) (hA : 100 < a.length ∧ x.length = 100) (hBB : b.length ≤ 100 ∧ y.length = b.length) : Calls Try.prog 6 #[.slice A a.length c, .slice B b.length d, .int .u64 at_, .int .u64 n] w (Fine w) := by
  have N := Lib.hid (mm_New w)
  have SH := Lib.hid l8_shown
  have x100 : x.length ≤ 100 := by omega
  have y100 : y.length ≤ 100 := by omega
  have M1 := Lib.hid fun g w' (h : Mm w w' g []) (hb : BytS w' A x) => mm_Make 1 x A c false true h hb hx2 hx4 hcm (by simp)
  rw [make_one 1 x false true (by omega) (by omega)] at M1
  have M2 := Lib.hid fun g w' (h : Mm w w' g [⟨1, x, List.replicate x.length false, true⟩]) (hb : BytS w' B y) => mm_Make 2 y B d false false h hb hy2 hy4 hdm (by simp)
  rw [ap_make x y x100 y100] at M2
  obtain ⟨e1, e2⟩ := ap_none (x := x) (y := y) (n := n) hat.1 (by omega) (by omega)
  obtain ⟨e3, e4⟩ := ap_area x y
  have S1 := Lib.hid fun g w' (h : Mm w w' g (apM x y)) => mm_Store at_ 1 n h hat hn
  rw [e1] at S1
  have L1 := Lib.hid fun g w' (h : Mm w w' g (apM x y)) => mm_Load at_ 1 h hat
  rw [e2] at L1
  have R1 := Lib.hid fun g w' (h : Mm w w' g (apM x y)) => mm_Area 1 h
  rw [e3] at R1
  have R2 := Lib.hid fun g w' (h : Mm w w' g (apM x y)) => mm_Area 2 h
  rw [e4] at R2
  have HX := Lib.hid hx1
  have HY := Lib.hid hy1
  have hand : bits .and .u64 at_ 4294967295 = at_ % 4294967296 := by
    have := and_low (n := at_) (k := 32) hat (by omega)
    simpa using this
  obtain ⟨hA1, hA2⟩ := hA
  obtain ⟨hB1, hB2⟩ := hBB
  clear hxa hyb x100 y100 e1 e2 e3 e4 hx1 hy1 hx2 hy2
  generalize hlx : x.length = nx at *
  subst hA2
  have HLX := Lib.hid hlx
  generalize hly : y.length = ny at *
  subst hB2
  have HLY := Lib.hid hly
  clear hlx hly
  generalize a.length = na at *
  generalize b.length = nb at *
  have g1 : (100 : Int) < na := by omega
  have g2 : min (na : Int) 100 = 100 := by omega
  have g3 : (nb : Int) ≤ 100 := by omega
  have g4 : min (nb : Int) 100 = nb := by omega
  have nac : (na : Int) ≤ c := by omega
  have nbd : (nb : Int) ≤ d := by omega
  have xc : (100 : Int) ≤ c := by omega
  have yd : (nb : Int) ≤ d := by omega
  have i1 : ¬ at_ % 4294967296 < (nb : Int) := by omega
  have q1' : (at_ / 4294967296 == 1) = false := by first | exact beq_iff_eq.mpr h1 | exact beq_false_of_ne (by omega)
  have q2' : (at_ / 4294967296 == 2) = true := by first | exact beq_iff_eq.mpr h1 | exact beq_false_of_ne (by omega)
  unfold maxLen at hcm hdm
  clear h1 h2
  go_enter Try.func6, Try.ntmps6
  go_wp2_with fail
  refine (SH.out _).mono ?_
  rintro e w0 ⟨rfl, b0⟩
  have V := Lib.hid b0
  clear b0
  go_wp2_with fail
  refine (N.out _ V.out).mono ?_
  rintro e w1 ⟨g, rfl, q1⟩
  have Q := Lib.hid q1
  clear q1 V N SH
  go_wp2_with fail
  go_quiet (fail)
  replace Q := Lib.hid (Q.out.after (below_drewN (Below.refl _ _) nq))
  generalize w1.drewN nq = wq at *
  go_wp2_with fail
  refine (M1.out _ _ Q.out (HX.out.after Q.out.below)).mono ?_
  rintro e w2 ⟨rfl, q⟩
  replace Q := Lib.hid q
  clear q
  go_wp2_with fail
  refine (M2.out _ _ Q.out (HY.out.after Q.out.below)).mono ?_
  rintro e w3 ⟨rfl, q⟩
  replace Q := Lib.hid q
  clear q
  go_wp2_with fail
  refine (S1.out _ _ Q.out).mono ?_
  rintro e w4 ⟨rfl, q⟩
  replace Q := Lib.hid q
  clear q
  go_wp2_with fail
  refine (R1.out _ _ Q.out).mono ?_
  rintro e w5 ⟨Ap, cp, rfl, hp, kp1, kp2, b5⟩
  replace Q := Lib.hid (Q.out.after b5)
  dsimp only at hp kp1 ⊢
  try rw [HLX.out]
  go_wp2_with fail
  refine (R2.out _ _ Q.out).mono ?_
  rintro e w6 ⟨Aq, cq, rfl, hq, kq1, kq2, b6⟩
  replace Q := Lib.hid (Q.out.after b6)
  dsimp only at hq kq1 ⊢
  try rw [HLY.out]
  have s1 := str_bytS (hp.after b6) cp
  have s2 := str_bytS (HX.out.after Q.out.below) c
  rw [HLX.out] at s1 s2
  have s3 := str_bytS hq cq
  have s4 := str_bytS (HY.out.after Q.out.below) d
  rw [HLY.out] at s3 s4
  generalize strOfNums y = sy at *
  generalize strOfNums x = sx at *
  clear M1 M2 S1 R1 R2 hp hq b5 b6
  go_wp2_with fail
  clear s1 s2 s3 s4
  refine (L1.out _ _ Q.out).mono ?_
  rintro e w7 ⟨rfl, b⟩
  replace Q := Lib.hid (Q.out.after b)
  clear b L1
  go_wp2_with fail
  go_ret
  exact ⟨rfl, Q.out.below⟩

set_option maxRecDepth 100000 in
set_option maxHeartbeats 4000000 in
theorem l8_MemApart_4bb (x y : List Int) (a b : List Int) (A B : Option Addr) (c d : Nat) (at_ n : Int) (w : World) (hat : 0 ≤ at_ ∧ at_ ≤ 18446744073709551615) (hn : 0 ≤ n ∧ n ≤ 18446744073709551615) (hx1 : BytS w A x) (hx2 : OkB x) (hx4 : x.length ≤ c) (hy1 : BytS w B y) (hy2 : OkB y) (hy4 : y.length ≤ d) (hac : a.length ≤ c) (hbd : b.length ≤ d) (hcm : c ≤ maxLen) (hdm : d ≤ maxLen) (hxa : x.length = min 100 a.length) (hyb : y.length = min 100 b.length) (h1 : at_ / 4294967296 = 2) (h2 : ¬ at_ % 4294967296 < y.length) (hA : 100 < a.length ∧ x.length = 100) (hBB : 100 < b.length ∧ y.length = 100) : Calls Try.prog 6 #[.slice A a.length c, .slice B b.length d, .int .u64 at_, .int .u64 n] w (Fine w) := by
  have N := Lib.hid (mm_New w)
  have SH := Lib.hid l8_shown
  have x100 : x.length ≤ 100 := by omega
  have y100 : y.length ≤ 100 := by omega
  have M1 := Lib.hid fun g w' (h : Mm w w' g []) (hb : BytS w' A x) => mm_Make 1 x A c false true h hb hx2 hx4 hcm (by simp)
  rw [make_one 1 x false true (by omega) (by omega)] at M1
  have M2 := Lib.hid fun g w' (h : Mm w w' g [⟨1, x, List.replicate x.length false, true⟩]) (hb : BytS w' B y) => mm_Make 2 y B d false false h hb hy2 hy4 hdm (by simp)
  rw [ap_make x y x100 y100] at M2
  obtain ⟨e1, e2⟩ := ap_none (x := x) (y := y) (n := n) hat.1 (by omega) (by omega)
  obtain ⟨e3, e4⟩ := ap_area x y
  have S1 := Lib.hid fun g w' (h : Mm w w' g (apM x y)) => mm_Store at_ 1 n h hat hn
  rw [e1] at S1
  have L1 := Lib.hid fun g w' (h : Mm w w' g (apM x y)) => mm_Load at_ 1 h hat
  rw [e2] at L1
  have R1 := Lib.hid fun g w' (h : Mm w w' g (apM x y)) => mm_Area 1 h
  rw [e3] at R1
  have R2 := Lib.hid fun g w' (h : Mm w w' g (apM x y)) => mm_Area 2 h
  rw [e4] at R2
  have HX := Lib.hid hx1
  have HY := Lib.hid hy1
  have hand : bits .and .u64 at_ 4294967295 = at_ % 4294967296 := by
    have := and_low (n := at_) (k := 32) hat (by omega)
    simpa using this
  obtain ⟨hA1, hA2⟩ := hA
  obtain ⟨hB1, hB2⟩ := hBB
  clear hxa hyb x100 y100 e1 e2 e3 e4 hx1 hy1 hx2 hy2
  generalize hlx : x.length = nx at *
  subst hA2
  have HLX := Lib.hid hlx
  generalize hly : y.length = ny at *
  subst hB2
  have HLY := Lib.hid hly
  clear hlx hly
  generalize a.length = na at *
  generalize b.length = nb at *
  have g1 : (100 : Int) < na := by omega
  have g2 : min (na : Int) 100 = 100 := by omega
  have g3 : (100 : Int) < nb := by omega
  have g4 : min (nb : Int) 100 = 100 := by omega
  have nac : (na : Int) ≤ c := by omega
  have nbd : (nb : Int) ≤ d := by omega
  have xc : (100 : Int) ≤ c := by omega
  have yd : (100 : Int) ≤ d := by omega
  have i1 : ¬ at_ % 4294967296 < (100 : Int) := by omega
  have q1' : (at_ / 4294967296 == 1) = false := by first | exact beq_iff_eq.mpr h1 | exact beq_false_of_ne (by omega)
  have q2' : (at_ / 4294967296 == 2) = true := by first | exact beq_iff_eq.mpr h1 | exact beq_false_of_ne (by omega)
  unfold maxLen at hcm hdm
  clear h1 h2
  go_enter Try.func6, Try.ntmps6
  go_wp2_with fail
  refine (SH.out _).mono ?_
  rintro e w0 ⟨rfl, b0⟩
  have V := Lib.hid b0
  clear b0
  go_wp2_with fail
  refine (N.out _ V.out).mono ?_
  rintro e w1 ⟨g, rfl, q1⟩
  have Q := Lib.hid q1
  clear q1 V N SH
  go_wp2_with fail
  go_quiet (fail)
  replace Q := Lib.hid (Q.out.after (below_drewN (Below.refl _ _) nq))
  generalize w1.drewN nq = wq at *
  go_wp2_with fail
  refine (M1.out _ _ Q.out (HX.out.after Q.out.below)).mono ?_
  rintro e w2 ⟨rfl, q⟩
  replace Q := Lib.hid q
  clear q
  go_wp2_with fail
  refine (M2.out _ _ Q.out (HY.out.after Q.out.below)).mono ?_
  rintro e w3 ⟨rfl, q⟩
  replace Q := Lib.hid q
  clear q
  go_wp2_with fail
  refine (S1.out _ _ Q.out).mono ?_
  rintro e w4 ⟨rfl, q⟩
  replace Q := Lib.hid q
  clear q
  go_wp2_with fail
  refine (R1.out _ _ Q.out).mono ?_
  rintro e w5 ⟨Ap, cp, rfl, hp, kp1, kp2, b5⟩
  replace Q := Lib.hid (Q.out.after b5)
  dsimp only at hp kp1 ⊢
  try rw [HLX.out]
  go_wp2_with fail
  refine (R2.out _ _ Q.out).mono ?_
  rintro e w6 ⟨Aq, cq, rfl, hq, kq1, kq2, b6⟩
  replace Q := Lib.hid (Q.out.after b6)
  dsimp only at hq kq1 ⊢
  try rw [HLY.out]
  have s1 := str_bytS (hp.after b6) cp
  have s2 := str_bytS (HX.out.after Q.out.below) c
  rw [HLX.out] at s1 s2
  have s3 := str_bytS hq cq
  have s4 := str_bytS (HY.out.after Q.out.below) d
  rw [HLY.out] at s3 s4
  generalize strOfNums y = sy at *
  generalize strOfNums x = sx at *
  clear M1 M2 S1 R1 R2 hp hq b5 b6
  go_wp2_with fail
  clear s1 s2 s3 s4
  refine (L1.out _ _ Q.out).mono ?_
  rintro e w7 ⟨rfl, b⟩
  replace Q := Lib.hid (Q.out.after b)
  clear b L1
  go_wp2_with fail
  go_ret
  exact ⟨rfl, Q.out.below⟩

set_option maxRecDepth 100000 in
set_option maxHeartbeats 4000000 in
theorem l8_MemApart_5ss (x y : List Int) (a b : List Int) (A B : Option Addr) (c d : Nat) (at_ n : Int) (w : World) (hat : 0 ≤ at_ ∧ at_ ≤ 18446744073709551615) (hn : 0 ≤ n ∧ n ≤ 18446744073709551615) (hx1 : BytS w A x) (hx2 : OkB x) (hx4 : x.length ≤ c) (hy1 : BytS w B y) (hy2 : OkB y) (hy4 : y.length ≤ d) (hac : a.length ≤ c) (hbd : b.length ≤ d) (hcm : c ≤ maxLen) (hdm : d ≤ maxLen) (hxa : x.length = min 100 a.length) (hyb : y.length = min 100 b.length) (h1 : at_ / 4294967296 ≠ 1) (h2 : at_ / 4294967296 ≠ 2) (hA : a.length ≤ 100 ∧ x.length = a.length) (hBB : b.length ≤ 100 ∧ y.length = b.length) : Calls Try.prog 6 #[.slice A a.length c, .slice B b.length d, .int .u64 at_, .int .u64 n] w (Fine w) := by
  have N := Lib.hid (mm_New w)
  have SH := Lib.hid l8_shown
  have x100 : x.length ≤ 100 := by omega
  have y100 : y.length ≤ 100 := by omega
  have M1 := Lib.hid fun g w' (h : Mm w w' g []) (hb : BytS w' A x) => mm_Make 1 x A c false true h hb hx2 hx4 hcm (by simp)
  rw [make_one 1 x false true (by omega) (by omega)] at M1
  have M2 := Lib.hid fun g w' (h : Mm w w' g [⟨1, x, List.replicate x.length false, true⟩]) (hb : BytS w' B y) => mm_Make 2 y B d false false h hb hy2 hy4 hdm (by simp)
  rw [ap_make x y x100 y100] at M2
  obtain ⟨e1, e2⟩ := ap_none (x := x) (y := y) (n := n) hat.1 (by omega) (by omega)
  obtain ⟨e3, e4⟩ := ap_area x y
  have S1 := Lib.hid fun g w' (h : Mm w w' g (apM x y)) => mm_Store at_ 1 n h hat hn
  rw [e1] at S1
  have L1 := Lib.hid fun g w' (h : Mm w w' g (apM x y)) => mm_Load at_ 1 h hat
  rw [e2] at L1
  have R1 := Lib.hid fun g w' (h : Mm w w' g (apM x y)) => mm_Area 1 h
  rw [e3] at R1
  have R2 := Lib.hid fun g w' (h : Mm w w' g (apM x y)) => mm_Area 2 h
  rw [e4] at R2
  have HX := Lib.hid hx1
  have HY := Lib.hid hy1
  have hand : bits .and .u64 at_ 4294967295 = at_ % 4294967296 := by
    have := and_low (n := at_) (k := 32) hat (by omega)
    simpa using this
  obtain ⟨hA1, hA2⟩ := hA
  obtain ⟨hB1, hB2⟩ := hBB
  clear hxa hyb x100 y100 e1 e2 e3 e4 hx1 hy1 hx2 hy2
  generalize hlx : x.length = nx at *
  subst hA2
  have HLX := Lib.hid hlx
  generalize hly : y.length = ny at *
  subst hB2
  have HLY := Lib.hid hly
  clear hlx hly
  generalize a.length = na at *
  generalize b.length = nb at *
  have g1 : (na : Int) ≤ 100 := by omega
  have g2 : min (na : Int) 100 = na := by omega
  have g3 : (nb : Int) ≤ 100 := by omega
  have g4 : min (nb : Int) 100 = nb := by omega
  have nac : (na : Int) ≤ c := by omega
  have nbd : (nb : Int) ≤ d := by omega
  have xc : (na : Int) ≤ c := by omega
  have yd : (nb : Int) ≤ d := by omega
  have i1 : (0 : Int) ≤ 1 := by omega
  have q1' : (at_ / 4294967296 == 1) = false := by first | exact beq_iff_eq.mpr h1 | exact beq_false_of_ne (by omega)
  have q2' : (at_ / 4294967296 == 2) = false := by first | exact beq_iff_eq.mpr h1 | exact beq_false_of_ne (by omega)
  unfold maxLen at hcm hdm
  clear h1 h2
  go_enter Try.func6, Try.ntmps6
  go_wp2_with fail
  refine (SH.out _).mono ?_
  rintro e w0 ⟨rfl, b0⟩
  have V := Lib.hid b0
  clear b0
  go_wp2_with fail
  refine (N.out _ V.out).mono ?_
  rintro e w1 ⟨g, rfl, q1⟩
  have Q := Lib.hid q1
  clear q1 V N SH
  go_wp2_with fail
  go_quiet (fail)
  replace Q := Lib.hid (Q.out.after (below_drewN (Below.refl _ _) nq))
  generalize w1.drewN nq = wq at *
  go_wp2_with fail
  refine (M1.out _ _ Q.out (HX.out.after Q.out.below)).mono ?_
  rintro e w2 ⟨rfl, q⟩
  replace Q := Lib.hid q
  clear q
  go_wp2_with fail
  refine (M2.out _ _ Q.out (HY.out.after Q.out.below)).mono ?_
  rintro e w3 ⟨rfl, q⟩
  replace Q := Lib.hid q
  clear q
  go_wp2_with fail
  refine (S1.out _ _ Q.out).mono ?_
  rintro e w4 ⟨rfl, q⟩
  replace Q := Lib.hid q
  clear q
  go_wp2_with fail
  refine (R1.out _ _ Q.out).mono ?_
  rintro e w5 ⟨Ap, cp, rfl, hp, kp1, kp2, b5⟩
  replace Q := Lib.hid (Q.out.after b5)
  dsimp only at hp kp1 ⊢
  try rw [HLX.out]
  go_wp2_with fail
  refine (R2.out _ _ Q.out).mono ?_
  rintro e w6 ⟨Aq, cq, rfl, hq, kq1, kq2, b6⟩
  replace Q := Lib.hid (Q.out.after b6)
  dsimp only at hq kq1 ⊢
  try rw [HLY.out]
  have s1 := str_bytS (hp.after b6) cp
  have s2 := str_bytS (HX.out.after Q.out.below) c
  rw [HLX.out] at s1 s2
  have s3 := str_bytS hq cq
  have s4 := str_bytS (HY.out.after Q.out.below) d
  rw [HLY.out] at s3 s4
  generalize strOfNums y = sy at *
  generalize strOfNums x = sx at *
  clear M1 M2 S1 R1 R2 hp hq b5 b6
  go_wp2_with fail
  clear s1 s2 s3 s4
  refine (L1.out _ _ Q.out).mono ?_
  rintro e w7 ⟨rfl, b⟩
  replace Q := Lib.hid (Q.out.after b)
  clear b L1
  go_wp2_with fail
  go_ret
  exact ⟨rfl, Q.out.below⟩

set_option maxRecDepth 100000 in
set_option maxHeartbeats 4000000 in
theorem l8_MemApart_5sb (x y : List Int) (a b : List Int) (A B : Option Addr) (c d : Nat) (at_ n : Int) (w : World) (hat : 0 ≤ at_ ∧ at_ ≤ 18446744073709551615) (hn : 0 ≤ n ∧ n ≤ 18446744073709551615) (hx1 : BytS w A x) (hx2 : OkB x) (hx4 : x.length ≤ c) (hy1 : BytS w B y) (hy2 : OkB y) (hy4 : y.length ≤ d) (hac : a.length ≤ c) (hbd : b.length ≤ d) (hcm : c ≤ maxLen) (hdm : d ≤ maxLen) (hxa : x.length = min 100 a.length) (hyb : y.length = min 100 b.length) (h1 : at_ / 4294967296 ≠ 1) (h2 : at_ / 4294967296 ≠ 2) (hA : a.length ≤ 100 ∧ x.length = a.length) (hBB : 100 < b.length ∧ y.length = 100) : Calls Try.prog 6 #[.slice A a.length c, .slice B b.length d, .int .u64 at_, .int .u64 n] w (Fine w) := by
  have N := Lib.hid (mm_New w)
  have SH := Lib.hid l8_shown
  have x100 : x.length ≤ 100 := by omega
  have y100 : y.length ≤ 100 := by omega
  have M1 := Lib.hid fun g w' (h : Mm w w' g []) (hb : BytS w' A x) => mm_Make 1 x A c false true h hb hx2 hx4 hcm (by simp)
  rw [make_one 1 x false true (by omega) (by omega)] at M1
  have M2 := Lib.hid fun g w' (h : Mm w w' g [⟨1, x, List.replicate x.length false, true⟩]) (hb : BytS w' B y) => mm_Make 2 y B d false false h hb hy2 hy4 hdm (by simp)
  rw [ap_make x y x100 y100] at M2
  obtain ⟨e1, e2⟩ := ap_none (x := x) (y := y) (n := n) hat.1 (by omega) (by omega)
  obtain ⟨e3, e4⟩ := ap_area x y
  have S1 := Lib.hid fun g w' (h : Mm w w' g (apM x y)) => mm_Store at_ 1 n h hat hn
  rw [e1] at S1
  have L1 := Lib.hid fun g w' (h : Mm w w' g (apM x y)) => mm_Load at_ 1 h hat
  rw [e2] at L1
  have R1 := Lib.hid fun g w' (h : Mm w w' g (apM x y)) => mm_Area 1 h
  rw [e3] at R1
  have R2 := Lib.hid fun g w' (h : Mm w w' g (apM x y)) => mm_Area 2 h
  rw [e4] at R2
  have HX := Lib.hid hx1
  have HY := Lib.hid hy1
  have hand : bits .and .u64 at_ 4294967295 = at_ % 4294967296 := by
    have := and_low (n := at_) (k := 32) hat (by omega)
    simpa using this
  obtain ⟨hA1, hA2⟩ := hA
  obtain ⟨hB1, hB2⟩ := hBB
  clear hxa hyb x100 y100 e1 e2 e3 e4 hx1 hy1 hx2 hy2
  generalize hlx : x.length = nx at *
  subst hA2
  have HLX := Lib.hid hlx
  generalize hly : y.length = ny at *
  subst hB2
  have HLY := Lib.hid hly
  clear hlx hly
  generalize a.length = na at *
  generalize b.length = nb at *
  have g1 : (na : Int) ≤ 100 := by omega
  have g2 : min (na : Int) 100 = na := by omega
  have g3 : (100 : Int) < nb := by omega
  have g4 : min (nb : Int) 100 = 100 := by omega
  have nac : (na : Int) ≤ c := by omega
  have nbd : (nb : Int) ≤ d := by omega
  have xc : (na : Int) ≤ c := by omega
  have yd : (100 : Int) ≤ d := by omega
  have i1 : (0 : Int) ≤ 1 := by omega
  have q1' : (at_ / 4294967296 == 1) = false := by first | exact beq_iff_eq.mpr h1 | exact beq_false_of_ne (by omega)
  have q2' : (at_ / 4294967296 == 2) = false := by first | exact beq_iff_eq.mpr h1 | exact beq_false_of_ne (by omega)
  unfold maxLen at hcm hdm
  clear h1 h2
  go_enter Try.func6, Try.ntmps6
  go_wp2_with fail
  refine (SH.out _).mono ?_
  rintro e w0 ⟨rfl, b0⟩
  have V := Lib.hid b0
  clear b0
  go_wp2_with fail
  refine (N.out _ V.out).mono ?_
  rintro e w1 ⟨g, rfl, q1⟩
  have Q := Lib.hid q1
  clear q1 V N SH
  go_wp2_with fail
  go_quiet (fail)
  replace Q := Lib.hid (Q.out.after (below_drewN (Below.refl _ _) nq))
  generalize w1.drewN nq = wq at *
  go_wp2_with fail
  refine (M1.out _ _ Q.out (HX.out.after Q.out.below)).mono ?_
  rintro e w2 ⟨rfl, q⟩
  replace Q := Lib.hid q
  clear q
  go_wp2_with fail
  refine (M2.out _ _ Q.out (HY.out.after Q.out.below)).mono ?_
  rintro e w3 ⟨rfl, q⟩
  replace Q := Lib.hid q
  clear q
  go_wp2_with fail
  refine (S1.out _ _ Q.out).mono ?_
  rintro e w4 ⟨rfl, q⟩
  replace Q := Lib.hid q
  clear q
  go_wp2_with fail
  refine (R1.out _ _ Q.out).mono ?_
  rintro e w5 ⟨Ap, cp, rfl, hp, kp1, kp2, b5⟩
  replace Q := Lib.hid (Q.out.after b5)
  dsimp only at hp kp1 ⊢
  try rw [HLX.out]
  go_wp2_with fail
  refine (R2.out _ _ Q.out).mono ?_
  rintro e w6 ⟨Aq, cq, rfl, hq, kq1, kq2, b6⟩
  replace Q := Lib.hid (Q.out.after b6)
  dsimp only at hq kq1 ⊢
  try rw [HLY.out]
  have s1 := str_bytS (hp.after b6) cp
  have s2 := str_bytS (HX.out.after Q.out.below) c
  rw [HLX.out] at s1 s2
  have s3 := str_bytS hq cq
  have s4 := str_bytS (HY.out.after Q.out.below) d
  rw [HLY.out] at s3 s4
  generalize strOfNums y = sy at *
  generalize strOfNums x = sx at *
  clear M1 M2 S1 R1 R2 hp hq b5 b6
  go_wp2_with fail
  clear s1 s2 s3 s4
  refine (L1.out _ _ Q.out).mono ?_
  rintro e w7 ⟨rfl, b⟩
  replace Q := Lib.hid (Q.out.after b)
  clear b L1
  go_wp2_with fail
  go_ret
  exact ⟨rfl, Q.out.below⟩

set_option maxRecDepth 100000 in
set_option maxHeartbeats 4000000 in
theorem l8_MemApart_5bs (x y : List Int) (a b : List Int) (A B : Option Addr) (c d : Nat) (at_ n : Int) (w : World) (hat : 0 ≤ at_ ∧ at_ ≤ 18446744073709551615) (hn : 0 ≤ n ∧ n ≤ 18446744073709551615) (hx1 : BytS w A x) (hx2 : OkB x) (hx4 : x.length ≤ c) (hy1 : BytS w B y) (hy2 : OkB y) (hy4 : y.length ≤ d) (hac : a.length ≤ c) (hbd : b.length ≤ d) (hcm : c ≤ maxLen) (hdm : d ≤ maxLen) (hxa : x.length = min 100 a.length) (hyb : y.length = min 100 b.length) (h1 : at_ / 4294967296 ≠ 1) (h2 : at_ / 4294967296 ≠ 2) (hA : 100 < a.length ∧ x.length = 100) (hBB : b.length ≤ 100 ∧ y.length = b.length) : Calls Try.prog 6 #[.slice A a.length c, .slice B b.length d, .int .u64 at_, .int .u64 n] w (Fine w) := by
  have N := Lib.hid (mm_New w)
  have SH := Lib.hid l8_shown
  have x100 : x.length ≤ 100 := by omega
  have y100 : y.length ≤ 100 := by omega
  have M1 := Lib.hid fun g w' (h : Mm w w' g []) (hb : BytS w' A x) => mm_Make 1 x A c false true h hb hx2 hx4 hcm (by simp)
  rw [make_one 1 x false true (by omega) (by omega)] at M1
  have M2 := Lib.hid fun g w' (h : Mm w w' g [⟨1, x, List.replicate x.length false, true⟩]) (hb : BytS w' B y) => mm_Make 2 y B d false false h hb hy2 hy4 hdm (by simp)
  rw [ap_make x y x100 y100] at M2
  obtain ⟨e1, e2⟩ := ap_none (x := x) (y := y) (n := n) hat.1 (by omega) (by omega)
  obtain ⟨e3, e4⟩ := ap_area x y
  have S1 := Lib.hid fun g w' (h : Mm w w' g (apM x y)) => mm_Store at_ 1 n h hat hn
  rw [e1] at S1
  have L1 := Lib.hid fun g w' (h : Mm w w' g (apM x y)) => mm_Load at_ 1 h hat
  rw [e2] at L1
  have R1 := Lib.hid fun g w' (h : Mm w w' g (apM x y)) => mm_Area 1 h
  rw [e3] at R1
  have R2 := Lib.hid fun g w' (h : Mm w w' g (apM x y)) => mm_Area 2 h
  rw [e4] at R2
  have HX := Lib.hid hx1
  have HY := Lib.hid hy1
  have hand : bits .and .u64 at_ 4294967295 = at_ % 4294967296 := by
    have := and_low (n := at_) (k := 32) hat (by omega)
    simpa using this
  obtain ⟨hA1, hA2⟩ := hA
  obtain ⟨hB1, hB2⟩ := hBB
  clear hxa hyb x100 y100 e1 e2 e3 e4 hx1 hy1 hx2 hy2
  generalize hlx : x.length = nx at *
  subst hA2
  have HLX := Lib.hid hlx
  generalize hly : y.length = ny at *
  subst hB2
  have HLY := Lib.hid hly
  clear hlx hly
  generalize a.length = na at *
  generalize b.length = nb at *
  have g1 : (100 : Int) < na := by omega
  have g2 : min (na : Int) 100 = 100 := by omega
  have g3 : (nb : Int) ≤ 100 := by omega
  have g4 : min (nb : Int) 100 = nb := by omega
  have nac : (na : Int) ≤ c := by omega
  have nbd : (nb : Int) ≤ d := by omega
  have xc : (100 : Int) ≤ c := by omega
  have yd : (nb : Int) ≤ d := by omega
  have i1 : (0 : Int) ≤ 1 := by omega
  have q1' : (at_ / 4294967296 == 1) = false := by first | exact beq_iff_eq.mpr h1 | exact beq_false_of_ne (by omega)
  have q2' : (at_ / 4294967296 == 2) = false := by first | exact beq_iff_eq.mpr h1 | exact beq_false_of_ne (by omega)
  unfold maxLen at hcm hdm
  clear h1 h2
  go_enter Try.func6, Try.ntmps6
  go_wp2_with fail
  refine (SH.out _).mono ?_
  rintro e w0 ⟨rfl, b0⟩
  have V := Lib.hid b0
  clear b0
  go_wp2_with fail
  refine (N.out _ V.out).mono ?_
  rintro e w1 ⟨g, rfl, q1⟩
  have Q := Lib.hid q1
  clear q1 V N SH
  go_wp2_with fail
  go_quiet (fail)
  replace Q := Lib.hid (Q.out.after (below_drewN (Below.refl _ _) nq))
  generalize w1.drewN nq = wq at *
  go_wp2_with fail
  refine (M1.out _ _ Q.out (HX.out.after Q.out.below)).mono ?_
  rintro e w2 ⟨rfl, q⟩
  replace Q := Lib.hid q
  clear q
  go_wp2_with fail
  refine (M2.out _ _ Q.out (HY.out.after Q.out.below)).mono ?_
  rintro e w3 ⟨rfl, q⟩
  replace Q := Lib.hid q
  clear q
  go_wp2_with fail
  refine (S1.out _ _ Q.out).mono ?_
  rintro e w4 ⟨rfl, q⟩
  replace Q := Lib.hid q
  clear q
  go_wp2_with fail
  refine (R1.out _ _ Q.out).mono ?_
  rintro e w5 ⟨Ap, cp, rfl, hp, kp1, kp2, b5⟩
  replace Q := Lib.hid (Q.out.after b5)
  dsimp only at hp kp1 ⊢
  try rw [HLX.out]
  go_wp2_with fail
  refine (R2.out _ _ Q.out).mono ?_
  rintro e w6 ⟨Aq, cq, rfl, hq, kq1, kq2, b6⟩
  replace Q := Lib.hid (Q.out.after b6)
  dsimp only at hq kq1 ⊢
  try rw [HLY.out]
  have s1 := str_bytS (hp.after b6) cp
  have s2 := str_bytS (HX.out.after Q.out.below) c
  rw [HLX.out] at s1 s2
  have s3 := str_bytS hq cq
  have s4 := str_bytS (HY.out.after Q.out.below) d
  rw [HLY.out] at s3 s4
  generalize strOfNums y = sy at *
  generalize strOfNums x = sx at *
  clear M1 M2 S1 R1 R2 hp hq b5 b6
  go_wp2_with fail
  clear s1 s2 s3 s4
  refine (L1.out _ _ Q.out).mono ?_
  rintro e w7 ⟨rfl, b⟩
  replace Q := Lib.hid (Q.out.after b)
  clear b L1
  go_wp2_with fail
  go_ret
  exact ⟨rfl, Q.out.below⟩

set_option maxRecDepth 100000 in
set_option maxHeartbeats 4000000 in
theorem l8_MemApart_5bb (x y : List Int) (a b : List Int) (A B : Option Addr) (c d : Nat) (at_ n : Int) (w : World) (hat : 0 ≤ at_ ∧ at_ ≤ 18446744073709551615) (hn : 0 ≤ n ∧ n ≤ 18446744073709551615) (hx1 : BytS w A x) (hx2 : OkB x) (hx4 : x.length ≤ c) (hy1 : BytS w B y) (hy2 : OkB y) (hy4 : y.length ≤ d) (hac : a.length ≤ c) (hbd : b.length ≤ d) (hcm : c ≤ maxLen) (hdm : d ≤ maxLen) (hxa : x.length = min 100 a.length) (hyb : y.length = min 100 b.length) (h1 : at_ / 4294967296 ≠ 1) (h2 : at_ / 4294967296 ≠ 2) (hA : 100 < a.length ∧ x.length = 100) (hBB : 100 < b.length ∧ y.length = 100) : Calls Try.prog 6 #[.slice A a.length c, .slice B b.length d, .int .u64 at_, .int .u64 n] w (Fine w) := by
  have N := Lib.hid (mm_New w)
  have SH := Lib.hid l8_shown
  have x100 : x.length ≤ 100 := by omega
  have y100 : y.length ≤ 100 := by omega
  have M1 := Lib.hid fun g w' (h : Mm w w' g []) (hb : BytS w' A x) => mm_Make 1 x A c false true h hb hx2 hx4 hcm (by simp)
  rw [make_one 1 x false true (by omega) (by omega)] at M1
  have M2 := Lib.hid fun g w' (h : Mm w w' g [⟨1, x, List.replicate x.length false, true⟩]) (hb : BytS w' B y) => mm_Make 2 y B d false false h hb hy2 hy4 hdm (by simp)
  rw [ap_make x y x100 y100] at M2
  obtain ⟨e1, e2⟩ := ap_none (x := x) (y := y) (n := n) hat.1 (by omega) (by omega)
  obtain ⟨e3, e4⟩ := ap_area x y
  have S1 := Lib.hid fun g w' (h : Mm w w' g (apM x y)) => mm_Store at_ 1 n h hat hn
  rw [e1] at S1
  have L1 := Lib.hid fun g w' (h : Mm w w' g (apM x y)) => mm_Load at_ 1 h hat
  rw [e2] at L1
  have R1 := Lib.hid fun g w' (h : Mm w w' g (apM x y)) => mm_Area 1 h
  rw [e3] at R1
  have R2 := Lib.hid fun g w' (h : Mm w w' g (apM x y)) => mm_Area 2 h
  rw [e4] at R2
  have HX := Lib.hid hx1
  have HY := Lib.hid hy1
  have hand : bits .and .u64 at_ 4294967295 = at_ % 4294967296 := by
    have := and_low (n := at_) (k := 32) hat (by omega)
    simpa using this
  obtain ⟨hA1, hA2⟩ := hA
  obtain ⟨hB1, hB2⟩ := hBB
  clear hxa hyb x100 y100 e1 e2 e3 e4 hx1 hy1 hx2 hy2
  generalize hlx : x.length = nx at *
  subst hA2
  have HLX := Lib.hid hlx
  generalize hly : y.length = ny at *
  subst hB2
  have HLY := Lib.hid hly
  clear hlx hly
  generalize a.length = na at *
  generalize b.length = nb at *
  have g1 : (100 : Int) < na := by omega
  have g2 : min (na : Int) 100 = 100 := by omega
  have g3 : (100 : Int) < nb := by omega
  have g4 : min (nb : Int) 100 = 100 := by omega
  have nac : (na : Int) ≤ c := by omega
  have nbd : (nb : Int) ≤ d := by omega
  have xc : (100 : Int) ≤ c := by omega
  have yd : (100 : Int) ≤ d := by omega
  have i1 : (0 : Int) ≤ 1 := by omega
  have q1' : (at_ / 4294967296 == 1) = false := by first | exact beq_iff_eq.mpr h1 | exact beq_false_of_ne (by omega)
  have q2' : (at_ / 4294967296 == 2) = false := by first | exact beq_iff_eq.mpr h1 | exact beq_false_of_ne (by omega)
  unfold maxLen at hcm hdm
  clear h1 h2
  go_enter Try.func6, Try.ntmps6
  go_wp2_with fail
  refine (SH.out _).mono ?_
  rintro e w0 ⟨rfl, b0⟩
  have V := Lib.hid b0
  clear b0
  go_wp2_with fail
  refine (N.out _ V.out).mono ?_
  rintro e w1 ⟨g, rfl, q1⟩
  have Q := Lib.hid q1
  clear q1 V N SH
  go_wp2_with fail
  go_quiet (fail)
  replace Q := Lib.hid (Q.out.after (below_drewN (Below.refl _ _) nq))
  generalize w1.drewN nq = wq at *
  go_wp2_with fail
  refine (M1.out _ _ Q.out (HX.out.after Q.out.below)).mono ?_
  rintro e w2 ⟨rfl, q⟩
  replace Q := Lib.hid q
  clear q
  go_wp2_with fail
  refine (M2.out _ _ Q.out (HY.out.after Q.out.below)).mono ?_
  rintro e w3 ⟨rfl, q⟩
  replace Q := Lib.hid q
  clear q
  go_wp2_with fail
  refine (S1.out _ _ Q.out).mono ?_
  rintro e w4 ⟨rfl, q⟩
  replace Q := Lib.hid q
  clear q
  go_wp2_with fail
  refine (R1.out _ _ Q.out).mono ?_
  rintro e w5 ⟨Ap, cp, rfl, hp, kp1, kp2, b5⟩
  replace Q := Lib.hid (Q.out.after b5)
  dsimp only at hp kp1 ⊢
  try rw [HLX.out]
  go_wp2_with fail
  refine (R2.out _ _ Q.out).mono ?_
  rintro e w6 ⟨Aq, cq, rfl, hq, kq1, kq2, b6⟩
  replace Q := Lib.hid (Q.out.after b6)
  dsimp only at hq kq1 ⊢
  try rw [HLY.out]
  have s1 := str_bytS (hp.after b6) cp
  have s2 := str_bytS (HX.out.after Q.out.below) c
  rw [HLX.out] at s1 s2
  have s3 := str_bytS hq cq
  have s4 := str_bytS (HY.out.after Q.out.below) d
  rw [HLY.out] at s3 s4
  generalize strOfNums y = sy at *
  generalize strOfNums x = sx at *
  clear M1 M2 S1 R1 R2 hp hq b5 b6
  go_wp2_with fail
  clear s1 s2 s3 s4
  refine (L1.out _ _ Q.out).mono ?_
  rintro e w7 ⟨rfl, b⟩
  replace Q := Lib.hid (Q.out.after b)
  clear b L1
  go_wp2_with fail
  go_ret
  exact ⟨rfl, Q.out.below⟩

theorem l8_MemApart (a b : List Int) (A B : Option Addr) (c d : Nat) (at_ n : Int) (w : World) (ha : BytS w A a) (hoa : OkB a) (hac : a.length ≤ c) (hcm : c ≤ maxLen) (hb : BytS w B b) (hob : OkB b) (hbd : b.length ≤ d) (hdm : d ≤ maxLen) (hat : 0 ≤ at_ ∧ at_ ≤ 18446744073709551615) (hn : 0 ≤ n ∧ n ≤ 18446744073709551615) :
    Calls Try.prog 6 #[.slice A a.length c, .slice B b.length d, .int .u64 at_, .int .u64 n] w (Fine w) := by
  obtain ⟨x, hxa, hx1, hx2, _, hx4⟩ := few_row (N := 100) ha hoa hac
  obtain ⟨y, hyb, hy1, hy2, _, hy4⟩ := few_row (N := 100) hb hob hbd
  by_cases h1 : at_ / 4294967296 = 1
  · by_cases h2 : at_ % 4294967296 < x.length
    · by_cases haa : a.length ≤ 100
      · have hA : a.length ≤ 100 ∧ x.length = a.length := by omega
        by_cases hbb : b.length ≤ 100
        · exact l8_MemApart_1ss x y a b A B c d at_ n w hat hn hx1 hx2 hx4 hy1 hy2 hy4 hac hbd hcm hdm hxa hyb h1 h2 hA (by omega)
        · exact l8_MemApart_1sb x y a b A B c d at_ n w hat hn hx1 hx2 hx4 hy1 hy2 hy4 hac hbd hcm hdm hxa hyb h1 h2 hA (by omega)
      · have hA : 100 < a.length ∧ x.length = 100 := by omega
        by_cases hbb : b.length ≤ 100
        · exact l8_MemApart_1bs x y a b A B c d at_ n w hat hn hx1 hx2 hx4 hy1 hy2 hy4 hac hbd hcm hdm hxa hyb h1 h2 hA (by omega)
        · exact l8_MemApart_1bb x y a b A B c d at_ n w hat hn hx1 hx2 hx4 hy1 hy2 hy4 hac hbd hcm hdm hxa hyb h1 h2 hA (by omega)
    · by_cases haa : a.length ≤ 100
      · have hA : a.length ≤ 100 ∧ x.length = a.length := by omega
        by_cases hbb : b.length ≤ 100
        · exact l8_MemApart_3ss x y a b A B c d at_ n w hat hn hx1 hx2 hx4 hy1 hy2 hy4 hac hbd hcm hdm hxa hyb h1 h2 hA (by omega)
        · exact l8_MemApart_3sb x y a b A B c d at_ n w hat hn hx1 hx2 hx4 hy1 hy2 hy4 hac hbd hcm hdm hxa hyb h1 h2 hA (by omega)
      · have hA : 100 < a.length ∧ x.length = 100 := by omega
        by_cases hbb : b.length ≤ 100
        · exact l8_MemApart_3bs x y a b A B c d at_ n w hat hn hx1 hx2 hx4 hy1 hy2 hy4 hac hbd hcm hdm hxa hyb h1 h2 hA (by omega)
        · exact l8_MemApart_3bb x y a b A B c d at_ n w hat hn hx1 hx2 hx4 hy1 hy2 hy4 hac hbd hcm hdm hxa hyb h1 h2 hA (by omega)
  · by_cases h3 : at_ / 4294967296 = 2
    · by_cases h2 : at_ % 4294967296 < y.length
      · by_cases haa : a.length ≤ 100
        · have hA : a.length ≤ 100 ∧ x.length = a.length := by omega
          by_cases hbb : b.length ≤ 100
          · exact l8_MemApart_2ss x y a b A B c d at_ n w hat hn hx1 hx2 hx4 hy1 hy2 hy4 hac hbd hcm hdm hxa hyb h3 h2 hA (by omega)
          · exact l8_MemApart_2sb x y a b A B c d at_ n w hat hn hx1 hx2 hx4 hy1 hy2 hy4 hac hbd hcm hdm hxa hyb h3 h2 hA (by omega)
        · have hA : 100 < a.length ∧ x.length = 100 := by omega
          by_cases hbb : b.length ≤ 100
          · exact l8_MemApart_2bs x y a b A B c d at_ n w hat hn hx1 hx2 hx4 hy1 hy2 hy4 hac hbd hcm hdm hxa hyb h3 h2 hA (by omega)
          · exact l8_MemApart_2bb x y a b A B c d at_ n w hat hn hx1 hx2 hx4 hy1 hy2 hy4 hac hbd hcm hdm hxa hyb h3 h2 hA (by omega)
      · by_cases haa : a.length ≤ 100
        · have hA : a.length ≤ 100 ∧ x.length = a.length := by omega
          by_cases hbb : b.length ≤ 100
          · exact l8_MemApart_4ss x y a b A B c d at_ n w hat hn hx1 hx2 hx4 hy1 hy2 hy4 hac hbd hcm hdm hxa hyb h3 h2 hA (by omega)
          · exact l8_MemApart_4sb x y a b A B c d at_ n w hat hn hx1 hx2 hx4 hy1 hy2 hy4 hac hbd hcm hdm hxa hyb h3 h2 hA (by omega)
        · have hA : 100 < a.length ∧ x.length = 100 := by omega
          by_cases hbb : b.length ≤ 100
          · exact l8_MemApart_4bs x y a b A B c d at_ n w hat hn hx1 hx2 hx4 hy1 hy2 hy4 hac hbd hcm hdm hxa hyb h3 h2 hA (by omega)
          · exact l8_MemApart_4bb x y a b A B c d at_ n w hat hn hx1 hx2 hx4 hy1 hy2 hy4 hac hbd hcm hdm hxa hyb h3 h2 hA (by omega)
    · by_cases haa : a.length ≤ 100
      · have hA : a.length ≤ 100 ∧ x.length = a.length := by omega
        by_cases hbb : b.length ≤ 100
        · exact l8_MemApart_5ss x y a b A B c d at_ n w hat hn hx1 hx2 hx4 hy1 hy2 hy4 hac hbd hcm hdm hxa hyb h1 h3 hA (by omega)
        · exact l8_MemApart_5sb x y a b A B c d at_ n w hat hn hx1 hx2 hx4 hy1 hy2 hy4 hac hbd hcm hdm hxa hyb h1 h3 hA (by omega)
      · have hA : 100 < a.length ∧ x.length = 100 := by omega
        by_cases hbb : b.length ≤ 100
        · exact l8_MemApart_5bs x y a b A B c d at_ n w hat hn hx1 hx2 hx4 hy1 hy2 hy4 hac hbd hcm hdm hxa hyb h1 h3 hA (by omega)
        · exact l8_MemApart_5bb x y a b A B c d at_ n w hat hn hx1 hx2 hx4 hy1 hy2 hy4 hac hbd hcm hdm hxa hyb h1 h3 hA (by omega)

end Go.Proofs.Ytegmhbflgceecaa
