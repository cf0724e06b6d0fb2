/-
  P8.3: what was stored is loaded, and no other byte changes: the walk of the statement MemKeeps.
  Conditions: none beyond the row's own.
-/
import Derived.Test.YtegmhbflgceecaaMemKit
import Derived.LoopTactic
namespace Go.Proofs.Ytegmhbflgceecaa
open Go.RowKit
set_option linter.unusedVariables false
set_option linter.unusedSimpArgs false

theorem few_row {N : Nat} {w : World} {A : Option Addr} {b : List Int} {c : Nat} (h : BytS w A b) (hb : OkB b) (hc : b.length ≤ c) :
    ∃ q : List Int, q.length = min N b.length ∧ BytS w A q ∧ OkB q ∧ q.length ≤ N ∧ q.length ≤ c := by
  have hl : (b.take N).length = min N b.length := by rw [List.length_take]
  have ha : ∀ k, k < (b.take N).length → bAt (b.take N) k = bAt b k := fun k hk => by
    rw [hl] at hk
    unfold bAt
    rw [List.getD_eq_getElem?_getD, List.getElem?_take, if_pos (by omega), ← List.getD_eq_getElem?_getD]
  refine ⟨b.take N, hl, fun h0 => ?_, fun k hk => ?_, by omega, by omega⟩
  · obtain ⟨g, o, e, hg, hk⟩ := h (by omega)
    exact ⟨g, o, e, hg, fun k hk' => by rw [ha k hk']; exact hk k (by omega)⟩
  · rw [ha k hk]
    exact hb k (by omega)
theorem make_one (i : Int) (b : List Int) (bl fx : Bool) (hi : 1 ≤ i ∧ i < 2147483648) (hb : b.length ≤ 1024) : pMake [] i b bl fx = ([⟨i, b, List.replicate b.length bl, fx⟩], 0) := by
  unfold pMake
  rw [if_neg (by rintro (h | h | h) <;> first | omega | (simp [pIx] at h)), if_neg (by omega)]
  rfl
theorem area_one (a : PA) : pArea [a] a.id = (a.b, true) := by
  unfold pArea
  rw [pIx_one]
  rfl
theorem set_rest {a : PA} {o s : Nat} {n : Int} (h : o + s ≤ a.b.length) {t : Nat} (ht : ¬ (o ≤ t ∧ t < o + s)) : bAt (paSet a o s n).b t = bAt a.b t := by rw [set_byte h, if_neg ht]

set_option maxRecDepth 100000 in
set_option maxHeartbeats 4000000 in
theorem l8_MemKeeps_1y (b : List Int) (B : Option Addr) (d : Nat) (off size n : Int) (bl : Bool) (w : World) (hn : 0 ≤ n ∧ n ≤ 18446744073709551615) (q : List Int) (q1 : BytS w B q) (q2 : OkB q) (q3 : q.length ≤ 300) (q4 : q.length ≤ d) (hoff : 0 ≤ off ∧ off ≤ 65535) (hsz : 0 ≤ size ∧ size ≤ 255) (hbd : b.length ≤ d) (hmd : d ≤ maxLen) (o : Nat) (ho : off % 320 = o) (ho' : o < 320) (hbig : b.length ≤ 300 ∧ q.length = b.length) (hz : size % 4 = 0) (hf : o + 1 ≤ q.length) : Calls Try.prog 4 #[.slice B b.length d, .int .u16 off, .int .u8 size, .int .u64 n, .bool bl] w (Fine w) := by
  have N := Lib.hid (mm_New w)
  have SH := Lib.hid l8_shown
  obtain ⟨_, _, b1, b2⟩ := at_parts (i := 5) (o := (o : Int)) (by omega) (by omega)
  have A1 := Lib.hid fun w' => mm_at 5 o w' _ rfl
  have MK := Lib.hid fun g w' (h : Mm w w' g []) (hb : BytS w' B q) => mm_Make 5 q B d bl false h hb q2 q4 hmd (by simp)
  rw [make_one 5 q bl false (by omega) (by omega)] at MK
  have hal : (PA.mk 5 q (List.replicate q.length bl) false).bl.length = (PA.mk 5 q (List.replicate q.length bl) false).b.length := by simp
  have hab : (PA.mk 5 q (List.replicate q.length bl) false).b = q := rfl
  have hid : (PA.mk 5 q (List.replicate q.length bl) false).id = 5 := rfl
  have hfx : (PA.mk 5 q (List.replicate q.length bl) false).fx = false := rfl
  generalize PA.mk 5 q (List.replicate q.length bl) false = a at *
  have e1 : pStore [a] (atI 5 o) 1 n = ([paSet a o 1 n], 0) := by
    have := store_in (a := a) (o := o) (s := 1) (n := n) (by omega) (by omega) (by omega) (by rw [hab]; exact hf) hfx
    rw [hid] at this
    exact this
  have e2 : pLoad [paSet a o 1 n] (atI 5 o) 1 = (n % 256, 0) := by
    have := load_part (a := a) (o := o) (s := 1) (d := 0) (t := 1) (n := n) (by omega) (by omega) (by omega) (by rw [hab]; exact hf) hal (by omega)
    rw [hid] at this
    simp at this
    exact this
  have e3 : pArea [paSet a o 1 n] 5 = ((paSet a o 1 n).b, true) := by
    have := area_one (paSet a o 1 n)
    rw [show (paSet a o 1 n).id = a.id from rfl, hid] at this
    exact this
  have HL : Hid ((paSet a o 1 n).b.length = q.length) := Lib.hid (by rw [← hab]; exact putN_len _ _ _)
  have HR : Hid (∀ t, ¬ (o ≤ t ∧ t < o + 1) → bAt (paSet a o 1 n).b t = bAt q t) := Lib.hid fun t ht => by rw [set_rest (by rw [hab]; exact hf) ht, hab]
  have S1 := Lib.hid fun g w' (h : Mm w w' g [a]) => mm_Store (atI 5 o) 1 n h ⟨b1, b2⟩ hn
  rw [e1] at S1
  have L1 := Lib.hid fun g w' (h : Mm w w' g [paSet a o 1 n]) => mm_Load (atI 5 o) 1 h ⟨b1, b2⟩
  rw [e2] at L1
  have AR := Lib.hid fun g w' (h : Mm w w' g [paSet a o 1 n]) => mm_Area 5 h
  rw [e3] at AR
  have hand : bits .and .u64 n 255 = n % 256 := by
    have := and_low (n := n) (k := 8) hn (by omega)
    simpa using this
  have hf' : (o : Int) + 1 ≤ q.length := by omega
  clear e1 e2 e3 hal hab hid hfx b1 b2 hf
  generalize paSet a o 1 n = y at *
  have HB := Lib.hid q1
  have HO := Lib.hid q2
  clear q1 q2
  unfold maxLen at hmd
  obtain ⟨hb1, hb2⟩ := hbig
  generalize hlen : q.length = m at *
  subst hb2
  have HLEN := Lib.hid hlen
  clear hlen
  generalize hnb : b.length = nb at *
  clear hnb
  have g1 : (nb : Int) ≤ 300 := by omega
  have g2 : min (nb : Int) 300 = nb := by omega
  have hf3 : (o : Int) + 1 ≤ nb := by omega
  clear hf'
  have o0 : (0 : Int) ≤ o := by omega
  have md : (nb : Int) ≤ d := by omega
  have nd : (nb : Int) ≤ d := by omega
  generalize atI 5 (o : Int) = a1 at *
  go_enter Try.func4, Try.ntmps4
  go_wp2_with fail
  refine (SH.out _).mono ?_
  rintro e w0 ⟨rfl, b0⟩
  have V := Lib.hid b0
  clear b0
  go_wp2_with fail
  refine (N.out _ V.out).mono ?_
  rintro e w1 ⟨g, rfl, q1⟩
  have Q := Lib.hid q1
  clear q1 V N SH
  go_wp2_with fail
  replace Q := Lib.hid (Q.out.after (below_alloc (Below.refl _ _) (.cells #[.int .i64 1, .int .i64 2, .int .i64 4, .int .i64 8] 3)))
  generalize w1.alloc (.cells #[.int .i64 1, .int .i64 2, .int .i64 4, .int .i64 8] 3) = wl at *
  refine (MK.out _ _ Q.out (HB.out.after Q.out.below)).mono ?_
  rintro e w2 ⟨rfl, q⟩
  replace Q := Lib.hid q
  clear q
  go_wp2_with fail
  refine (A1.out _).mono ?_
  rintro e w3 ⟨rfl, b⟩
  replace Q := Lib.hid (Q.out.after b)
  clear b
  go_wp2_with fail
  refine (S1.out _ _ Q.out).mono ?_
  rintro e w4 ⟨rfl, q⟩
  replace Q := Lib.hid q
  clear q
  go_wp2_with fail
  refine (AR.out _ _ Q.out).mono ?_
  rintro e w5 ⟨Ay, cy, rfl, hy, ky1, ky2, b⟩
  replace Q := Lib.hid (Q.out.after b)
  have HY := Lib.hid hy
  clear b hy
  dsimp only at ky1 ky2 ⊢
  try rw [HL.out] at ky1
  try rw [HL.out]
  clear S1 AR MK hz ho hoff hsz
  go_wp2_with fail
  go_loopw [79] (fun v wr => ∃ j : Nat, v = .int .i64 j ∧ j ≤ nb ∧ Hid (Mm w wr g [y] ∧ BytS wr Ay y.b)) (fun v wr => nb - (intOf v).toNat)
  case atStart => exact ⟨0, rfl, by omega, Lib.hid ⟨Q.out, HY.out⟩⟩
  case round =>
    clear Q HY
    obtain ⟨j, rfl, hj, QY⟩ := hrel
    have Q := Lib.hid QY.out.1
    have HY := Lib.hid QY.out.2
    clear QY
    have j0 : (0 : Int) ≤ j := by omega
    by_cases hlt : (j : Int) < nb
    · obtain ⟨gx, ox, rfl, hgx, hcx⟩ := (HB.out.after Q.out.below) (by rw [HLEN.out]; omega)
      obtain ⟨gy, oy, rfl, hgy, hcy⟩ := HY.out (by rw [HL.out]; omega)
      have cx := hcx j (by rw [HLEN.out]; omega)
      have cyy := hcy j (by rw [HL.out]; omega)
      clear hcx hcy
      by_cases hin : o ≤ j ∧ j < o + 1
      · have t1 : decide ((j : Int) < o) = false := decide_eq_false (by omega)
        have t2 : decide ((o : Int) + 1 ≤ j) = false := decide_eq_false (by omega)
        have t3 : decide (j < o) = false := decide_eq_false (by omega)
        have t4 : decide (o + 1 ≤ j) = false := decide_eq_false (by omega)
        have t5 : ¬ (j : Int) < o := by omega
        have t6 : ¬ (o : Int) + 1 ≤ j := by omega
        generalize bAt y.b j = u at *
        generalize bAt q j = z at *
        cases huz : (u != z)
        · clear hin
          go_wp2_with fail
          go_quiet (fail)
          go_wp2_with fail
          go_round
          case rel => exact ⟨j + 1, by go_num, by omega, Lib.hid ⟨Q.out.after (below_drewN (Below.refl _ _) _), HY.out.after (below_drewN (Below.refl _ _) _)⟩⟩
          case measure => simp [intOf]; omega
        · clear hin
          go_wp2_with fail
          go_quiet (fail)
          go_wp2_with fail
          go_round
          case rel => exact ⟨j + 1, by go_num, by omega, Lib.hid ⟨Q.out.after (below_drewN (Below.refl _ _) _), HY.out.after (below_drewN (Below.refl _ _) _)⟩⟩
          case measure => simp [intOf]; omega
      · rw [HR.out j hin] at cyy
        generalize bAt q j = z at *
        have hzz : (z != z) = false := by simp
        go_wp2_with fail
        go_quiet (fail)
        go_wp2_with fail
        go_round
        case rel => exact ⟨j + 1, by go_num, by omega, Lib.hid ⟨Q.out.after (below_drewN (Below.refl _ _) _), HY.out.after (below_drewN (Below.refl _ _) _)⟩⟩
        case measure => simp [intOf]; omega
    · have hge : (nb : Int) ≤ j := by omega
      go_wp2_with fail
      refine (A1.out _).mono ?_
      rintro e w6 ⟨rfl, b⟩
      replace Q := Lib.hid (Q.out.after b)
      clear b
      go_wp2_with fail
      refine (L1.out _ _ Q.out).mono ?_
      rintro e w7 ⟨rfl, b⟩
      replace Q := Lib.hid (Q.out.after b)
      clear b
      go_wp2_with fail
      go_ret
      exact ⟨rfl, Q.out.below⟩

set_option maxRecDepth 100000 in
set_option maxHeartbeats 4000000 in
theorem l8_MemKeeps_1yb (b : List Int) (B : Option Addr) (d : Nat) (off size n : Int) (bl : Bool) (w : World) (hn : 0 ≤ n ∧ n ≤ 18446744073709551615) (q : List Int) (q1 : BytS w B q) (q2 : OkB q) (q3 : q.length ≤ 300) (q4 : q.length ≤ d) (hoff : 0 ≤ off ∧ off ≤ 65535) (hsz : 0 ≤ size ∧ size ≤ 255) (hbd : b.length ≤ d) (hmd : d ≤ maxLen) (o : Nat) (ho : off % 320 = o) (ho' : o < 320) (hbig : 300 < b.length ∧ q.length = 300) (hz : size % 4 = 0) (hf : o + 1 ≤ q.length) : Calls Try.prog 4 #[.slice B b.length d, .int .u16 off, .int .u8 size, .int .u64 n, .bool bl] w (Fine w) := by
  have N := Lib.hid (mm_New w)
  have SH := Lib.hid l8_shown
  obtain ⟨_, _, b1, b2⟩ := at_parts (i := 5) (o := (o : Int)) (by omega) (by omega)
  have A1 := Lib.hid fun w' => mm_at 5 o w' _ rfl
  have MK := Lib.hid fun g w' (h : Mm w w' g []) (hb : BytS w' B q) => mm_Make 5 q B d bl false h hb q2 q4 hmd (by simp)
  rw [make_one 5 q bl false (by omega) (by omega)] at MK
  have hal : (PA.mk 5 q (List.replicate q.length bl) false).bl.length = (PA.mk 5 q (List.replicate q.length bl) false).b.length := by simp
  have hab : (PA.mk 5 q (List.replicate q.length bl) false).b = q := rfl
  have hid : (PA.mk 5 q (List.replicate q.length bl) false).id = 5 := rfl
  have hfx : (PA.mk 5 q (List.replicate q.length bl) false).fx = false := rfl
  generalize PA.mk 5 q (List.replicate q.length bl) false = a at *
  have e1 : pStore [a] (atI 5 o) 1 n = ([paSet a o 1 n], 0) := by
    have := store_in (a := a) (o := o) (s := 1) (n := n) (by omega) (by omega) (by omega) (by rw [hab]; exact hf) hfx
    rw [hid] at this
    exact this
  have e2 : pLoad [paSet a o 1 n] (atI 5 o) 1 = (n % 256, 0) := by
    have := load_part (a := a) (o := o) (s := 1) (d := 0) (t := 1) (n := n) (by omega) (by omega) (by omega) (by rw [hab]; exact hf) hal (by omega)
    rw [hid] at this
    simp at this
    exact this
  have e3 : pArea [paSet a o 1 n] 5 = ((paSet a o 1 n).b, true) := by
    have := area_one (paSet a o 1 n)
    rw [show (paSet a o 1 n).id = a.id from rfl, hid] at this
    exact this
  have HL : Hid ((paSet a o 1 n).b.length = q.length) := Lib.hid (by rw [← hab]; exact putN_len _ _ _)
  have HR : Hid (∀ t, ¬ (o ≤ t ∧ t < o + 1) → bAt (paSet a o 1 n).b t = bAt q t) := Lib.hid fun t ht => by rw [set_rest (by rw [hab]; exact hf) ht, hab]
  have S1 := Lib.hid fun g w' (h : Mm w w' g [a]) => mm_Store (atI 5 o) 1 n h ⟨b1, b2⟩ hn
  rw [e1] at S1
  have L1 := Lib.hid fun g w' (h : Mm w w' g [paSet a o 1 n]) => mm_Load (atI 5 o) 1 h ⟨b1, b2⟩
  rw [e2] at L1
  have AR := Lib.hid fun g w' (h : Mm w w' g [paSet a o 1 n]) => mm_Area 5 h
  rw [e3] at AR
  have hand : bits .and .u64 n 255 = n % 256 := by
    have := and_low (n := n) (k := 8) hn (by omega)
    simpa using this
  have hf' : (o : Int) + 1 ≤ q.length := by omega
  clear e1 e2 e3 hal hab hid hfx b1 b2 hf
  generalize paSet a o 1 n = y at *
  have HB := Lib.hid q1
  have HO := Lib.hid q2
  clear q1 q2
  unfold maxLen at hmd
  obtain ⟨hb1, hb2⟩ := hbig
  generalize hlen : q.length = m at *
  subst hb2
  have HLEN := Lib.hid hlen
  clear hlen
  generalize hnb : b.length = nb at *
  clear hnb
  have g1 : (300 : Int) < nb := by omega
  have g2 : min (nb : Int) 300 = 300 := by omega
  have hf3 : (o : Int) + 1 ≤ 300 := by omega
  clear hf'
  have o0 : (0 : Int) ≤ o := by omega
  have md : (300 : Int) ≤ d := by omega
  have nd : (nb : Int) ≤ d := by omega
  generalize atI 5 (o : Int) = a1 at *
  go_enter Try.func4, Try.ntmps4
  go_wp2_with fail
  refine (SH.out _).mono ?_
  rintro e w0 ⟨rfl, b0⟩
  have V := Lib.hid b0
  clear b0
  go_wp2_with fail
  refine (N.out _ V.out).mono ?_
  rintro e w1 ⟨g, rfl, q1⟩
  have Q := Lib.hid q1
  clear q1 V N SH
  go_wp2_with fail
  replace Q := Lib.hid (Q.out.after (below_alloc (Below.refl _ _) (.cells #[.int .i64 1, .int .i64 2, .int .i64 4, .int .i64 8] 3)))
  generalize w1.alloc (.cells #[.int .i64 1, .int .i64 2, .int .i64 4, .int .i64 8] 3) = wl at *
  refine (MK.out _ _ Q.out (HB.out.after Q.out.below)).mono ?_
  rintro e w2 ⟨rfl, q⟩
  replace Q := Lib.hid q
  clear q
  go_wp2_with fail
  refine (A1.out _).mono ?_
  rintro e w3 ⟨rfl, b⟩
  replace Q := Lib.hid (Q.out.after b)
  clear b
  go_wp2_with fail
  refine (S1.out _ _ Q.out).mono ?_
  rintro e w4 ⟨rfl, q⟩
  replace Q := Lib.hid q
  clear q
  go_wp2_with fail
  refine (AR.out _ _ Q.out).mono ?_
  rintro e w5 ⟨Ay, cy, rfl, hy, ky1, ky2, b⟩
  replace Q := Lib.hid (Q.out.after b)
  have HY := Lib.hid hy
  clear b hy
  dsimp only at ky1 ky2 ⊢
  try rw [HL.out] at ky1
  try rw [HL.out]
  clear S1 AR MK hz ho hoff hsz
  go_wp2_with fail
  go_loopw [79] (fun v wr => ∃ j : Nat, v = .int .i64 j ∧ j ≤ 300 ∧ Hid (Mm w wr g [y] ∧ BytS wr Ay y.b)) (fun v wr => 300 - (intOf v).toNat)
  case atStart => exact ⟨0, rfl, by omega, Lib.hid ⟨Q.out, HY.out⟩⟩
  case round =>
    clear Q HY
    obtain ⟨j, rfl, hj, QY⟩ := hrel
    have Q := Lib.hid QY.out.1
    have HY := Lib.hid QY.out.2
    clear QY
    have j0 : (0 : Int) ≤ j := by omega
    by_cases hlt : (j : Int) < 300
    · obtain ⟨gx, ox, rfl, hgx, hcx⟩ := (HB.out.after Q.out.below) (by rw [HLEN.out]; omega)
      obtain ⟨gy, oy, rfl, hgy, hcy⟩ := HY.out (by rw [HL.out]; omega)
      have cx := hcx j (by rw [HLEN.out]; omega)
      have cyy := hcy j (by rw [HL.out]; omega)
      clear hcx hcy
      by_cases hin : o ≤ j ∧ j < o + 1
      · have t1 : decide ((j : Int) < o) = false := decide_eq_false (by omega)
        have t2 : decide ((o : Int) + 1 ≤ j) = false := decide_eq_false (by omega)
        have t3 : decide (j < o) = false := decide_eq_false (by omega)
        have t4 : decide (o + 1 ≤ j) = false := decide_eq_false (by omega)
        have t5 : ¬ (j : Int) < o := by omega
        have t6 : ¬ (o : Int) + 1 ≤ j := by omega
        generalize bAt y.b j = u at *
        generalize bAt q j = z at *
        cases huz : (u != z)
        · clear hin
          go_wp2_with fail
          go_quiet (fail)
          go_wp2_with fail
          go_round
          case rel => exact ⟨j + 1, by go_num, by omega, Lib.hid ⟨Q.out.after (below_drewN (Below.refl _ _) _), HY.out.after (below_drewN (Below.refl _ _) _)⟩⟩
          case measure => simp [intOf]; omega
        · clear hin
          go_wp2_with fail
          go_quiet (fail)
          go_wp2_with fail
          go_round
          case rel => exact ⟨j + 1, by go_num, by omega, Lib.hid ⟨Q.out.after (below_drewN (Below.refl _ _) _), HY.out.after (below_drewN (Below.refl _ _) _)⟩⟩
          case measure => simp [intOf]; omega
      · rw [HR.out j hin] at cyy
        generalize bAt q j = z at *
        have hzz : (z != z) = false := by simp
        go_wp2_with fail
        go_quiet (fail)
        go_wp2_with fail
        go_round
        case rel => exact ⟨j + 1, by go_num, by omega, Lib.hid ⟨Q.out.after (below_drewN (Below.refl _ _) _), HY.out.after (below_drewN (Below.refl _ _) _)⟩⟩
        case measure => simp [intOf]; omega
    · have hge : (300 : Int) ≤ j := by omega
      go_wp2_with fail
      refine (A1.out _).mono ?_
      rintro e w6 ⟨rfl, b⟩
      replace Q := Lib.hid (Q.out.after b)
      clear b
      go_wp2_with fail
      refine (L1.out _ _ Q.out).mono ?_
      rintro e w7 ⟨rfl, b⟩
      replace Q := Lib.hid (Q.out.after b)
      clear b
      go_wp2_with fail
      go_ret
      exact ⟨rfl, Q.out.below⟩

set_option maxRecDepth 100000 in
set_option maxHeartbeats 4000000 in
theorem l8_MemKeeps_1n (b : List Int) (B : Option Addr) (d : Nat) (off size n : Int) (bl : Bool) (w : World) (hn : 0 ≤ n ∧ n ≤ 18446744073709551615) (q : List Int) (q1 : BytS w B q) (q2 : OkB q) (q3 : q.length ≤ 300) (q4 : q.length ≤ d) (hoff : 0 ≤ off ∧ off ≤ 65535) (hsz : 0 ≤ size ∧ size ≤ 255) (hbd : b.length ≤ d) (hmd : d ≤ maxLen) (o : Nat) (ho : off % 320 = o) (ho' : o < 320) (hbig : b.length ≤ 300 ∧ q.length = b.length) (hz : size % 4 = 0) (hf : ¬ (o + 1 ≤ q.length)) : Calls Try.prog 4 #[.slice B b.length d, .int .u16 off, .int .u8 size, .int .u64 n, .bool bl] w (Fine w) := by
  have N := Lib.hid (mm_New w)
  have SH := Lib.hid l8_shown
  obtain ⟨_, _, b1, b2⟩ := at_parts (i := 5) (o := (o : Int)) (by omega) (by omega)
  have A1 := Lib.hid fun w' => mm_at 5 o w' _ rfl
  have MK := Lib.hid fun g w' (h : Mm w w' g []) (hb : BytS w' B q) => mm_Make 5 q B d bl false h hb q2 q4 hmd (by simp)
  rw [make_one 5 q bl false (by omega) (by omega)] at MK
  have hal : (PA.mk 5 q (List.replicate q.length bl) false).bl.length = (PA.mk 5 q (List.replicate q.length bl) false).b.length := by simp
  have hab : (PA.mk 5 q (List.replicate q.length bl) false).b = q := rfl
  have hid : (PA.mk 5 q (List.replicate q.length bl) false).id = 5 := rfl
  have hfx : (PA.mk 5 q (List.replicate q.length bl) false).fx = false := rfl
  generalize PA.mk 5 q (List.replicate q.length bl) false = a at *
  have e1 : pStore [a] (atI 5 o) 1 n = ([a], 80) := by
    have := store_one (a := a) (o := o) (s := 1) (n := n) (by omega) (by omega) rfl
    unfold stA at this
    rw [hid, hab, if_neg hf] at this
    exact this
  have e3 : pArea [a] 5 = (q, true) := by
    have := area_one a
    rw [hid, hab] at this
    exact this
  have S1 := Lib.hid fun g w' (h : Mm w w' g [a]) => mm_Store (atI 5 o) 1 n h ⟨b1, b2⟩ hn
  rw [e1] at S1
  have AR := Lib.hid fun g w' (h : Mm w w' g [a]) => mm_Area 5 h
  rw [e3] at AR
  have hf' : ¬ ((o : Int) + 1 ≤ q.length) := by omega
  clear e1 e3 hal hab hid hfx b1 b2 hf
  have HB := Lib.hid q1
  have HO := Lib.hid q2
  clear q1 q2
  unfold maxLen at hmd
  obtain ⟨hb1, hb2⟩ := hbig
  generalize hlen : q.length = m at *
  subst hb2
  have HLEN := Lib.hid hlen
  clear hlen
  generalize hnb : b.length = nb at *
  clear hnb
  have g1 : (nb : Int) ≤ 300 := by omega
  have g2 : min (nb : Int) 300 = nb := by omega
  have hf3 : ¬ ((o : Int) + 1 ≤ nb) := by omega
  clear hf'
  have o0 : (0 : Int) ≤ o := by omega
  have md : (nb : Int) ≤ d := by omega
  have nd : (nb : Int) ≤ d := by omega
  generalize atI 5 (o : Int) = a1 at *
  go_enter Try.func4, Try.ntmps4
  go_wp2_with fail
  refine (SH.out _).mono ?_
  rintro e w0 ⟨rfl, b0⟩
  have V := Lib.hid b0
  clear b0
  go_wp2_with fail
  refine (N.out _ V.out).mono ?_
  rintro e w1 ⟨g, rfl, q1⟩
  have Q := Lib.hid q1
  clear q1 V N SH
  go_wp2_with fail
  replace Q := Lib.hid (Q.out.after (below_alloc (Below.refl _ _) (.cells #[.int .i64 1, .int .i64 2, .int .i64 4, .int .i64 8] 3)))
  generalize w1.alloc (.cells #[.int .i64 1, .int .i64 2, .int .i64 4, .int .i64 8] 3) = wl at *
  refine (MK.out _ _ Q.out (HB.out.after Q.out.below)).mono ?_
  rintro e w2 ⟨rfl, q⟩
  replace Q := Lib.hid q
  clear q
  go_wp2_with fail
  refine (A1.out _).mono ?_
  rintro e w3 ⟨rfl, b⟩
  replace Q := Lib.hid (Q.out.after b)
  clear b
  go_wp2_with fail
  refine (S1.out _ _ Q.out).mono ?_
  rintro e w4 ⟨rfl, q⟩
  replace Q := Lib.hid q
  clear q
  go_wp2_with fail
  refine (AR.out _ _ Q.out).mono ?_
  rintro e w5 ⟨Ay, cy, rfl, hy, ky1, ky2, b⟩
  replace Q := Lib.hid (Q.out.after b)
  have HY := Lib.hid hy
  clear b hy
  dsimp only at ky1 ky2 ⊢
  try rw [HLEN.out] at ky1
  try rw [HLEN.out]
  clear S1 AR MK hz ho hoff hsz
  go_wp2_with fail
  go_loopw [79] (fun v wr => ∃ j : Nat, v = .int .i64 j ∧ j ≤ nb ∧ Hid (Mm w wr g [a] ∧ BytS wr Ay q)) (fun v wr => nb - (intOf v).toNat)
  case atStart => exact ⟨0, rfl, by omega, Lib.hid ⟨Q.out, HY.out⟩⟩
  case round =>
    clear Q HY
    obtain ⟨j, rfl, hj, QY⟩ := hrel
    have Q := Lib.hid QY.out.1
    have HY := Lib.hid QY.out.2
    clear QY
    have j0 : (0 : Int) ≤ j := by omega
    by_cases hlt : (j : Int) < nb
    · obtain ⟨gx, ox, rfl, hgx, hcx⟩ := (HB.out.after Q.out.below) (by rw [HLEN.out]; omega)
      obtain ⟨gy, oy, rfl, hgy, hcy⟩ := HY.out (by rw [HLEN.out]; omega)
      have cx := hcx j (by rw [HLEN.out]; omega)
      have cyy := hcy j (by rw [HLEN.out]; omega)
      clear hcx hcy
      generalize bAt q j = z at *
      have hzz : (z != z) = false := by simp
      go_wp2_with fail
      go_quiet (fail)
      go_wp2_with fail
      go_round
      case rel => exact ⟨j + 1, by go_num, by omega, Lib.hid ⟨Q.out.after (below_drewN (Below.refl _ _) _), HY.out.after (below_drewN (Below.refl _ _) _)⟩⟩
      case measure => simp [intOf]; omega
    · have hge : (nb : Int) ≤ j := by omega
      go_wp2_with fail
      go_ret
      exact ⟨rfl, Q.out.below⟩

set_option maxRecDepth 100000 in
set_option maxHeartbeats 4000000 in
theorem l8_MemKeeps_1nb (b : List Int) (B : Option Addr) (d : Nat) (off size n : Int) (bl : Bool) (w : World) (hn : 0 ≤ n ∧ n ≤ 18446744073709551615) (q : List Int) (q1 : BytS w B q) (q2 : OkB q) (q3 : q.length ≤ 300) (q4 : q.length ≤ d) (hoff : 0 ≤ off ∧ off ≤ 65535) (hsz : 0 ≤ size ∧ size ≤ 255) (hbd : b.length ≤ d) (hmd : d ≤ maxLen) (o : Nat) (ho : off % 320 = o) (ho' : o < 320) (hbig : 300 < b.length ∧ q.length = 300) (hz : size % 4 = 0) (hf : ¬ (o + 1 ≤ q.length)) : Calls Try.prog 4 #[.slice B b.length d, .int .u16 off, .int .u8 size, .int .u64 n, .bool bl] w (Fine w) := by
  have N := Lib.hid (mm_New w)
  have SH := Lib.hid l8_shown
  obtain ⟨_, _, b1, b2⟩ := at_parts (i := 5) (o := (o : Int)) (by omega) (by omega)
  have A1 := Lib.hid fun w' => mm_at 5 o w' _ rfl
  have MK := Lib.hid fun g w' (h : Mm w w' g []) (hb : BytS w' B q) => mm_Make 5 q B d bl false h hb q2 q4 hmd (by simp)
  rw [make_one 5 q bl false (by omega) (by omega)] at MK
  have hal : (PA.mk 5 q (List.replicate q.length bl) false).bl.length = (PA.mk 5 q (List.replicate q.length bl) false).b.length := by simp
  have hab : (PA.mk 5 q (List.replicate q.length bl) false).b = q := rfl
  have hid : (PA.mk 5 q (List.replicate q.length bl) false).id = 5 := rfl
  have hfx : (PA.mk 5 q (List.replicate q.length bl) false).fx = false := rfl
  generalize PA.mk 5 q (List.replicate q.length bl) false = a at *
  have e1 : pStore [a] (atI 5 o) 1 n = ([a], 80) := by
    have := store_one (a := a) (o := o) (s := 1) (n := n) (by omega) (by omega) rfl
    unfold stA at this
    rw [hid, hab, if_neg hf] at this
    exact this
  have e3 : pArea [a] 5 = (q, true) := by
    have := area_one a
    rw [hid, hab] at this
    exact this
  have S1 := Lib.hid fun g w' (h : Mm w w' g [a]) => mm_Store (atI 5 o) 1 n h ⟨b1, b2⟩ hn
  rw [e1] at S1
  have AR := Lib.hid fun g w' (h : Mm w w' g [a]) => mm_Area 5 h
  rw [e3] at AR
  have hf' : ¬ ((o : Int) + 1 ≤ q.length) := by omega
  clear e1 e3 hal hab hid hfx b1 b2 hf
  have HB := Lib.hid q1
  have HO := Lib.hid q2
  clear q1 q2
  unfold maxLen at hmd
  obtain ⟨hb1, hb2⟩ := hbig
  generalize hlen : q.length = m at *
  subst hb2
  have HLEN := Lib.hid hlen
  clear hlen
  generalize hnb : b.length = nb at *
  clear hnb
  have g1 : (300 : Int) < nb := by omega
  have g2 : min (nb : Int) 300 = 300 := by omega
  have hf3 : ¬ ((o : Int) + 1 ≤ 300) := by omega
  clear hf'
  have o0 : (0 : Int) ≤ o := by omega
  have md : (300 : Int) ≤ d := by omega
  have nd : (nb : Int) ≤ d := by omega
  generalize atI 5 (o : Int) = a1 at *
  go_enter Try.func4, Try.ntmps4
  go_wp2_with fail
  refine (SH.out _).mono ?_
  rintro e w0 ⟨rfl, b0⟩
  have V := Lib.hid b0
  clear b0
  go_wp2_with fail
  refine (N.out _ V.out).mono ?_
  rintro e w1 ⟨g, rfl, q1⟩
  have Q := Lib.hid q1
  clear q1 V N SH
  go_wp2_with fail
  replace Q := Lib.hid (Q.out.after (below_alloc (Below.refl _ _) (.cells #[.int .i64 1, .int .i64 2, .int .i64 4, .int .i64 8] 3)))
  generalize w1.alloc (.cells #[.int .i64 1, .int .i64 2, .int .i64 4, .int .i64 8] 3) = wl at *
  refine (MK.out _ _ Q.out (HB.out.after Q.out.below)).mono ?_
  rintro e w2 ⟨rfl, q⟩
  replace Q := Lib.hid q
  clear q
  go_wp2_with fail
  refine (A1.out _).mono ?_
  rintro e w3 ⟨rfl, b⟩
  replace Q := Lib.hid (Q.out.after b)
  clear b
  go_wp2_with fail
  refine (S1.out _ _ Q.out).mono ?_
  rintro e w4 ⟨rfl, q⟩
  replace Q := Lib.hid q
  clear q
  go_wp2_with fail
  refine (AR.out _ _ Q.out).mono ?_
  rintro e w5 ⟨Ay, cy, rfl, hy, ky1, ky2, b⟩
  replace Q := Lib.hid (Q.out.after b)
  have HY := Lib.hid hy
  clear b hy
  dsimp only at ky1 ky2 ⊢
  try rw [HLEN.out] at ky1
  try rw [HLEN.out]
  clear S1 AR MK hz ho hoff hsz
  go_wp2_with fail
  go_loopw [79] (fun v wr => ∃ j : Nat, v = .int .i64 j ∧ j ≤ 300 ∧ Hid (Mm w wr g [a] ∧ BytS wr Ay q)) (fun v wr => 300 - (intOf v).toNat)
  case atStart => exact ⟨0, rfl, by omega, Lib.hid ⟨Q.out, HY.out⟩⟩
  case round =>
    clear Q HY
    obtain ⟨j, rfl, hj, QY⟩ := hrel
    have Q := Lib.hid QY.out.1
    have HY := Lib.hid QY.out.2
    clear QY
    have j0 : (0 : Int) ≤ j := by omega
    by_cases hlt : (j : Int) < 300
    · obtain ⟨gx, ox, rfl, hgx, hcx⟩ := (HB.out.after Q.out.below) (by rw [HLEN.out]; omega)
      obtain ⟨gy, oy, rfl, hgy, hcy⟩ := HY.out (by rw [HLEN.out]; omega)
      have cx := hcx j (by rw [HLEN.out]; omega)
      have cyy := hcy j (by rw [HLEN.out]; omega)
      clear hcx hcy
      generalize bAt q j = z at *
      have hzz : (z != z) = false := by simp
      go_wp2_with fail
      go_quiet (fail)
      go_wp2_with fail
      go_round
      case rel => exact ⟨j + 1, by go_num, by omega, Lib.hid ⟨Q.out.after (below_drewN (Below.refl _ _) _), HY.out.after (below_drewN (Below.refl _ _) _)⟩⟩
      case measure => simp [intOf]; omega
    · have hge : (300 : Int) ≤ j := by omega
      go_wp2_with fail
      go_ret
      exact ⟨rfl, Q.out.below⟩

set_option maxRecDepth 100000 in
set_option maxHeartbeats 4000000 in
theorem l8_MemKeeps_2y (b : List Int) (B : Option Addr) (d : Nat) (off size n : Int) (bl : Bool) (w : World) (hn : 0 ≤ n ∧ n ≤ 18446744073709551615) (q : List Int) (q1 : BytS w B q) (q2 : OkB q) (q3 : q.length ≤ 300) (q4 : q.length ≤ d) (hoff : 0 ≤ off ∧ off ≤ 65535) (hsz : 0 ≤ size ∧ size ≤ 255) (hbd : b.length ≤ d) (hmd : d ≤ maxLen) (o : Nat) (ho : off % 320 = o) (ho' : o < 320) (hbig : b.length ≤ 300 ∧ q.length = b.length) (hz : size % 4 = 1) (hf : o + 2 ≤ q.length) : Calls Try.prog 4 #[.slice B b.length d, .int .u16 off, .int .u8 size, .int .u64 n, .bool bl] w (Fine w) := by
  have N := Lib.hid (mm_New w)
  have SH := Lib.hid l8_shown
  obtain ⟨_, _, b1, b2⟩ := at_parts (i := 5) (o := (o : Int)) (by omega) (by omega)
  have A1 := Lib.hid fun w' => mm_at 5 o w' _ rfl
  have MK := Lib.hid fun g w' (h : Mm w w' g []) (hb : BytS w' B q) => mm_Make 5 q B d bl false h hb q2 q4 hmd (by simp)
  rw [make_one 5 q bl false (by omega) (by omega)] at MK
  have hal : (PA.mk 5 q (List.replicate q.length bl) false).bl.length = (PA.mk 5 q (List.replicate q.length bl) false).b.length := by simp
  have hab : (PA.mk 5 q (List.replicate q.length bl) false).b = q := rfl
  have hid : (PA.mk 5 q (List.replicate q.length bl) false).id = 5 := rfl
  have hfx : (PA.mk 5 q (List.replicate q.length bl) false).fx = false := rfl
  generalize PA.mk 5 q (List.replicate q.length bl) false = a at *
  have e1 : pStore [a] (atI 5 o) 2 n = ([paSet a o 2 n], 0) := by
    have := store_in (a := a) (o := o) (s := 2) (n := n) (by omega) (by omega) (by omega) (by rw [hab]; exact hf) hfx
    rw [hid] at this
    exact this
  have e2 : pLoad [paSet a o 2 n] (atI 5 o) 2 = (n % 65536, 0) := by
    have := load_part (a := a) (o := o) (s := 2) (d := 0) (t := 2) (n := n) (by omega) (by omega) (by omega) (by rw [hab]; exact hf) hal (by omega)
    rw [hid] at this
    simp at this
    exact this
  have e3 : pArea [paSet a o 2 n] 5 = ((paSet a o 2 n).b, true) := by
    have := area_one (paSet a o 2 n)
    rw [show (paSet a o 2 n).id = a.id from rfl, hid] at this
    exact this
  have HL : Hid ((paSet a o 2 n).b.length = q.length) := Lib.hid (by rw [← hab]; exact putN_len _ _ _)
  have HR : Hid (∀ t, ¬ (o ≤ t ∧ t < o + 2) → bAt (paSet a o 2 n).b t = bAt q t) := Lib.hid fun t ht => by rw [set_rest (by rw [hab]; exact hf) ht, hab]
  have S1 := Lib.hid fun g w' (h : Mm w w' g [a]) => mm_Store (atI 5 o) 2 n h ⟨b1, b2⟩ hn
  rw [e1] at S1
  have L1 := Lib.hid fun g w' (h : Mm w w' g [paSet a o 2 n]) => mm_Load (atI 5 o) 2 h ⟨b1, b2⟩
  rw [e2] at L1
  have AR := Lib.hid fun g w' (h : Mm w w' g [paSet a o 2 n]) => mm_Area 5 h
  rw [e3] at AR
  have hand : bits .and .u64 n 65535 = n % 65536 := by
    have := and_low (n := n) (k := 16) hn (by omega)
    simpa using this
  have hf' : (o : Int) + 2 ≤ q.length := by omega
  clear e1 e2 e3 hal hab hid hfx b1 b2 hf
  generalize paSet a o 2 n = y at *
  have HB := Lib.hid q1
  have HO := Lib.hid q2
  clear q1 q2
  unfold maxLen at hmd
  obtain ⟨hb1, hb2⟩ := hbig
  generalize hlen : q.length = m at *
  subst hb2
  have HLEN := Lib.hid hlen
  clear hlen
  generalize hnb : b.length = nb at *
  clear hnb
  have g1 : (nb : Int) ≤ 300 := by omega
  have g2 : min (nb : Int) 300 = nb := by omega
  have hf3 : (o : Int) + 2 ≤ nb := by omega
  clear hf'
  have o0 : (0 : Int) ≤ o := by omega
  have md : (nb : Int) ≤ d := by omega
  have nd : (nb : Int) ≤ d := by omega
  generalize atI 5 (o : Int) = a1 at *
  go_enter Try.func4, Try.ntmps4
  go_wp2_with fail
  refine (SH.out _).mono ?_
  rintro e w0 ⟨rfl, b0⟩
  have V := Lib.hid b0
  clear b0
  go_wp2_with fail
  refine (N.out _ V.out).mono ?_
  rintro e w1 ⟨g, rfl, q1⟩
  have Q := Lib.hid q1
  clear q1 V N SH
  go_wp2_with fail
  replace Q := Lib.hid (Q.out.after (below_alloc (Below.refl _ _) (.cells #[.int .i64 1, .int .i64 2, .int .i64 4, .int .i64 8] 3)))
  generalize w1.alloc (.cells #[.int .i64 1, .int .i64 2, .int .i64 4, .int .i64 8] 3) = wl at *
  refine (MK.out _ _ Q.out (HB.out.after Q.out.below)).mono ?_
  rintro e w2 ⟨rfl, q⟩
  replace Q := Lib.hid q
  clear q
  go_wp2_with fail
  refine (A1.out _).mono ?_
  rintro e w3 ⟨rfl, b⟩
  replace Q := Lib.hid (Q.out.after b)
  clear b
  go_wp2_with fail
  refine (S1.out _ _ Q.out).mono ?_
  rintro e w4 ⟨rfl, q⟩
  replace Q := Lib.hid q
  clear q
  go_wp2_with fail
  refine (AR.out _ _ Q.out).mono ?_
  rintro e w5 ⟨Ay, cy, rfl, hy, ky1, ky2, b⟩
  replace Q := Lib.hid (Q.out.after b)
  have HY := Lib.hid hy
  clear b hy
  dsimp only at ky1 ky2 ⊢
  try rw [HL.out] at ky1
  try rw [HL.out]
  clear S1 AR MK hz ho hoff hsz
  go_wp2_with fail
  go_loopw [79] (fun v wr => ∃ j : Nat, v = .int .i64 j ∧ j ≤ nb ∧ Hid (Mm w wr g [y] ∧ BytS wr Ay y.b)) (fun v wr => nb - (intOf v).toNat)
  case atStart => exact ⟨0, rfl, by omega, Lib.hid ⟨Q.out, HY.out⟩⟩
  case round =>
    clear Q HY
    obtain ⟨j, rfl, hj, QY⟩ := hrel
    have Q := Lib.hid QY.out.1
    have HY := Lib.hid QY.out.2
    clear QY
    have j0 : (0 : Int) ≤ j := by omega
    by_cases hlt : (j : Int) < nb
    · obtain ⟨gx, ox, rfl, hgx, hcx⟩ := (HB.out.after Q.out.below) (by rw [HLEN.out]; omega)
      obtain ⟨gy, oy, rfl, hgy, hcy⟩ := HY.out (by rw [HL.out]; omega)
      have cx := hcx j (by rw [HLEN.out]; omega)
      have cyy := hcy j (by rw [HL.out]; omega)
      clear hcx hcy
      by_cases hin : o ≤ j ∧ j < o + 2
      · have t1 : decide ((j : Int) < o) = false := decide_eq_false (by omega)
        have t2 : decide ((o : Int) + 2 ≤ j) = false := decide_eq_false (by omega)
        have t3 : decide (j < o) = false := decide_eq_false (by omega)
        have t4 : decide (o + 2 ≤ j) = false := decide_eq_false (by omega)
        have t5 : ¬ (j : Int) < o := by omega
        have t6 : ¬ (o : Int) + 2 ≤ j := by omega
        generalize bAt y.b j = u at *
        generalize bAt q j = z at *
        cases huz : (u != z)
        · clear hin
          go_wp2_with fail
          go_quiet (fail)
          go_wp2_with fail
          go_round
          case rel => exact ⟨j + 1, by go_num, by omega, Lib.hid ⟨Q.out.after (below_drewN (Below.refl _ _) _), HY.out.after (below_drewN (Below.refl _ _) _)⟩⟩
          case measure => simp [intOf]; omega
        · clear hin
          go_wp2_with fail
          go_quiet (fail)
          go_wp2_with fail
          go_round
          case rel => exact ⟨j + 1, by go_num, by omega, Lib.hid ⟨Q.out.after (below_drewN (Below.refl _ _) _), HY.out.after (below_drewN (Below.refl _ _) _)⟩⟩
          case measure => simp [intOf]; omega
      · rw [HR.out j hin] at cyy
        generalize bAt q j = z at *
        have hzz : (z != z) = false := by simp
        go_wp2_with fail
        go_quiet (fail)
        go_wp2_with fail
        go_round
        case rel => exact ⟨j + 1, by go_num, by omega, Lib.hid ⟨Q.out.after (below_drewN (Below.refl _ _) _), HY.out.after (below_drewN (Below.refl _ _) _)⟩⟩
        case measure => simp [intOf]; omega
    · have hge : (nb : Int) ≤ j := by omega
      go_wp2_with fail
      refine (A1.out _).mono ?_
      rintro e w6 ⟨rfl, b⟩
      replace Q := Lib.hid (Q.out.after b)
      clear b
      go_wp2_with fail
      refine (L1.out _ _ Q.out).mono ?_
      rintro e w7 ⟨rfl, b⟩
      replace Q := Lib.hid (Q.out.after b)
      clear b
      go_wp2_with fail
      go_ret
      exact ⟨rfl, Q.out.below⟩

set_option maxRecDepth 100000 in
set_option maxHeartbeats 4000000 in
theorem l8_MemKeeps_2yb (b : List Int) (B : Option Addr) (d : Nat) (off size n : Int) (bl : Bool) (w : World) (hn : 0 ≤ n ∧ n ≤ 18446744073709551615) (q : List Int) (q1 : BytS w B q) (q2 : OkB q) (q3 : q.length ≤ 300) (q4 : q.length ≤ d) (hoff : 0 ≤ off ∧ off ≤ 65535) (hsz : 0 ≤ size ∧ size ≤ 255) (hbd : b.length ≤ d) (hmd : d ≤ maxLen) (o : Nat) (ho : off % 320 = o) (ho' : o < 320) (hbig : 300 < b.length ∧ q.length = 300) (hz : size % 4 = 1) (hf : o + 2 ≤ q.length) : Calls Try.prog 4 #[.slice B b.length d, .int .u16 off, .int .u8 size, .int .u64 n, .bool bl] w (Fine w) := by
  have N := Lib.hid (mm_New w)
  have SH := Lib.hid l8_shown
  obtain ⟨_, _, b1, b2⟩ := at_parts (i := 5) (o := (o : Int)) (by omega) (by omega)
  have A1 := Lib.hid fun w' => mm_at 5 o w' _ rfl
  have MK := Lib.hid fun g w' (h : Mm w w' g []) (hb : BytS w' B q) => mm_Make 5 q B d bl false h hb q2 q4 hmd (by simp)
  rw [make_one 5 q bl false (by omega) (by omega)] at MK
  have hal : (PA.mk 5 q (List.replicate q.length bl) false).bl.length = (PA.mk 5 q (List.replicate q.length bl) false).b.length := by simp
  have hab : (PA.mk 5 q (List.replicate q.length bl) false).b = q := rfl
  have hid : (PA.mk 5 q (List.replicate q.length bl) false).id = 5 := rfl
  have hfx : (PA.mk 5 q (List.replicate q.length bl) false).fx = false := rfl
  generalize PA.mk 5 q (List.replicate q.length bl) false = a at *
  have e1 : pStore [a] (atI 5 o) 2 n = ([paSet a o 2 n], 0) := by
    have := store_in (a := a) (o := o) (s := 2) (n := n) (by omega) (by omega) (by omega) (by rw [hab]; exact hf) hfx
    rw [hid] at this
    exact this
  have e2 : pLoad [paSet a o 2 n] (atI 5 o) 2 = (n % 65536, 0) := by
    have := load_part (a := a) (o := o) (s := 2) (d := 0) (t := 2) (n := n) (by omega) (by omega) (by omega) (by rw [hab]; exact hf) hal (by omega)
    rw [hid] at this
    simp at this
    exact this
  have e3 : pArea [paSet a o 2 n] 5 = ((paSet a o 2 n).b, true) := by
    have := area_one (paSet a o 2 n)
    rw [show (paSet a o 2 n).id = a.id from rfl, hid] at this
    exact this
  have HL : Hid ((paSet a o 2 n).b.length = q.length) := Lib.hid (by rw [← hab]; exact putN_len _ _ _)
  have HR : Hid (∀ t, ¬ (o ≤ t ∧ t < o + 2) → bAt (paSet a o 2 n).b t = bAt q t) := Lib.hid fun t ht => by rw [set_rest (by rw [hab]; exact hf) ht, hab]
  have S1 := Lib.hid fun g w' (h : Mm w w' g [a]) => mm_Store (atI 5 o) 2 n h ⟨b1, b2⟩ hn
  rw [e1] at S1
  have L1 := Lib.hid fun g w' (h : Mm w w' g [paSet a o 2 n]) => mm_Load (atI 5 o) 2 h ⟨b1, b2⟩
  rw [e2] at L1
  have AR := Lib.hid fun g w' (h : Mm w w' g [paSet a o 2 n]) => mm_Area 5 h
  rw [e3] at AR
  have hand : bits .and .u64 n 65535 = n % 65536 := by
    have := and_low (n := n) (k := 16) hn (by omega)
    simpa using this
  have hf' : (o : Int) + 2 ≤ q.length := by omega
  clear e1 e2 e3 hal hab hid hfx b1 b2 hf
  generalize paSet a o 2 n = y at *
  have HB := Lib.hid q1
  have HO := Lib.hid q2
  clear q1 q2
  unfold maxLen at hmd
  obtain ⟨hb1, hb2⟩ := hbig
  generalize hlen : q.length = m at *
  subst hb2
  have HLEN := Lib.hid hlen
  clear hlen
  generalize hnb : b.length = nb at *
  clear hnb
  have g1 : (300 : Int) < nb := by omega
  have g2 : min (nb : Int) 300 = 300 := by omega
  have hf3 : (o : Int) + 2 ≤ 300 := by omega
  clear hf'
  have o0 : (0 : Int) ≤ o := by omega
  have md : (300 : Int) ≤ d := by omega
  have nd : (nb : Int) ≤ d := by omega
  generalize atI 5 (o : Int) = a1 at *
  go_enter Try.func4, Try.ntmps4
  go_wp2_with fail
  refine (SH.out _).mono ?_
  rintro e w0 ⟨rfl, b0⟩
  have V := Lib.hid b0
  clear b0
  go_wp2_with fail
  refine (N.out _ V.out).mono ?_
  rintro e w1 ⟨g, rfl, q1⟩
  have Q := Lib.hid q1
  clear q1 V N SH
  go_wp2_with fail
  replace Q := Lib.hid (Q.out.after (below_alloc (Below.refl _ _) (.cells #[.int .i64 1, .int .i64 2, .int .i64 4, .int .i64 8] 3)))
  generalize w1.alloc (.cells #[.int .i64 1, .int .i64 2, .int .i64 4, .int .i64 8] 3) = wl at *
  refine (MK.out _ _ Q.out (HB.out.after Q.out.below)).mono ?_
  rintro e w2 ⟨rfl, q⟩
  replace Q := Lib.hid q
  clear q
  go_wp2_with fail
  refine (A1.out _).mono ?_
  rintro e w3 ⟨rfl, b⟩
  replace Q := Lib.hid (Q.out.after b)
  clear b
  go_wp2_with fail
  refine (S1.out _ _ Q.out).mono ?_
  rintro e w4 ⟨rfl, q⟩
  replace Q := Lib.hid q
  clear q
  go_wp2_with fail
  refine (AR.out _ _ Q.out).mono ?_
  rintro e w5 ⟨Ay, cy, rfl, hy, ky1, ky2, b⟩
  replace Q := Lib.hid (Q.out.after b)
  have HY := Lib.hid hy
  clear b hy
  dsimp only at ky1 ky2 ⊢
  try rw [HL.out] at ky1
  try rw [HL.out]
  clear S1 AR MK hz ho hoff hsz
  go_wp2_with fail
  go_loopw [79] (fun v wr => ∃ j : Nat, v = .int .i64 j ∧ j ≤ 300 ∧ Hid (Mm w wr g [y] ∧ BytS wr Ay y.b)) (fun v wr => 300 - (intOf v).toNat)
  case atStart => exact ⟨0, rfl, by omega, Lib.hid ⟨Q.out, HY.out⟩⟩
  case round =>
    clear Q HY
    obtain ⟨j, rfl, hj, QY⟩ := hrel
    have Q := Lib.hid QY.out.1
    have HY := Lib.hid QY.out.2
    clear QY
    have j0 : (0 : Int) ≤ j := by omega
    by_cases hlt : (j : Int) < 300
    · obtain ⟨gx, ox, rfl, hgx, hcx⟩ := (HB.out.after Q.out.below) (by rw [HLEN.out]; omega)
      obtain ⟨gy, oy, rfl, hgy, hcy⟩ := HY.out (by rw [HL.out]; omega)
      have cx := hcx j (by rw [HLEN.out]; omega)
      have cyy := hcy j (by rw [HL.out]; omega)
      clear hcx hcy
      by_cases hin : o ≤ j ∧ j < o + 2
      · have t1 : decide ((j : Int) < o) = false := decide_eq_false (by omega)
        have t2 : decide ((o : Int) + 2 ≤ j) = false := decide_eq_false (by omega)
        have t3 : decide (j < o) = false := decide_eq_false (by omega)
        have t4 : decide (o + 2 ≤ j) = false := decide_eq_false (by omega)
        have t5 : ¬ (j : Int) < o := by omega
        have t6 : ¬ (o : Int) + 2 ≤ j := by omega
        generalize bAt y.b j = u at *
        generalize bAt q j = z at *
        cases huz : (u != z)
        · clear hin
          go_wp2_with fail
          go_quiet (fail)
          go_wp2_with fail
          go_round
          case rel => exact ⟨j + 1, by go_num, by omega, Lib.hid ⟨Q.out.after (below_drewN (Below.refl _ _) _), HY.out.after (below_drewN (Below.refl _ _) _)⟩⟩
          case measure => simp [intOf]; omega
        · clear hin
          go_wp2_with fail
          go_quiet (fail)
          go_wp2_with fail
          go_round
          case rel => exact ⟨j + 1, by go_num, by omega, Lib.hid ⟨Q.out.after (below_drewN (Below.refl _ _) _), HY.out.after (below_drewN (Below.refl _ _) _)⟩⟩
          case measure => simp [intOf]; omega
      · rw [HR.out j hin] at cyy
        generalize bAt q j = z at *
        have hzz : (z != z) = false := by simp
        go_wp2_with fail
        go_quiet (fail)
        go_wp2_with fail
        go_round
        case rel => exact ⟨j + 1, by go_num, by omega, Lib.hid ⟨Q.out.after (below_drewN (Below.refl _ _) _), HY.out.after (below_drewN (Below.refl _ _) _)⟩⟩
        case measure => simp [intOf]; omega
    · have hge : (300 : Int) ≤ j := by omega
      go_wp2_with fail
      refine (A1.out _).mono ?_
      rintro e w6 ⟨rfl, b⟩
      replace Q := Lib.hid (Q.out.after b)
      clear b
      go_wp2_with fail
      refine (L1.out _ _ Q.out).mono ?_
      rintro e w7 ⟨rfl, b⟩
      replace Q := Lib.hid (Q.out.after b)
      clear b
      go_wp2_with fail
      go_ret
      exact ⟨rfl, Q.out.below⟩

set_option maxRecDepth 100000 in
set_option maxHeartbeats 4000000 in
theorem l8_MemKeeps_2n (b : List Int) (B : Option Addr) (d : Nat) (off size n : Int) (bl : Bool) (w : World) (hn : 0 ≤ n ∧ n ≤ 18446744073709551615) (q : List Int) (q1 : BytS w B q) (q2 : OkB q) (q3 : q.length ≤ 300) (q4 : q.length ≤ d) (hoff : 0 ≤ off ∧ off ≤ 65535) (hsz : 0 ≤ size ∧ size ≤ 255) (hbd : b.length ≤ d) (hmd : d ≤ maxLen) (o : Nat) (ho : off % 320 = o) (ho' : o < 320) (hbig : b.length ≤ 300 ∧ q.length = b.length) (hz : size % 4 = 1) (hf : ¬ (o + 2 ≤ q.length)) : Calls Try.prog 4 #[.slice B b.length d, .int .u16 off, .int .u8 size, .int .u64 n, .bool bl] w (Fine w) := by
  have N := Lib.hid (mm_New w)
  have SH := Lib.hid l8_shown
  obtain ⟨_, _, b1, b2⟩ := at_parts (i := 5) (o := (o : Int)) (by omega) (by omega)
  have A1 := Lib.hid fun w' => mm_at 5 o w' _ rfl
  have MK := Lib.hid fun g w' (h : Mm w w' g []) (hb : BytS w' B q) => mm_Make 5 q B d bl false h hb q2 q4 hmd (by simp)
  rw [make_one 5 q bl false (by omega) (by omega)] at MK
  have hal : (PA.mk 5 q (List.replicate q.length bl) false).bl.length = (PA.mk 5 q (List.replicate q.length bl) false).b.length := by simp
  have hab : (PA.mk 5 q (List.replicate q.length bl) false).b = q := rfl
  have hid : (PA.mk 5 q (List.replicate q.length bl) false).id = 5 := rfl
  have hfx : (PA.mk 5 q (List.replicate q.length bl) false).fx = false := rfl
  generalize PA.mk 5 q (List.replicate q.length bl) false = a at *
  have e1 : pStore [a] (atI 5 o) 2 n = ([a], 80) := by
    have := store_one (a := a) (o := o) (s := 2) (n := n) (by omega) (by omega) rfl
    unfold stA at this
    rw [hid, hab, if_neg hf] at this
    exact this
  have e3 : pArea [a] 5 = (q, true) := by
    have := area_one a
    rw [hid, hab] at this
    exact this
  have S1 := Lib.hid fun g w' (h : Mm w w' g [a]) => mm_Store (atI 5 o) 2 n h ⟨b1, b2⟩ hn
  rw [e1] at S1
  have AR := Lib.hid fun g w' (h : Mm w w' g [a]) => mm_Area 5 h
  rw [e3] at AR
  have hf' : ¬ ((o : Int) + 2 ≤ q.length) := by omega
  clear e1 e3 hal hab hid hfx b1 b2 hf
  have HB := Lib.hid q1
  have HO := Lib.hid q2
  clear q1 q2
  unfold maxLen at hmd
  obtain ⟨hb1, hb2⟩ := hbig
  generalize hlen : q.length = m at *
  subst hb2
  have HLEN := Lib.hid hlen
  clear hlen
  generalize hnb : b.length = nb at *
  clear hnb
  have g1 : (nb : Int) ≤ 300 := by omega
  have g2 : min (nb : Int) 300 = nb := by omega
  have hf3 : ¬ ((o : Int) + 2 ≤ nb) := by omega
  clear hf'
  have o0 : (0 : Int) ≤ o := by omega
  have md : (nb : Int) ≤ d := by omega
  have nd : (nb : Int) ≤ d := by omega
  generalize atI 5 (o : Int) = a1 at *
  go_enter Try.func4, Try.ntmps4
  go_wp2_with fail
  refine (SH.out _).mono ?_
  rintro e w0 ⟨rfl, b0⟩
  have V := Lib.hid b0
  clear b0
  go_wp2_with fail
  refine (N.out _ V.out).mono ?_
  rintro e w1 ⟨g, rfl, q1⟩
  have Q := Lib.hid q1
  clear q1 V N SH
  go_wp2_with fail
  replace Q := Lib.hid (Q.out.after (below_alloc (Below.refl _ _) (.cells #[.int .i64 1, .int .i64 2, .int .i64 4, .int .i64 8] 3)))
  generalize w1.alloc (.cells #[.int .i64 1, .int .i64 2, .int .i64 4, .int .i64 8] 3) = wl at *
  refine (MK.out _ _ Q.out (HB.out.after Q.out.below)).mono ?_
  rintro e w2 ⟨rfl, q⟩
  replace Q := Lib.hid q
  clear q
  go_wp2_with fail
  refine (A1.out _).mono ?_
  rintro e w3 ⟨rfl, b⟩
  replace Q := Lib.hid (Q.out.after b)
  clear b
  go_wp2_with fail
  refine (S1.out _ _ Q.out).mono ?_
  rintro e w4 ⟨rfl, q⟩
  replace Q := Lib.hid q
  clear q
  go_wp2_with fail
  refine (AR.out _ _ Q.out).mono ?_
  rintro e w5 ⟨Ay, cy, rfl, hy, ky1, ky2, b⟩
  replace Q := Lib.hid (Q.out.after b)
  have HY := Lib.hid hy
  clear b hy
  dsimp only at ky1 ky2 ⊢
  try rw [HLEN.out] at ky1
  try rw [HLEN.out]
  clear S1 AR MK hz ho hoff hsz
  go_wp2_with fail
  go_loopw [79] (fun v wr => ∃ j : Nat, v = .int .i64 j ∧ j ≤ nb ∧ Hid (Mm w wr g [a] ∧ BytS wr Ay q)) (fun v wr => nb - (intOf v).toNat)
  case atStart => exact ⟨0, rfl, by omega, Lib.hid ⟨Q.out, HY.out⟩⟩
  case round =>
    clear Q HY
    obtain ⟨j, rfl, hj, QY⟩ := hrel
    have Q := Lib.hid QY.out.1
    have HY := Lib.hid QY.out.2
    clear QY
    have j0 : (0 : Int) ≤ j := by omega
    by_cases hlt : (j : Int) < nb
    · obtain ⟨gx, ox, rfl, hgx, hcx⟩ := (HB.out.after Q.out.below) (by rw [HLEN.out]; omega)
      obtain ⟨gy, oy, rfl, hgy, hcy⟩ := HY.out (by rw [HLEN.out]; omega)
      have cx := hcx j (by rw [HLEN.out]; omega)
      have cyy := hcy j (by rw [HLEN.out]; omega)
      clear hcx hcy
      generalize bAt q j = z at *
      have hzz : (z != z) = false := by simp
      go_wp2_with fail
      go_quiet (fail)
      go_wp2_with fail
      go_round
      case rel => exact ⟨j + 1, by go_num, by omega, Lib.hid ⟨Q.out.after (below_drewN (Below.refl _ _) _), HY.out.after (below_drewN (Below.refl _ _) _)⟩⟩
      case measure => simp [intOf]; omega
    · have hge : (nb : Int) ≤ j := by omega
      go_wp2_with fail
      go_ret
      exact ⟨rfl, Q.out.below⟩

set_option maxRecDepth 100000 in
set_option maxHeartbeats 4000000 in
theorem l8_MemKeeps_2nb (b : List Int) (B : Option Addr) (d : Nat) (off size n : Int) (bl : Bool) (w : World) (hn : 0 ≤ n ∧ n ≤ 18446744073709551615) (q : List Int) (q1 : BytS w B q) (q2 : OkB q) (q3 : q.length ≤ 300) (q4 : q.length ≤ d) (hoff : 0 ≤ off ∧ off ≤ 65535) (hsz : 0 ≤ size ∧ size ≤ 255) (hbd : b.length ≤ d) (hmd : d ≤ maxLen) (o : Nat) (ho : off % 320 = o) (ho' : o < 320) (hbig : 300 < b.length ∧ q.length = 300) (hz : size % 4 = 1) (hf : ¬ (o + 2 ≤ q.length)) : Calls Try.prog 4 #[.slice B b.length d, .int .u16 off, .int .u8 size, .int .u64 n, .bool bl] w (Fine w) := by
  have N := Lib.hid (mm_New w)
  have SH := Lib.hid l8_shown
  obtain ⟨_, _, b1, b2⟩ := at_parts (i := 5) (o := (o : Int)) (by omega) (by omega)
  have A1 := Lib.hid fun w' => mm_at 5 o w' _ rfl
  have MK := Lib.hid fun g w' (h : Mm w w' g []) (hb : BytS w' B q) => mm_Make 5 q B d bl false h hb q2 q4 hmd (by simp)
  rw [make_one 5 q bl false (by omega) (by omega)] at MK
  have hal : (PA.mk 5 q (List.replicate q.length bl) false).bl.length = (PA.mk 5 q (List.replicate q.length bl) false).b.length := by simp
  have hab : (PA.mk 5 q (List.replicate q.length bl) false).b = q := rfl
  have hid : (PA.mk 5 q (List.replicate q.length bl) false).id = 5 := rfl
  have hfx : (PA.mk 5 q (List.replicate q.length bl) false).fx = false := rfl
  generalize PA.mk 5 q (List.replicate q.length bl) false = a at *
  have e1 : pStore [a] (atI 5 o) 2 n = ([a], 80) := by
    have := store_one (a := a) (o := o) (s := 2) (n := n) (by omega) (by omega) rfl
    unfold stA at this
    rw [hid, hab, if_neg hf] at this
    exact this
  have e3 : pArea [a] 5 = (q, true) := by
    have := area_one a
    rw [hid, hab] at this
    exact this
  have S1 := Lib.hid fun g w' (h : Mm w w' g [a]) => mm_Store (atI 5 o) 2 n h ⟨b1, b2⟩ hn
  rw [e1] at S1
  have AR := Lib.hid fun g w' (h : Mm w w' g [a]) => mm_Area 5 h
  rw [e3] at AR
  have hf' : ¬ ((o : Int) + 2 ≤ q.length) := by omega
  clear e1 e3 hal hab hid hfx b1 b2 hf
  have HB := Lib.hid q1
  have HO := Lib.hid q2
  clear q1 q2
  unfold maxLen at hmd
  obtain ⟨hb1, hb2⟩ := hbig
  generalize hlen : q.length = m at *
  subst hb2
  have HLEN := Lib.hid hlen
  clear hlen
  generalize hnb : b.length = nb at *
  clear hnb
  have g1 : (300 : Int) < nb := by omega
  have g2 : min (nb : Int) 300 = 300 := by omega
  have hf3 : ¬ ((o : Int) + 2 ≤ 300) := by omega
  clear hf'
  have o0 : (0 : Int) ≤ o := by omega
  have md : (300 : Int) ≤ d := by omega
  have nd : (nb : Int) ≤ d := by omega
  generalize atI 5 (o : Int) = a1 at *
  go_enter Try.func4, Try.ntmps4
  go_wp2_with fail
  refine (SH.out _).mono ?_
  rintro e w0 ⟨rfl, b0⟩
  have V := Lib.hid b0
  clear b0
  go_wp2_with fail
  refine (N.out _ V.out).mono ?_
  rintro e w1 ⟨g, rfl, q1⟩
  have Q := Lib.hid q1
  clear q1 V N SH
  go_wp2_with fail
  replace Q := Lib.hid (Q.out.after (below_alloc (Below.refl _ _) (.cells #[.int .i64 1, .int .i64 2, .int .i64 4, .int .i64 8] 3)))
  generalize w1.alloc (.cells #[.int .i64 1, .int .i64 2, .int .i64 4, .int .i64 8] 3) = wl at *
  refine (MK.out _ _ Q.out (HB.out.after Q.out.below)).mono ?_
  rintro e w2 ⟨rfl, q⟩
  replace Q := Lib.hid q
  clear q
  go_wp2_with fail
  refine (A1.out _).mono ?_
  rintro e w3 ⟨rfl, b⟩
  replace Q := Lib.hid (Q.out.after b)
  clear b
  go_wp2_with fail
  refine (S1.out _ _ Q.out).mono ?_
  rintro e w4 ⟨rfl, q⟩
  replace Q := Lib.hid q
  clear q
  go_wp2_with fail
  refine (AR.out _ _ Q.out).mono ?_
  rintro e w5 ⟨Ay, cy, rfl, hy, ky1, ky2, b⟩
  replace Q := Lib.hid (Q.out.after b)
  have HY := Lib.hid hy
  clear b hy
  dsimp only at ky1 ky2 ⊢
  try rw [HLEN.out] at ky1
  try rw [HLEN.out]
  clear S1 AR MK hz ho hoff hsz
  go_wp2_with fail
  go_loopw [79] (fun v wr => ∃ j : Nat, v = .int .i64 j ∧ j ≤ 300 ∧ Hid (Mm w wr g [a] ∧ BytS wr Ay q)) (fun v wr => 300 - (intOf v).toNat)
  case atStart => exact ⟨0, rfl, by omega, Lib.hid ⟨Q.out, HY.out⟩⟩
  case round =>
    clear Q HY
    obtain ⟨j, rfl, hj, QY⟩ := hrel
    have Q := Lib.hid QY.out.1
    have HY := Lib.hid QY.out.2
    clear QY
    have j0 : (0 : Int) ≤ j := by omega
    by_cases hlt : (j : Int) < 300
    · obtain ⟨gx, ox, rfl, hgx, hcx⟩ := (HB.out.after Q.out.below) (by rw [HLEN.out]; omega)
      obtain ⟨gy, oy, rfl, hgy, hcy⟩ := HY.out (by rw [HLEN.out]; omega)
      have cx := hcx j (by rw [HLEN.out]; omega)
      have cyy := hcy j (by rw [HLEN.out]; omega)
      clear hcx hcy
      generalize bAt q j = z at *
      have hzz : (z != z) = false := by simp
      go_wp2_with fail
      go_quiet (fail)
      go_wp2_with fail
      go_round
      case rel => exact ⟨j + 1, by go_num, by omega, Lib.hid ⟨Q.out.after (below_drewN (Below.refl _ _) _), HY.out.after (below_drewN (Below.refl _ _) _)⟩⟩
      case measure => simp [intOf]; omega
    · have hge : (300 : Int) ≤ j := by omega
      go_wp2_with fail
      go_ret
      exact ⟨rfl, Q.out.below⟩

set_option maxRecDepth 100000 in
set_option maxHeartbeats 4000000 in
theorem l8_MemKeeps_4y (b : List Int) (B : Option Addr) (d : Nat) (off size n : Int) (bl : Bool) (w : World) (hn : 0 ≤ n ∧ n ≤ 18446744073709551615) (q : List Int) (q1 : BytS w B q) (q2 : OkB q) (q3 : q.length ≤ 300) (q4 : q.length ≤ d) (hoff : 0 ≤ off ∧ off ≤ 65535) (hsz : 0 ≤ size ∧ size ≤ 255) (hbd : b.length ≤ d) (hmd : d ≤ maxLen) (o : Nat) (ho : off % 320 = o) (ho' : o < 320) (hbig : b.length ≤ 300 ∧ q.length = b.length) (hz : size % 4 = 2) (hf : o + 4 ≤ q.length) : Calls Try.prog 4 #[.slice B b.length d, .int .u16 off, .int .u8 size, .int .u64 n, .bool bl] w (Fine w) := by
  have N := Lib.hid (mm_New w)
  have SH := Lib.hid l8_shown
  obtain ⟨_, _, b1, b2⟩ := at_parts (i := 5) (o := (o : Int)) (by omega) (by omega)
  have A1 := Lib.hid fun w' => mm_at 5 o w' _ rfl
  have MK := Lib.hid fun g w' (h : Mm w w' g []) (hb : BytS w' B q) => mm_Make 5 q B d bl false h hb q2 q4 hmd (by simp)
  rw [make_one 5 q bl false (by omega) (by omega)] at MK
  have hal : (PA.mk 5 q (List.replicate q.length bl) false).bl.length = (PA.mk 5 q (List.replicate q.length bl) false).b.length := by simp
  have hab : (PA.mk 5 q (List.replicate q.length bl) false).b = q := rfl
  have hid : (PA.mk 5 q (List.replicate q.length bl) false).id = 5 := rfl
  have hfx : (PA.mk 5 q (List.replicate q.length bl) false).fx = false := rfl
  generalize PA.mk 5 q (List.replicate q.length bl) false = a at *
  have e1 : pStore [a] (atI 5 o) 4 n = ([paSet a o 4 n], 0) := by
    have := store_in (a := a) (o := o) (s := 4) (n := n) (by omega) (by omega) (by omega) (by rw [hab]; exact hf) hfx
    rw [hid] at this
    exact this
  have e2 : pLoad [paSet a o 4 n] (atI 5 o) 4 = (n % 4294967296, 0) := by
    have := load_part (a := a) (o := o) (s := 4) (d := 0) (t := 4) (n := n) (by omega) (by omega) (by omega) (by rw [hab]; exact hf) hal (by omega)
    rw [hid] at this
    simp at this
    exact this
  have e3 : pArea [paSet a o 4 n] 5 = ((paSet a o 4 n).b, true) := by
    have := area_one (paSet a o 4 n)
    rw [show (paSet a o 4 n).id = a.id from rfl, hid] at this
    exact this
  have HL : Hid ((paSet a o 4 n).b.length = q.length) := Lib.hid (by rw [← hab]; exact putN_len _ _ _)
  have HR : Hid (∀ t, ¬ (o ≤ t ∧ t < o + 4) → bAt (paSet a o 4 n).b t = bAt q t) := Lib.hid fun t ht => by rw [set_rest (by rw [hab]; exact hf) ht, hab]
  have S1 := Lib.hid fun g w' (h : Mm w w' g [a]) => mm_Store (atI 5 o) 4 n h ⟨b1, b2⟩ hn
  rw [e1] at S1
  have L1 := Lib.hid fun g w' (h : Mm w w' g [paSet a o 4 n]) => mm_Load (atI 5 o) 4 h ⟨b1, b2⟩
  rw [e2] at L1
  have AR := Lib.hid fun g w' (h : Mm w w' g [paSet a o 4 n]) => mm_Area 5 h
  rw [e3] at AR
  have hand : bits .and .u64 n 4294967295 = n % 4294967296 := by
    have := and_low (n := n) (k := 32) hn (by omega)
    simpa using this
  have hf' : (o : Int) + 4 ≤ q.length := by omega
  clear e1 e2 e3 hal hab hid hfx b1 b2 hf
  generalize paSet a o 4 n = y at *
  have HB := Lib.hid q1
  have HO := Lib.hid q2
  clear q1 q2
  unfold maxLen at hmd
  obtain ⟨hb1, hb2⟩ := hbig
  generalize hlen : q.length = m at *
  subst hb2
  have HLEN := Lib.hid hlen
  clear hlen
  generalize hnb : b.length = nb at *
  clear hnb
  have g1 : (nb : Int) ≤ 300 := by omega
  have g2 : min (nb : Int) 300 = nb := by omega
  have hf3 : (o : Int) + 4 ≤ nb := by omega
  clear hf'
  have o0 : (0 : Int) ≤ o := by omega
  have md : (nb : Int) ≤ d := by omega
  have nd : (nb : Int) ≤ d := by omega
  generalize atI 5 (o : Int) = a1 at *
  go_enter Try.func4, Try.ntmps4
  go_wp2_with fail
  refine (SH.out _).mono ?_
  rintro e w0 ⟨rfl, b0⟩
  have V := Lib.hid b0
  clear b0
  go_wp2_with fail
  refine (N.out _ V.out).mono ?_
  rintro e w1 ⟨g, rfl, q1⟩
  have Q := Lib.hid q1
  clear q1 V N SH
  go_wp2_with fail
  replace Q := Lib.hid (Q.out.after (below_alloc (Below.refl _ _) (.cells #[.int .i64 1, .int .i64 2, .int .i64 4, .int .i64 8] 3)))
  generalize w1.alloc (.cells #[.int .i64 1, .int .i64 2, .int .i64 4, .int .i64 8] 3) = wl at *
  refine (MK.out _ _ Q.out (HB.out.after Q.out.below)).mono ?_
  rintro e w2 ⟨rfl, q⟩
  replace Q := Lib.hid q
  clear q
  go_wp2_with fail
  refine (A1.out _).mono ?_
  rintro e w3 ⟨rfl, b⟩
  replace Q := Lib.hid (Q.out.after b)
  clear b
  go_wp2_with fail
  refine (S1.out _ _ Q.out).mono ?_
  rintro e w4 ⟨rfl, q⟩
  replace Q := Lib.hid q
  clear q
  go_wp2_with fail
  refine (AR.out _ _ Q.out).mono ?_
  rintro e w5 ⟨Ay, cy, rfl, hy, ky1, ky2, b⟩
  replace Q := Lib.hid (Q.out.after b)
  have HY := Lib.hid hy
  clear b hy
  dsimp only at ky1 ky2 ⊢
  try rw [HL.out] at ky1
  try rw [HL.out]
  clear S1 AR MK hz ho hoff hsz
  go_wp2_with fail
  go_loopw [79] (fun v wr => ∃ j : Nat, v = .int .i64 j ∧ j ≤ nb ∧ Hid (Mm w wr g [y] ∧ BytS wr Ay y.b)) (fun v wr => nb - (intOf v).toNat)
  case atStart => exact ⟨0, rfl, by omega, Lib.hid ⟨Q.out, HY.out⟩⟩
  case round =>
    clear Q HY
    obtain ⟨j, rfl, hj, QY⟩ := hrel
    have Q := Lib.hid QY.out.1
    have HY := Lib.hid QY.out.2
    clear QY
    have j0 : (0 : Int) ≤ j := by omega
    by_cases hlt : (j : Int) < nb
    · obtain ⟨gx, ox, rfl, hgx, hcx⟩ := (HB.out.after Q.out.below) (by rw [HLEN.out]; omega)
      obtain ⟨gy, oy, rfl, hgy, hcy⟩ := HY.out (by rw [HL.out]; omega)
      have cx := hcx j (by rw [HLEN.out]; omega)
      have cyy := hcy j (by rw [HL.out]; omega)
      clear hcx hcy
      by_cases hin : o ≤ j ∧ j < o + 4
      · have t1 : decide ((j : Int) < o) = false := decide_eq_false (by omega)
        have t2 : decide ((o : Int) + 4 ≤ j) = false := decide_eq_false (by omega)
        have t3 : decide (j < o) = false := decide_eq_false (by omega)
        have t4 : decide (o + 4 ≤ j) = false := decide_eq_false (by omega)
        have t5 : ¬ (j : Int) < o := by omega
        have t6 : ¬ (o : Int) + 4 ≤ j := by omega
        generalize bAt y.b j = u at *
        generalize bAt q j = z at *
        cases huz : (u != z)
        · clear hin
          go_wp2_with fail
          go_quiet (fail)
          go_wp2_with fail
          go_round
          case rel => exact ⟨j + 1, by go_num, by omega, Lib.hid ⟨Q.out.after (below_drewN (Below.refl _ _) _), HY.out.after (below_drewN (Below.refl _ _) _)⟩⟩
          case measure => simp [intOf]; omega
        · clear hin
          go_wp2_with fail
          go_quiet (fail)
          go_wp2_with fail
          go_round
          case rel => exact ⟨j + 1, by go_num, by omega, Lib.hid ⟨Q.out.after (below_drewN (Below.refl _ _) _), HY.out.after (below_drewN (Below.refl _ _) _)⟩⟩
          case measure => simp [intOf]; omega
      · rw [HR.out j hin] at cyy
        generalize bAt q j = z at *
        have hzz : (z != z) = false := by simp
        go_wp2_with fail
        go_quiet (fail)
        go_wp2_with fail
        go_round
        case rel => exact ⟨j + 1, by go_num, by omega, Lib.hid ⟨Q.out.after (below_drewN (Below.refl _ _) _), HY.out.after (below_drewN (Below.refl _ _) _)⟩⟩
        case measure => simp [intOf]; omega
    · have hge : (nb : Int) ≤ j := by omega
      go_wp2_with fail
      refine (A1.out _).mono ?_
      rintro e w6 ⟨rfl, b⟩
      replace Q := Lib.hid (Q.out.after b)
      clear b
      go_wp2_with fail
      refine (L1.out _ _ Q.out).mono ?_
      rintro e w7 ⟨rfl, b⟩
      replace Q := Lib.hid (Q.out.after b)
      clear b
      go_wp2_with fail
      go_ret
      exact ⟨rfl, Q.out.below⟩

set_option maxRecDepth 100000 in
set_option maxHeartbeats 4000000 in
theorem l8_MemKeeps_4yb (b : List Int) (B : Option Addr) (d : Nat) (off size n : Int) (bl : Bool) (w : World) (hn : 0 ≤ n ∧ n ≤ 18446744073709551615) (q : List Int) (q1 : BytS w B q) (q2 : OkB q) (q3 : q.length ≤ 300) (q4 : q.length ≤ d) (hoff : 0 ≤ off ∧ off ≤ 65535) (hsz : 0 ≤ size ∧ size ≤ 255) (hbd : b.length ≤ d) (hmd : d ≤ maxLen) (o : Nat) (ho : off % 320 = o) (ho' : o < 320) (hbig : 300 < b.length ∧ q.length = 300) (hz : size % 4 = 2) (hf : o + 4 ≤ q.length) : Calls Try.prog 4 #[.slice B b.length d, .int .u16 off, .int .u8 size, .int .u64 n, .bool bl] w (Fine w) := by
  have N := Lib.hid (mm_New w)
  have SH := Lib.hid l8_shown
  obtain ⟨_, _, b1, b2⟩ := at_parts (i := 5) (o := (o : Int)) (by omega) (by omega)
  have A1 := Lib.hid fun w' => mm_at 5 o w' _ rfl
  have MK := Lib.hid fun g w' (h : Mm w w' g []) (hb : BytS w' B q) => mm_Make 5 q B d bl false h hb q2 q4 hmd (by simp)
  rw [make_one 5 q bl false (by omega) (by omega)] at MK
  have hal : (PA.mk 5 q (List.replicate q.length bl) false).bl.length = (PA.mk 5 q (List.replicate q.length bl) false).b.length := by simp
  have hab : (PA.mk 5 q (List.replicate q.length bl) false).b = q := rfl
  have hid : (PA.mk 5 q (List.replicate q.length bl) false).id = 5 := rfl
  have hfx : (PA.mk 5 q (List.replicate q.length bl) false).fx = false := rfl
  generalize PA.mk 5 q (List.replicate q.length bl) false = a at *
  have e1 : pStore [a] (atI 5 o) 4 n = ([paSet a o 4 n], 0) := by
    have := store_in (a := a) (o := o) (s := 4) (n := n) (by omega) (by omega) (by omega) (by rw [hab]; exact hf) hfx
    rw [hid] at this
    exact this
  have e2 : pLoad [paSet a o 4 n] (atI 5 o) 4 = (n % 4294967296, 0) := by
    have := load_part (a := a) (o := o) (s := 4) (d := 0) (t := 4) (n := n) (by omega) (by omega) (by omega) (by rw [hab]; exact hf) hal (by omega)
    rw [hid] at this
    simp at this
    exact this
  have e3 : pArea [paSet a o 4 n] 5 = ((paSet a o 4 n).b, true) := by
    have := area_one (paSet a o 4 n)
    rw [show (paSet a o 4 n).id = a.id from rfl, hid] at this
    exact this
  have HL : Hid ((paSet a o 4 n).b.length = q.length) := Lib.hid (by rw [← hab]; exact putN_len _ _ _)
  have HR : Hid (∀ t, ¬ (o ≤ t ∧ t < o + 4) → bAt (paSet a o 4 n).b t = bAt q t) := Lib.hid fun t ht => by rw [set_rest (by rw [hab]; exact hf) ht, hab]
  have S1 := Lib.hid fun g w' (h : Mm w w' g [a]) => mm_Store (atI 5 o) 4 n h ⟨b1, b2⟩ hn
  rw [e1] at S1
  have L1 := Lib.hid fun g w' (h : Mm w w' g [paSet a o 4 n]) => mm_Load (atI 5 o) 4 h ⟨b1, b2⟩
  rw [e2] at L1
  have AR := Lib.hid fun g w' (h : Mm w w' g [paSet a o 4 n]) => mm_Area 5 h
  rw [e3] at AR
  have hand : bits .and .u64 n 4294967295 = n % 4294967296 := by
    have := and_low (n := n) (k := 32) hn (by omega)
    simpa using this
  have hf' : (o : Int) + 4 ≤ q.length := by omega
  clear e1 e2 e3 hal hab hid hfx b1 b2 hf
  generalize paSet a o 4 n = y at *
  have HB := Lib.hid q1
  have HO := Lib.hid q2
  clear q1 q2
  unfold maxLen at hmd
  obtain ⟨hb1, hb2⟩ := hbig
  generalize hlen : q.length = m at *
  subst hb2
  have HLEN := Lib.hid hlen
  clear hlen
  generalize hnb : b.length = nb at *
  clear hnb
  have g1 : (300 : Int) < nb := by omega
  have g2 : min (nb : Int) 300 = 300 := by omega
  have hf3 : (o : Int) + 4 ≤ 300 := by omega
  clear hf'
  have o0 : (0 : Int) ≤ o := by omega
  have md : (300 : Int) ≤ d := by omega
  have nd : (nb : Int) ≤ d := by omega
  generalize atI 5 (o : Int) = a1 at *
  go_enter Try.func4, Try.ntmps4
  go_wp2_with fail
  refine (SH.out _).mono ?_
  rintro e w0 ⟨rfl, b0⟩
  have V := Lib.hid b0
  clear b0
  go_wp2_with fail
  refine (N.out _ V.out).mono ?_
  rintro e w1 ⟨g, rfl, q1⟩
  have Q := Lib.hid q1
  clear q1 V N SH
  go_wp2_with fail
  replace Q := Lib.hid (Q.out.after (below_alloc (Below.refl _ _) (.cells #[.int .i64 1, .int .i64 2, .int .i64 4, .int .i64 8] 3)))
  generalize w1.alloc (.cells #[.int .i64 1, .int .i64 2, .int .i64 4, .int .i64 8] 3) = wl at *
  refine (MK.out _ _ Q.out (HB.out.after Q.out.below)).mono ?_
  rintro e w2 ⟨rfl, q⟩
  replace Q := Lib.hid q
  clear q
  go_wp2_with fail
  refine (A1.out _).mono ?_
  rintro e w3 ⟨rfl, b⟩
  replace Q := Lib.hid (Q.out.after b)
  clear b
  go_wp2_with fail
  refine (S1.out _ _ Q.out).mono ?_
  rintro e w4 ⟨rfl, q⟩
  replace Q := Lib.hid q
  clear q
  go_wp2_with fail
  refine (AR.out _ _ Q.out).mono ?_
  rintro e w5 ⟨Ay, cy, rfl, hy, ky1, ky2, b⟩
  replace Q := Lib.hid (Q.out.after b)
  have HY := Lib.hid hy
  clear b hy
  dsimp only at ky1 ky2 ⊢
  try rw [HL.out] at ky1
  try rw [HL.out]
  clear S1 AR MK hz ho hoff hsz
  go_wp2_with fail
  go_loopw [79] (fun v wr => ∃ j : Nat, v = .int .i64 j ∧ j ≤ 300 ∧ Hid (Mm w wr g [y] ∧ BytS wr Ay y.b)) (fun v wr => 300 - (intOf v).toNat)
  case atStart => exact ⟨0, rfl, by omega, Lib.hid ⟨Q.out, HY.out⟩⟩
  case round =>
    clear Q HY
    obtain ⟨j, rfl, hj, QY⟩ := hrel
    have Q := Lib.hid QY.out.1
    have HY := Lib.hid QY.out.2
    clear QY
    have j0 : (0 : Int) ≤ j := by omega
    by_cases hlt : (j : Int) < 300
    · obtain ⟨gx, ox, rfl, hgx, hcx⟩ := (HB.out.after Q.out.below) (by rw [HLEN.out]; omega)
      obtain ⟨gy, oy, rfl, hgy, hcy⟩ := HY.out (by rw [HL.out]; omega)
      have cx := hcx j (by rw [HLEN.out]; omega)
      have cyy := hcy j (by rw [HL.out]; omega)
      clear hcx hcy
      by_cases hin : o ≤ j ∧ j < o + 4
      · have t1 : decide ((j : Int) < o) = false := decide_eq_false (by omega)
        have t2 : decide ((o : Int) + 4 ≤ j) = false := decide_eq_false (by omega)
        have t3 : decide (j < o) = false := decide_eq_false (by omega)
        have t4 : decide (o + 4 ≤ j) = false := decide_eq_false (by omega)
        have t5 : ¬ (j : Int) < o := by omega
        have t6 : ¬ (o : Int) + 4 ≤ j := by omega
        generalize bAt y.b j = u at *
        generalize bAt q j = z at *
        cases huz : (u != z)
        · clear hin
          go_wp2_with fail
          go_quiet (fail)
          go_wp2_with fail
          go_round
          case rel => exact ⟨j + 1, by go_num, by omega, Lib.hid ⟨Q.out.after (below_drewN (Below.refl _ _) _), HY.out.after (below_drewN (Below.refl _ _) _)⟩⟩
          case measure => simp [intOf]; omega
        · clear hin
          go_wp2_with fail
          go_quiet (fail)
          go_wp2_with fail
          go_round
          case rel => exact ⟨j + 1, by go_num, by omega, Lib.hid ⟨Q.out.after (below_drewN (Below.refl _ _) _), HY.out.after (below_drewN (Below.refl _ _) _)⟩⟩
          case measure => simp [intOf]; omega
      · rw [HR.out j hin] at cyy
        generalize bAt q j = z at *
        have hzz : (z != z) = false := by simp
        go_wp2_with fail
        go_quiet (fail)
        go_wp2_with fail
        go_round
        case rel => exact ⟨j + 1, by go_num, by omega, Lib.hid ⟨Q.out.after (below_drewN (Below.refl _ _) _), HY.out.after (below_drewN (Below.refl _ _) _)⟩⟩
        case measure => simp [intOf]; omega
    · have hge : (300 : Int) ≤ j := by omega
      go_wp2_with fail
      refine (A1.out _).mono ?_
      rintro e w6 ⟨rfl, b⟩
      replace Q := Lib.hid (Q.out.after b)
      clear b
      go_wp2_with fail
      refine (L1.out _ _ Q.out).mono ?_
      rintro e w7 ⟨rfl, b⟩
      replace Q := Lib.hid (Q.out.after b)
      clear b
      go_wp2_with fail
      go_ret
      exact ⟨rfl, Q.out.below⟩

set_option maxRecDepth 100000 in
set_option maxHeartbeats 4000000 in
theorem l8_MemKeeps_4n (b : List Int) (B : Option Addr) (d : Nat) (off size n : Int) (bl : Bool) (w : World) (hn : 0 ≤ n ∧ n ≤ 18446744073709551615) (q : List Int) (q1 : BytS w B q) (q2 : OkB q) (q3 : q.length ≤ 300) (q4 : q.length ≤ d) (hoff : 0 ≤ off ∧ off ≤ 65535) (hsz : 0 ≤ size ∧ size ≤ 255) (hbd : b.length ≤ d) (hmd : d ≤ maxLen) (o : Nat) (ho : off % 320 = o) (ho' : o < 320) (hbig : b.length ≤ 300 ∧ q.length = b.length) (hz : size % 4 = 2) (hf : ¬ (o + 4 ≤ q.length)) : Calls Try.prog 4 #[.slice B b.length d, .int .u16 off, .int .u8 size, .int .u64 n, .bool bl] w (Fine w) := by
  have N := Lib.hid (mm_New w)
  have SH := Lib.hid l8_shown
  obtain ⟨_, _, b1, b2⟩ := at_parts (i := 5) (o := (o : Int)) (by omega) (by omega)
  have A1 := Lib.hid fun w' => mm_at 5 o w' _ rfl
  have MK := Lib.hid fun g w' (h : Mm w w' g []) (hb : BytS w' B q) => mm_Make 5 q B d bl false h hb q2 q4 hmd (by simp)
  rw [make_one 5 q bl false (by omega) (by omega)] at MK
  have hal : (PA.mk 5 q (List.replicate q.length bl) false).bl.length = (PA.mk 5 q (List.replicate q.length bl) false).b.length := by simp
  have hab : (PA.mk 5 q (List.replicate q.length bl) false).b = q := rfl
  have hid : (PA.mk 5 q (List.replicate q.length bl) false).id = 5 := rfl
  have hfx : (PA.mk 5 q (List.replicate q.length bl) false).fx = false := rfl
  generalize PA.mk 5 q (List.replicate q.length bl) false = a at *
  have e1 : pStore [a] (atI 5 o) 4 n = ([a], 80) := by
    have := store_one (a := a) (o := o) (s := 4) (n := n) (by omega) (by omega) rfl
    unfold stA at this
    rw [hid, hab, if_neg hf] at this
    exact this
  have e3 : pArea [a] 5 = (q, true) := by
    have := area_one a
    rw [hid, hab] at this
    exact this
  have S1 := Lib.hid fun g w' (h : Mm w w' g [a]) => mm_Store (atI 5 o) 4 n h ⟨b1, b2⟩ hn
  rw [e1] at S1
  have AR := Lib.hid fun g w' (h : Mm w w' g [a]) => mm_Area 5 h
  rw [e3] at AR
  have hf' : ¬ ((o : Int) + 4 ≤ q.length) := by omega
  clear e1 e3 hal hab hid hfx b1 b2 hf
  have HB := Lib.hid q1
  have HO := Lib.hid q2
  clear q1 q2
  unfold maxLen at hmd
  obtain ⟨hb1, hb2⟩ := hbig
  generalize hlen : q.length = m at *
  subst hb2
  have HLEN := Lib.hid hlen
  clear hlen
  generalize hnb : b.length = nb at *
  clear hnb
  have g1 : (nb : Int) ≤ 300 := by omega
  have g2 : min (nb : Int) 300 = nb := by omega
  have hf3 : ¬ ((o : Int) + 4 ≤ nb) := by omega
  clear hf'
  have o0 : (0 : Int) ≤ o := by omega
  have md : (nb : Int) ≤ d := by omega
  have nd : (nb : Int) ≤ d := by omega
  generalize atI 5 (o : Int) = a1 at *
  go_enter Try.func4, Try.ntmps4
  go_wp2_with fail
  refine (SH.out _).mono ?_
  rintro e w0 ⟨rfl, b0⟩
  have V := Lib.hid b0
  clear b0
  go_wp2_with fail
  refine (N.out _ V.out).mono ?_
  rintro e w1 ⟨g, rfl, q1⟩
  have Q := Lib.hid q1
  clear q1 V N SH
  go_wp2_with fail
  replace Q := Lib.hid (Q.out.after (below_alloc (Below.refl _ _) (.cells #[.int .i64 1, .int .i64 2, .int .i64 4, .int .i64 8] 3)))
  generalize w1.alloc (.cells #[.int .i64 1, .int .i64 2, .int .i64 4, .int .i64 8] 3) = wl at *
  refine (MK.out _ _ Q.out (HB.out.after Q.out.below)).mono ?_
  rintro e w2 ⟨rfl, q⟩
  replace Q := Lib.hid q
  clear q
  go_wp2_with fail
  refine (A1.out _).mono ?_
  rintro e w3 ⟨rfl, b⟩
  replace Q := Lib.hid (Q.out.after b)
  clear b
  go_wp2_with fail
  refine (S1.out _ _ Q.out).mono ?_
  rintro e w4 ⟨rfl, q⟩
  replace Q := Lib.hid q
  clear q
  go_wp2_with fail
  refine (AR.out _ _ Q.out).mono ?_
  rintro e w5 ⟨Ay, cy, rfl, hy, ky1, ky2, b⟩
  replace Q := Lib.hid (Q.out.after b)
  have HY := Lib.hid hy
  clear b hy
  dsimp only at ky1 ky2 ⊢
  try rw [HLEN.out] at ky1
  try rw [HLEN.out]
  clear S1 AR MK hz ho hoff hsz
  go_wp2_with fail
  go_loopw [79] (fun v wr => ∃ j : Nat, v = .int .i64 j ∧ j ≤ nb ∧ Hid (Mm w wr g [a] ∧ BytS wr Ay q)) (fun v wr => nb - (intOf v).toNat)
  case atStart => exact ⟨0, rfl, by omega, Lib.hid ⟨Q.out, HY.out⟩⟩
  case round =>
    clear Q HY
    obtain ⟨j, rfl, hj, QY⟩ := hrel
    have Q := Lib.hid QY.out.1
    have HY := Lib.hid QY.out.2
    clear QY
    have j0 : (0 : Int) ≤ j := by omega
    by_cases hlt : (j : Int) < nb
    · obtain ⟨gx, ox, rfl, hgx, hcx⟩ := (HB.out.after Q.out.below) (by rw [HLEN.out]; omega)
      obtain ⟨gy, oy, rfl, hgy, hcy⟩ := HY.out (by rw [HLEN.out]; omega)
      have cx := hcx j (by rw [HLEN.out]; omega)
      have cyy := hcy j (by rw [HLEN.out]; omega)
      clear hcx hcy
      generalize bAt q j = z at *
      have hzz : (z != z) = false := by simp
      go_wp2_with fail
      go_quiet (fail)
      go_wp2_with fail
      go_round
      case rel => exact ⟨j + 1, by go_num, by omega, Lib.hid ⟨Q.out.after (below_drewN (Below.refl _ _) _), HY.out.after (below_drewN (Below.refl _ _) _)⟩⟩
      case measure => simp [intOf]; omega
    · have hge : (nb : Int) ≤ j := by omega
      go_wp2_with fail
      go_ret
      exact ⟨rfl, Q.out.below⟩

set_option maxRecDepth 100000 in
set_option maxHeartbeats 4000000 in
theorem l8_MemKeeps_4nb (b : List Int) (B : Option Addr) (d : Nat) (off size n : Int) (bl : Bool) (w : World) (hn : 0 ≤ n ∧ n ≤ 18446744073709551615) (q : List Int) (q1 : BytS w B q) (q2 : OkB q) (q3 : q.length ≤ 300) (q4 : q.length ≤ d) (hoff : 0 ≤ off ∧ off ≤ 65535) (hsz : 0 ≤ size ∧ size ≤ 255) (hbd : b.length ≤ d) (hmd : d ≤ maxLen) (o : Nat) (ho : off % 320 = o) (ho' : o < 320) (hbig : 300 < b.length ∧ q.length = 300) (hz : size % 4 = 2) (hf : ¬ (o + 4 ≤ q.length)) : Calls Try.prog 4 #[.slice B b.length d, .int .u16 off, .int .u8 size, .int .u64 n, .bool bl] w (Fine w) := by
  have N := Lib.hid (mm_New w)
  have SH := Lib.hid l8_shown
  obtain ⟨_, _, b1, b2⟩ := at_parts (i := 5) (o := (o : Int)) (by omega) (by omega)
  have A1 := Lib.hid fun w' => mm_at 5 o w' _ rfl
  have MK := Lib.hid fun g w' (h : Mm w w' g []) (hb : BytS w' B q) => mm_Make 5 q B d bl false h hb q2 q4 hmd (by simp)
  rw [make_one 5 q bl false (by omega) (by omega)] at MK
  have hal : (PA.mk 5 q (List.replicate q.length bl) false).bl.length = (PA.mk 5 q (List.replicate q.length bl) false).b.length := by simp
  have hab : (PA.mk 5 q (List.replicate q.length bl) false).b = q := rfl
  have hid : (PA.mk 5 q (List.replicate q.length bl) false).id = 5 := rfl
  have hfx : (PA.mk 5 q (List.replicate q.length bl) false).fx = false := rfl
  generalize PA.mk 5 q (List.replicate q.length bl) false = a at *
  have e1 : pStore [a] (atI 5 o) 4 n = ([a], 80) := by
    have := store_one (a := a) (o := o) (s := 4) (n := n) (by omega) (by omega) rfl
    unfold stA at this
    rw [hid, hab, if_neg hf] at this
    exact this
  have e3 : pArea [a] 5 = (q, true) := by
    have := area_one a
    rw [hid, hab] at this
    exact this
  have S1 := Lib.hid fun g w' (h : Mm w w' g [a]) => mm_Store (atI 5 o) 4 n h ⟨b1, b2⟩ hn
  rw [e1] at S1
  have AR := Lib.hid fun g w' (h : Mm w w' g [a]) => mm_Area 5 h
  rw [e3] at AR
  have hf' : ¬ ((o : Int) + 4 ≤ q.length) := by omega
  clear e1 e3 hal hab hid hfx b1 b2 hf
  have HB := Lib.hid q1
  have HO := Lib.hid q2
  clear q1 q2
  unfold maxLen at hmd
  obtain ⟨hb1, hb2⟩ := hbig
  generalize hlen : q.length = m at *
  subst hb2
  have HLEN := Lib.hid hlen
  clear hlen
  generalize hnb : b.length = nb at *
  clear hnb
  have g1 : (300 : Int) < nb := by omega
  have g2 : min (nb : Int) 300 = 300 := by omega
  have hf3 : ¬ ((o : Int) + 4 ≤ 300) := by omega
  clear hf'
  have o0 : (0 : Int) ≤ o := by omega
  have md : (300 : Int) ≤ d := by omega
  have nd : (nb : Int) ≤ d := by omega
  generalize atI 5 (o : Int) = a1 at *
  go_enter Try.func4, Try.ntmps4
  go_wp2_with fail
  refine (SH.out _).mono ?_
  rintro e w0 ⟨rfl, b0⟩
  have V := Lib.hid b0
  clear b0
  go_wp2_with fail
  refine (N.out _ V.out).mono ?_
  rintro e w1 ⟨g, rfl, q1⟩
  have Q := Lib.hid q1
  clear q1 V N SH
  go_wp2_with fail
  replace Q := Lib.hid (Q.out.after (below_alloc (Below.refl _ _) (.cells #[.int .i64 1, .int .i64 2, .int .i64 4, .int .i64 8] 3)))
  generalize w1.alloc (.cells #[.int .i64 1, .int .i64 2, .int .i64 4, .int .i64 8] 3) = wl at *
  refine (MK.out _ _ Q.out (HB.out.after Q.out.below)).mono ?_
  rintro e w2 ⟨rfl, q⟩
  replace Q := Lib.hid q
  clear q
  go_wp2_with fail
  refine (A1.out _).mono ?_
  rintro e w3 ⟨rfl, b⟩
  replace Q := Lib.hid (Q.out.after b)
  clear b
  go_wp2_with fail
  refine (S1.out _ _ Q.out).mono ?_
  rintro e w4 ⟨rfl, q⟩
  replace Q := Lib.hid q
  clear q
  go_wp2_with fail
  refine (AR.out _ _ Q.out).mono ?_
  rintro e w5 ⟨Ay, cy, rfl, hy, ky1, ky2, b⟩
  replace Q := Lib.hid (Q.out.after b)
  have HY := Lib.hid hy
  clear b hy
  dsimp only at ky1 ky2 ⊢
  try rw [HLEN.out] at ky1
  try rw [HLEN.out]
  clear S1 AR MK hz ho hoff hsz
  go_wp2_with fail
  go_loopw [79] (fun v wr => ∃ j : Nat, v = .int .i64 j ∧ j ≤ 300 ∧ Hid (Mm w wr g [a] ∧ BytS wr Ay q)) (fun v wr => 300 - (intOf v).toNat)
  case atStart => exact ⟨0, rfl, by omega, Lib.hid ⟨Q.out, HY.out⟩⟩
  case round =>
    clear Q HY
    obtain ⟨j, rfl, hj, QY⟩ := hrel
    have Q := Lib.hid QY.out.1
    have HY := Lib.hid QY.out.2
    clear QY
    have j0 : (0 : Int) ≤ j := by omega
    by_cases hlt : (j : Int) < 300
    · obtain ⟨gx, ox, rfl, hgx, hcx⟩ := (HB.out.after Q.out.below) (by rw [HLEN.out]; omega)
      obtain ⟨gy, oy, rfl, hgy, hcy⟩ := HY.out (by rw [HLEN.out]; omega)
      have cx := hcx j (by rw [HLEN.out]; omega)
      have cyy := hcy j (by rw [HLEN.out]; omega)
      clear hcx hcy
      generalize bAt q j = z at *
      have hzz : (z != z) = false := by simp
      go_wp2_with fail
      go_quiet (fail)
      go_wp2_with fail
      go_round
      case rel => exact ⟨j + 1, by go_num, by omega, Lib.hid ⟨Q.out.after (below_drewN (Below.refl _ _) _), HY.out.after (below_drewN (Below.refl _ _) _)⟩⟩
      case measure => simp [intOf]; omega
    · have hge : (300 : Int) ≤ j := by omega
      go_wp2_with fail
      go_ret
      exact ⟨rfl, Q.out.below⟩

set_option maxRecDepth 100000 in
set_option maxHeartbeats 4000000 in
theorem l8_MemKeeps_8y (b : List Int) (B : Option Addr) (d : Nat) (off size n : Int) (bl : Bool) (w : World) (hn : 0 ≤ n ∧ n ≤ 18446744073709551615) (q : List Int) (q1 : BytS w B q) (q2 : OkB q) (q3 : q.length ≤ 300) (q4 : q.length ≤ d) (hoff : 0 ≤ off ∧ off ≤ 65535) (hsz : 0 ≤ size ∧ size ≤ 255) (hbd : b.length ≤ d) (hmd : d ≤ maxLen) (o : Nat) (ho : off % 320 = o) (ho' : o < 320) (hbig : b.length ≤ 300 ∧ q.length = b.length) (hz : size % 4 = 3) (hf : o + 8 ≤ q.length) : Calls Try.prog 4 #[.slice B b.length d, .int .u16 off, .int .u8 size, .int .u64 n, .bool bl] w (Fine w) := by
  have N := Lib.hid (mm_New w)
  have SH := Lib.hid l8_shown
  obtain ⟨_, _, b1, b2⟩ := at_parts (i := 5) (o := (o : Int)) (by omega) (by omega)
  have A1 := Lib.hid fun w' => mm_at 5 o w' _ rfl
  have MK := Lib.hid fun g w' (h : Mm w w' g []) (hb : BytS w' B q) => mm_Make 5 q B d bl false h hb q2 q4 hmd (by simp)
  rw [make_one 5 q bl false (by omega) (by omega)] at MK
  have hal : (PA.mk 5 q (List.replicate q.length bl) false).bl.length = (PA.mk 5 q (List.replicate q.length bl) false).b.length := by simp
  have hab : (PA.mk 5 q (List.replicate q.length bl) false).b = q := rfl
  have hid : (PA.mk 5 q (List.replicate q.length bl) false).id = 5 := rfl
  have hfx : (PA.mk 5 q (List.replicate q.length bl) false).fx = false := rfl
  generalize PA.mk 5 q (List.replicate q.length bl) false = a at *
  have e1 : pStore [a] (atI 5 o) 8 n = ([paSet a o 8 n], 0) := by
    have := store_in (a := a) (o := o) (s := 8) (n := n) (by omega) (by omega) (by omega) (by rw [hab]; exact hf) hfx
    rw [hid] at this
    exact this
  have e2 : pLoad [paSet a o 8 n] (atI 5 o) 8 = (n % 18446744073709551616, 0) := by
    have := load_part (a := a) (o := o) (s := 8) (d := 0) (t := 8) (n := n) (by omega) (by omega) (by omega) (by rw [hab]; exact hf) hal (by omega)
    rw [hid] at this
    simp at this
    exact this
  have e3 : pArea [paSet a o 8 n] 5 = ((paSet a o 8 n).b, true) := by
    have := area_one (paSet a o 8 n)
    rw [show (paSet a o 8 n).id = a.id from rfl, hid] at this
    exact this
  have HL : Hid ((paSet a o 8 n).b.length = q.length) := Lib.hid (by rw [← hab]; exact putN_len _ _ _)
  have HR : Hid (∀ t, ¬ (o ≤ t ∧ t < o + 8) → bAt (paSet a o 8 n).b t = bAt q t) := Lib.hid fun t ht => by rw [set_rest (by rw [hab]; exact hf) ht, hab]
  have S1 := Lib.hid fun g w' (h : Mm w w' g [a]) => mm_Store (atI 5 o) 8 n h ⟨b1, b2⟩ hn
  rw [e1] at S1
  have L1 := Lib.hid fun g w' (h : Mm w w' g [paSet a o 8 n]) => mm_Load (atI 5 o) 8 h ⟨b1, b2⟩
  rw [e2] at L1
  have AR := Lib.hid fun g w' (h : Mm w w' g [paSet a o 8 n]) => mm_Area 5 h
  rw [e3] at AR
  have hand : bits .and .u64 n 18446744073709551615 = n % 18446744073709551616 := by
    have := and_low (n := n) (k := 64) hn (by omega)
    simpa using this
  have hf' : (o : Int) + 8 ≤ q.length := by omega
  clear e1 e2 e3 hal hab hid hfx b1 b2 hf
  generalize paSet a o 8 n = y at *
  have HB := Lib.hid q1
  have HO := Lib.hid q2
  clear q1 q2
  unfold maxLen at hmd
  obtain ⟨hb1, hb2⟩ := hbig
  generalize hlen : q.length = m at *
  subst hb2
  have HLEN := Lib.hid hlen
  clear hlen
  generalize hnb : b.length = nb at *
  clear hnb
  have g1 : (nb : Int) ≤ 300 := by omega
  have g2 : min (nb : Int) 300 = nb := by omega
  have hf3 : (o : Int) + 8 ≤ nb := by omega
  clear hf'
  have o0 : (0 : Int) ≤ o := by omega
  have md : (nb : Int) ≤ d := by omega
  have nd : (nb : Int) ≤ d := by omega
  generalize atI 5 (o : Int) = a1 at *
  go_enter Try.func4, Try.ntmps4
  go_wp2_with fail
  refine (SH.out _).mono ?_
  rintro e w0 ⟨rfl, b0⟩
  have V := Lib.hid b0
  clear b0
  go_wp2_with fail
  refine (N.out _ V.out).mono ?_
  rintro e w1 ⟨g, rfl, q1⟩
  have Q := Lib.hid q1
  clear q1 V N SH
  go_wp2_with fail
  replace Q := Lib.hid (Q.out.after (below_alloc (Below.refl _ _) (.cells #[.int .i64 1, .int .i64 2, .int .i64 4, .int .i64 8] 3)))
  generalize w1.alloc (.cells #[.int .i64 1, .int .i64 2, .int .i64 4, .int .i64 8] 3) = wl at *
  refine (MK.out _ _ Q.out (HB.out.after Q.out.below)).mono ?_
  rintro e w2 ⟨rfl, q⟩
  replace Q := Lib.hid q
  clear q
  go_wp2_with fail
  refine (A1.out _).mono ?_
  rintro e w3 ⟨rfl, b⟩
  replace Q := Lib.hid (Q.out.after b)
  clear b
  go_wp2_with fail
  refine (S1.out _ _ Q.out).mono ?_
  rintro e w4 ⟨rfl, q⟩
  replace Q := Lib.hid q
  clear q
  go_wp2_with fail
  refine (AR.out _ _ Q.out).mono ?_
  rintro e w5 ⟨Ay, cy, rfl, hy, ky1, ky2, b⟩
  replace Q := Lib.hid (Q.out.after b)
  have HY := Lib.hid hy
  clear b hy
  dsimp only at ky1 ky2 ⊢
  try rw [HL.out] at ky1
  try rw [HL.out]
  clear S1 AR MK hz ho hoff hsz
  go_wp2_with fail
  go_loopw [79] (fun v wr => ∃ j : Nat, v = .int .i64 j ∧ j ≤ nb ∧ Hid (Mm w wr g [y] ∧ BytS wr Ay y.b)) (fun v wr => nb - (intOf v).toNat)
  case atStart => exact ⟨0, rfl, by omega, Lib.hid ⟨Q.out, HY.out⟩⟩
  case round =>
    clear Q HY
    obtain ⟨j, rfl, hj, QY⟩ := hrel
    have Q := Lib.hid QY.out.1
    have HY := Lib.hid QY.out.2
    clear QY
    have j0 : (0 : Int) ≤ j := by omega
    by_cases hlt : (j : Int) < nb
    · obtain ⟨gx, ox, rfl, hgx, hcx⟩ := (HB.out.after Q.out.below) (by rw [HLEN.out]; omega)
      obtain ⟨gy, oy, rfl, hgy, hcy⟩ := HY.out (by rw [HL.out]; omega)
      have cx := hcx j (by rw [HLEN.out]; omega)
      have cyy := hcy j (by rw [HL.out]; omega)
      clear hcx hcy
      by_cases hin : o ≤ j ∧ j < o + 8
      · have t1 : decide ((j : Int) < o) = false := decide_eq_false (by omega)
        have t2 : decide ((o : Int) + 8 ≤ j) = false := decide_eq_false (by omega)
        have t3 : decide (j < o) = false := decide_eq_false (by omega)
        have t4 : decide (o + 8 ≤ j) = false := decide_eq_false (by omega)
        have t5 : ¬ (j : Int) < o := by omega
        have t6 : ¬ (o : Int) + 8 ≤ j := by omega
        generalize bAt y.b j = u at *
        generalize bAt q j = z at *
        cases huz : (u != z)
        · clear hin
          go_wp2_with fail
          go_quiet (fail)
          go_wp2_with fail
          go_round
          case rel => exact ⟨j + 1, by go_num, by omega, Lib.hid ⟨Q.out.after (below_drewN (Below.refl _ _) _), HY.out.after (below_drewN (Below.refl _ _) _)⟩⟩
          case measure => simp [intOf]; omega
        · clear hin
          go_wp2_with fail
          go_quiet (fail)
          go_wp2_with fail
          go_round
          case rel => exact ⟨j + 1, by go_num, by omega, Lib.hid ⟨Q.out.after (below_drewN (Below.refl _ _) _), HY.out.after (below_drewN (Below.refl _ _) _)⟩⟩
          case measure => simp [intOf]; omega
      · rw [HR.out j hin] at cyy
        generalize bAt q j = z at *
        have hzz : (z != z) = false := by simp
        go_wp2_with fail
        go_quiet (fail)
        go_wp2_with fail
        go_round
        case rel => exact ⟨j + 1, by go_num, by omega, Lib.hid ⟨Q.out.after (below_drewN (Below.refl _ _) _), HY.out.after (below_drewN (Below.refl _ _) _)⟩⟩
        case measure => simp [intOf]; omega
    · have hge : (nb : Int) ≤ j := by omega
      go_wp2_with fail
      refine (A1.out _).mono ?_
      rintro e w6 ⟨rfl, b⟩
      replace Q := Lib.hid (Q.out.after b)
      clear b
      go_wp2_with fail
      refine (L1.out _ _ Q.out).mono ?_
      rintro e w7 ⟨rfl, b⟩
      replace Q := Lib.hid (Q.out.after b)
      clear b
      go_wp2_with fail
      go_ret
      exact ⟨end_bool (by rw [show IntKind.u64.wrap (IntKind.u64.wrap 18446744073709551616 - 1) = 18446744073709551615 from rfl, hand, beq_self_eq_true]), Q.out.below⟩

set_option maxRecDepth 100000 in
set_option maxHeartbeats 4000000 in
theorem l8_MemKeeps_8yb (b : List Int) (B : Option Addr) (d : Nat) (off size n : Int) (bl : Bool) (w : World) (hn : 0 ≤ n ∧ n ≤ 18446744073709551615) (q : List Int) (q1 : BytS w B q) (q2 : OkB q) (q3 : q.length ≤ 300) (q4 : q.length ≤ d) (hoff : 0 ≤ off ∧ off ≤ 65535) (hsz : 0 ≤ size ∧ size ≤ 255) (hbd : b.length ≤ d) (hmd : d ≤ maxLen) (o : Nat) (ho : off % 320 = o) (ho' : o < 320) (hbig : 300 < b.length ∧ q.length = 300) (hz : size % 4 = 3) (hf : o + 8 ≤ q.length) : Calls Try.prog 4 #[.slice B b.length d, .int .u16 off, .int .u8 size, .int .u64 n, .bool bl] w (Fine w) := by
  have N := Lib.hid (mm_New w)
  have SH := Lib.hid l8_shown
  obtain ⟨_, _, b1, b2⟩ := at_parts (i := 5) (o := (o : Int)) (by omega) (by omega)
  have A1 := Lib.hid fun w' => mm_at 5 o w' _ rfl
  have MK := Lib.hid fun g w' (h : Mm w w' g []) (hb : BytS w' B q) => mm_Make 5 q B d bl false h hb q2 q4 hmd (by simp)
  rw [make_one 5 q bl false (by omega) (by omega)] at MK
  have hal : (PA.mk 5 q (List.replicate q.length bl) false).bl.length = (PA.mk 5 q (List.replicate q.length bl) false).b.length := by simp
  have hab : (PA.mk 5 q (List.replicate q.length bl) false).b = q := rfl
  have hid : (PA.mk 5 q (List.replicate q.length bl) false).id = 5 := rfl
  have hfx : (PA.mk 5 q (List.replicate q.length bl) false).fx = false := rfl
  generalize PA.mk 5 q (List.replicate q.length bl) false = a at *
  have e1 : pStore [a] (atI 5 o) 8 n = ([paSet a o 8 n], 0) := by
    have := store_in (a := a) (o := o) (s := 8) (n := n) (by omega) (by omega) (by omega) (by rw [hab]; exact hf) hfx
    rw [hid] at this
    exact this
  have e2 : pLoad [paSet a o 8 n] (atI 5 o) 8 = (n % 18446744073709551616, 0) := by
    have := load_part (a := a) (o := o) (s := 8) (d := 0) (t := 8) (n := n) (by omega) (by omega) (by omega) (by rw [hab]; exact hf) hal (by omega)
    rw [hid] at this
    simp at this
    exact this
  have e3 : pArea [paSet a o 8 n] 5 = ((paSet a o 8 n).b, true) := by
    have := area_one (paSet a o 8 n)
    rw [show (paSet a o 8 n).id = a.id from rfl, hid] at this
    exact this
  have HL : Hid ((paSet a o 8 n).b.length = q.length) := Lib.hid (by rw [← hab]; exact putN_len _ _ _)
  have HR : Hid (∀ t, ¬ (o ≤ t ∧ t < o + 8) → bAt (paSet a o 8 n).b t = bAt q t) := Lib.hid fun t ht => by rw [set_rest (by rw [hab]; exact hf) ht, hab]
  have S1 := Lib.hid fun g w' (h : Mm w w' g [a]) => mm_Store (atI 5 o) 8 n h ⟨b1, b2⟩ hn
  rw [e1] at S1
  have L1 := Lib.hid fun g w' (h : Mm w w' g [paSet a o 8 n]) => mm_Load (atI 5 o) 8 h ⟨b1, b2⟩
  rw [e2] at L1
  have AR := Lib.hid fun g w' (h : Mm w w' g [paSet a o 8 n]) => mm_Area 5 h
  rw [e3] at AR
  have hand : bits .and .u64 n 18446744073709551615 = n % 18446744073709551616 := by
    have := and_low (n := n) (k := 64) hn (by omega)
    simpa using this
  have hf' : (o : Int) + 8 ≤ q.length := by omega
  clear e1 e2 e3 hal hab hid hfx b1 b2 hf
  generalize paSet a o 8 n = y at *
  have HB := Lib.hid q1
  have HO := Lib.hid q2
  clear q1 q2
  unfold maxLen at hmd
  obtain ⟨hb1, hb2⟩ := hbig
  generalize hlen : q.length = m at *
  subst hb2
  have HLEN := Lib.hid hlen
  clear hlen
  generalize hnb : b.length = nb at *
  clear hnb
  have g1 : (300 : Int) < nb := by omega
  have g2 : min (nb : Int) 300 = 300 := by omega
  have hf3 : (o : Int) + 8 ≤ 300 := by omega
  clear hf'
  have o0 : (0 : Int) ≤ o := by omega
  have md : (300 : Int) ≤ d := by omega
  have nd : (nb : Int) ≤ d := by omega
  generalize atI 5 (o : Int) = a1 at *
  go_enter Try.func4, Try.ntmps4
  go_wp2_with fail
  refine (SH.out _).mono ?_
  rintro e w0 ⟨rfl, b0⟩
  have V := Lib.hid b0
  clear b0
  go_wp2_with fail
  refine (N.out _ V.out).mono ?_
  rintro e w1 ⟨g, rfl, q1⟩
  have Q := Lib.hid q1
  clear q1 V N SH
  go_wp2_with fail
  replace Q := Lib.hid (Q.out.after (below_alloc (Below.refl _ _) (.cells #[.int .i64 1, .int .i64 2, .int .i64 4, .int .i64 8] 3)))
  generalize w1.alloc (.cells #[.int .i64 1, .int .i64 2, .int .i64 4, .int .i64 8] 3) = wl at *
  refine (MK.out _ _ Q.out (HB.out.after Q.out.below)).mono ?_
  rintro e w2 ⟨rfl, q⟩
  replace Q := Lib.hid q
  clear q
  go_wp2_with fail
  refine (A1.out _).mono ?_
  rintro e w3 ⟨rfl, b⟩
  replace Q := Lib.hid (Q.out.after b)
  clear b
  go_wp2_with fail
  refine (S1.out _ _ Q.out).mono ?_
  rintro e w4 ⟨rfl, q⟩
  replace Q := Lib.hid q
  clear q
  go_wp2_with fail
  refine (AR.out _ _ Q.out).mono ?_
  rintro e w5 ⟨Ay, cy, rfl, hy, ky1, ky2, b⟩
  replace Q := Lib.hid (Q.out.after b)
  have HY := Lib.hid hy
  clear b hy
  dsimp only at ky1 ky2 ⊢
  try rw [HL.out] at ky1
  try rw [HL.out]
  clear S1 AR MK hz ho hoff hsz
  go_wp2_with fail
  go_loopw [79] (fun v wr => ∃ j : Nat, v = .int .i64 j ∧ j ≤ 300 ∧ Hid (Mm w wr g [y] ∧ BytS wr Ay y.b)) (fun v wr => 300 - (intOf v).toNat)
  case atStart => exact ⟨0, rfl, by omega, Lib.hid ⟨Q.out, HY.out⟩⟩
  case round =>
    clear Q HY
    obtain ⟨j, rfl, hj, QY⟩ := hrel
    have Q := Lib.hid QY.out.1
    have HY := Lib.hid QY.out.2
    clear QY
    have j0 : (0 : Int) ≤ j := by omega
    by_cases hlt : (j : Int) < 300
    · obtain ⟨gx, ox, rfl, hgx, hcx⟩ := (HB.out.after Q.out.below) (by rw [HLEN.out]; omega)
      obtain ⟨gy, oy, rfl, hgy, hcy⟩ := HY.out (by rw [HL.out]; omega)
      have cx := hcx j (by rw [HLEN.out]; omega)
      have cyy := hcy j (by rw [HL.out]; omega)
      clear hcx hcy
      by_cases hin : o ≤ j ∧ j < o + 8
      · have t1 : decide ((j : Int) < o) = false := decide_eq_false (by omega)
        have t2 : decide ((o : Int) + 8 ≤ j) = false := decide_eq_false (by omega)
        have t3 : decide (j < o) = false := decide_eq_false (by omega)
        have t4 : decide (o + 8 ≤ j) = false := decide_eq_false (by omega)
        have t5 : ¬ (j : Int) < o := by omega
        have t6 : ¬ (o : Int) + 8 ≤ j := by omega
        generalize bAt y.b j = u at *
        generalize bAt q j = z at *
        cases huz : (u != z)
        · clear hin
          go_wp2_with fail
          go_quiet (fail)
          go_wp2_with fail
          go_round
          case rel => exact ⟨j + 1, by go_num, by omega, Lib.hid ⟨Q.out.after (below_drewN (Below.refl _ _) _), HY.out.after (below_drewN (Below.refl _ _) _)⟩⟩
          case measure => simp [intOf]; omega
        · clear hin
          go_wp2_with fail
          go_quiet (fail)
          go_wp2_with fail
          go_round
          case rel => exact ⟨j + 1, by go_num, by omega, Lib.hid ⟨Q.out.after (below_drewN (Below.refl _ _) _), HY.out.after (below_drewN (Below.refl _ _) _)⟩⟩
          case measure => simp [intOf]; omega
      · rw [HR.out j hin] at cyy
        generalize bAt q j = z at *
        have hzz : (z != z) = false := by simp
        go_wp2_with fail
        go_quiet (fail)
        go_wp2_with fail
        go_round
        case rel => exact ⟨j + 1, by go_num, by omega, Lib.hid ⟨Q.out.after (below_drewN (Below.refl _ _) _), HY.out.after (below_drewN (Below.refl _ _) _)⟩⟩
        case measure => simp [intOf]; omega
    · have hge : (300 : Int) ≤ j := by omega
      go_wp2_with fail
      refine (A1.out _).mono ?_
      rintro e w6 ⟨rfl, b⟩
      replace Q := Lib.hid (Q.out.after b)
      clear b
      go_wp2_with fail
      refine (L1.out _ _ Q.out).mono ?_
      rintro e w7 ⟨rfl, b⟩
      replace Q := Lib.hid (Q.out.after b)
      clear b
      go_wp2_with fail
      go_ret
      exact ⟨end_bool (by rw [show IntKind.u64.wrap (IntKind.u64.wrap 18446744073709551616 - 1) = 18446744073709551615 from rfl, hand, beq_self_eq_true]), Q.out.below⟩

set_option maxRecDepth 100000 in
set_option maxHeartbeats 4000000 in
theorem l8_MemKeeps_8n (b : List Int) (B : Option Addr) (d : Nat) (off size n : Int) (bl : Bool) (w : World) (hn : 0 ≤ n ∧ n ≤ 18446744073709551615) (q : List Int) (q1 : BytS w B q) (q2 : OkB q) (q3 : q.length ≤ 300) (q4 : q.length ≤ d) (hoff : 0 ≤ off ∧ off ≤ 65535) (hsz : 0 ≤ size ∧ size ≤ 255) (hbd : b.length ≤ d) (hmd : d ≤ maxLen) (o : Nat) (ho : off % 320 = o) (ho' : o < 320) (hbig : b.length ≤ 300 ∧ q.length = b.length) (hz : size % 4 = 3) (hf : ¬ (o + 8 ≤ q.length)) : Calls Try.prog 4 #[.slice B b.length d, .int .u16 off, .int .u8 size, .int .u64 n, .bool bl] w (Fine w) := by
  have N := Lib.hid (mm_New w)
  have SH := Lib.hid l8_shown
  obtain ⟨_, _, b1, b2⟩ := at_parts (i := 5) (o := (o : Int)) (by omega) (by omega)
  have A1 := Lib.hid fun w' => mm_at 5 o w' _ rfl
  have MK := Lib.hid fun g w' (h : Mm w w' g []) (hb : BytS w' B q) => mm_Make 5 q B d bl false h hb q2 q4 hmd (by simp)
  rw [make_one 5 q bl false (by omega) (by omega)] at MK
  have hal : (PA.mk 5 q (List.replicate q.length bl) false).bl.length = (PA.mk 5 q (List.replicate q.length bl) false).b.length := by simp
  have hab : (PA.mk 5 q (List.replicate q.length bl) false).b = q := rfl
  have hid : (PA.mk 5 q (List.replicate q.length bl) false).id = 5 := rfl
  have hfx : (PA.mk 5 q (List.replicate q.length bl) false).fx = false := rfl
  generalize PA.mk 5 q (List.replicate q.length bl) false = a at *
  have e1 : pStore [a] (atI 5 o) 8 n = ([a], 80) := by
    have := store_one (a := a) (o := o) (s := 8) (n := n) (by omega) (by omega) rfl
    unfold stA at this
    rw [hid, hab, if_neg hf] at this
    exact this
  have e3 : pArea [a] 5 = (q, true) := by
    have := area_one a
    rw [hid, hab] at this
    exact this
  have S1 := Lib.hid fun g w' (h : Mm w w' g [a]) => mm_Store (atI 5 o) 8 n h ⟨b1, b2⟩ hn
  rw [e1] at S1
  have AR := Lib.hid fun g w' (h : Mm w w' g [a]) => mm_Area 5 h
  rw [e3] at AR
  have hf' : ¬ ((o : Int) + 8 ≤ q.length) := by omega
  clear e1 e3 hal hab hid hfx b1 b2 hf
  have HB := Lib.hid q1
  have HO := Lib.hid q2
  clear q1 q2
  unfold maxLen at hmd
  obtain ⟨hb1, hb2⟩ := hbig
  generalize hlen : q.length = m at *
  subst hb2
  have HLEN := Lib.hid hlen
  clear hlen
  generalize hnb : b.length = nb at *
  clear hnb
  have g1 : (nb : Int) ≤ 300 := by omega
  have g2 : min (nb : Int) 300 = nb := by omega
  have hf3 : ¬ ((o : Int) + 8 ≤ nb) := by omega
  clear hf'
  have o0 : (0 : Int) ≤ o := by omega
  have md : (nb : Int) ≤ d := by omega
  have nd : (nb : Int) ≤ d := by omega
  generalize atI 5 (o : Int) = a1 at *
  go_enter Try.func4, Try.ntmps4
  go_wp2_with fail
  refine (SH.out _).mono ?_
  rintro e w0 ⟨rfl, b0⟩
  have V := Lib.hid b0
  clear b0
  go_wp2_with fail
  refine (N.out _ V.out).mono ?_
  rintro e w1 ⟨g, rfl, q1⟩
  have Q := Lib.hid q1
  clear q1 V N SH
  go_wp2_with fail
  replace Q := Lib.hid (Q.out.after (below_alloc (Below.refl _ _) (.cells #[.int .i64 1, .int .i64 2, .int .i64 4, .int .i64 8] 3)))
  generalize w1.alloc (.cells #[.int .i64 1, .int .i64 2, .int .i64 4, .int .i64 8] 3) = wl at *
  refine (MK.out _ _ Q.out (HB.out.after Q.out.below)).mono ?_
  rintro e w2 ⟨rfl, q⟩
  replace Q := Lib.hid q
  clear q
  go_wp2_with fail
  refine (A1.out _).mono ?_
  rintro e w3 ⟨rfl, b⟩
  replace Q := Lib.hid (Q.out.after b)
  clear b
  go_wp2_with fail
  refine (S1.out _ _ Q.out).mono ?_
  rintro e w4 ⟨rfl, q⟩
  replace Q := Lib.hid q
  clear q
  go_wp2_with fail
  refine (AR.out _ _ Q.out).mono ?_
  rintro e w5 ⟨Ay, cy, rfl, hy, ky1, ky2, b⟩
  replace Q := Lib.hid (Q.out.after b)
  have HY := Lib.hid hy
  clear b hy
  dsimp only at ky1 ky2 ⊢
  try rw [HLEN.out] at ky1
  try rw [HLEN.out]
  clear S1 AR MK hz ho hoff hsz
  go_wp2_with fail
  go_loopw [79] (fun v wr => ∃ j : Nat, v = .int .i64 j ∧ j ≤ nb ∧ Hid (Mm w wr g [a] ∧ BytS wr Ay q)) (fun v wr => nb - (intOf v).toNat)
  case atStart => exact ⟨0, rfl, by omega, Lib.hid ⟨Q.out, HY.out⟩⟩
  case round =>
    clear Q HY
    obtain ⟨j, rfl, hj, QY⟩ := hrel
    have Q := Lib.hid QY.out.1
    have HY := Lib.hid QY.out.2
    clear QY
    have j0 : (0 : Int) ≤ j := by omega
    by_cases hlt : (j : Int) < nb
    · obtain ⟨gx, ox, rfl, hgx, hcx⟩ := (HB.out.after Q.out.below) (by rw [HLEN.out]; omega)
      obtain ⟨gy, oy, rfl, hgy, hcy⟩ := HY.out (by rw [HLEN.out]; omega)
      have cx := hcx j (by rw [HLEN.out]; omega)
      have cyy := hcy j (by rw [HLEN.out]; omega)
      clear hcx hcy
      generalize bAt q j = z at *
      have hzz : (z != z) = false := by simp
      go_wp2_with fail
      go_quiet (fail)
      go_wp2_with fail
      go_round
      case rel => exact ⟨j + 1, by go_num, by omega, Lib.hid ⟨Q.out.after (below_drewN (Below.refl _ _) _), HY.out.after (below_drewN (Below.refl _ _) _)⟩⟩
      case measure => simp [intOf]; omega
    · have hge : (nb : Int) ≤ j := by omega
      go_wp2_with fail
      go_ret
      exact ⟨rfl, Q.out.below⟩

set_option maxRecDepth 100000 in
set_option maxHeartbeats 4000000 in
theorem l8_MemKeeps_8nb (b : List Int) (B : Option Addr) (d : Nat) (off size n : Int) (bl : Bool) (w : World) (hn : 0 ≤ n ∧ n ≤ 18446744073709551615) (q : List Int) (q1 : BytS w B q) (q2 : OkB q) (q3 : q.length ≤ 300) (q4 : q.length ≤ d) (hoff : 0 ≤ off ∧ off ≤ 65535) (hsz : 0 ≤ size ∧ size ≤ 255) (hbd : b.length ≤ d) (hmd : d ≤ maxLen) (o : Nat) (ho : off % 320 = o) (ho' : o < 320) (hbig : 300 < b.length ∧ q.length = 300) (hz : size % 4 = 3) (hf : ¬ (o + 8 ≤ q.length)) : Calls Try.prog 4 #[.slice B b.length d, .int .u16 off, .int .u8 size, .int .u64 n, .bool bl] w (Fine w) := by
  have N := Lib.hid (mm_New w)
  have SH := Lib.hid l8_shown
  obtain ⟨_, _, b1, b2⟩ := at_parts (i := 5) (o := (o : Int)) (by omega) (by omega)
  have A1 := Lib.hid fun w' => mm_at 5 o w' _ rfl
  have MK := Lib.hid fun g w' (h : Mm w w' g []) (hb : BytS w' B q) => mm_Make 5 q B d bl false h hb q2 q4 hmd (by simp)
  rw [make_one 5 q bl false (by omega) (by omega)] at MK
  have hal : (PA.mk 5 q (List.replicate q.length bl) false).bl.length = (PA.mk 5 q (List.replicate q.length bl) false).b.length := by simp
  have hab : (PA.mk 5 q (List.replicate q.length bl) false).b = q := rfl
  have hid : (PA.mk 5 q (List.replicate q.length bl) false).id = 5 := rfl
  have hfx : (PA.mk 5 q (List.replicate q.length bl) false).fx = false := rfl
  generalize PA.mk 5 q (List.replicate q.length bl) false = a at *
  have e1 : pStore [a] (atI 5 o) 8 n = ([a], 80) := by
    have := store_one (a := a) (o := o) (s := 8) (n := n) (by omega) (by omega) rfl
    unfold stA at this
    rw [hid, hab, if_neg hf] at this
    exact this
  have e3 : pArea [a] 5 = (q, true) := by
    have := area_one a
    rw [hid, hab] at this
    exact this
  have S1 := Lib.hid fun g w' (h : Mm w w' g [a]) => mm_Store (atI 5 o) 8 n h ⟨b1, b2⟩ hn
  rw [e1] at S1
  have AR := Lib.hid fun g w' (h : Mm w w' g [a]) => mm_Area 5 h
  rw [e3] at AR
  have hf' : ¬ ((o : Int) + 8 ≤ q.length) := by omega
  clear e1 e3 hal hab hid hfx b1 b2 hf
  have HB := Lib.hid q1
  have HO := Lib.hid q2
  clear q1 q2
  unfold maxLen at hmd
  obtain ⟨hb1, hb2⟩ := hbig
  generalize hlen : q.length = m at *
  subst hb2
  have HLEN := Lib.hid hlen
  clear hlen
  generalize hnb : b.length = nb at *
  clear hnb
  have g1 : (300 : Int) < nb := by omega
  have g2 : min (nb : Int) 300 = 300 := by omega
  have hf3 : ¬ ((o : Int) + 8 ≤ 300) := by omega
  clear hf'
  have o0 : (0 : Int) ≤ o := by omega
  have md : (300 : Int) ≤ d := by omega
  have nd : (nb : Int) ≤ d := by omega
  generalize atI 5 (o : Int) = a1 at *
  go_enter Try.func4, Try.ntmps4
  go_wp2_with fail
  refine (SH.out _).mono ?_
  rintro e w0 ⟨rfl, b0⟩
  have V := Lib.hid b0
  clear b0
  go_wp2_with fail
  refine (N.out _ V.out).mono ?_
  rintro e w1 ⟨g, rfl, q1⟩
  have Q := Lib.hid q1
  clear q1 V N SH
  go_wp2_with fail
  replace Q := Lib.hid (Q.out.after (below_alloc (Below.refl _ _) (.cells #[.int .i64 1, .int .i64 2, .int .i64 4, .int .i64 8] 3)))
  generalize w1.alloc (.cells #[.int .i64 1, .int .i64 2, .int .i64 4, .int .i64 8] 3) = wl at *
  refine (MK.out _ _ Q.out (HB.out.after Q.out.below)).mono ?_
  rintro e w2 ⟨rfl, q⟩
  replace Q := Lib.hid q
  clear q
  go_wp2_with fail
  refine (A1.out _).mono ?_
  rintro e w3 ⟨rfl, b⟩
  replace Q := Lib.hid (Q.out.after b)
  clear b
  go_wp2_with fail
  refine (S1.out _ _ Q.out).mono ?_
  rintro e w4 ⟨rfl, q⟩
  replace Q := Lib.hid q
  clear q
  go_wp2_with fail
  refine (AR.out _ _ Q.out).mono ?_
  rintro e w5 ⟨Ay, cy, rfl, hy, ky1, ky2, b⟩
  replace Q := Lib.hid (Q.out.after b)
  have HY := Lib.hid hy
  clear b hy
  dsimp only at ky1 ky2 ⊢
  try rw [HLEN.out] at ky1
  try rw [HLEN.out]
  clear S1 AR MK hz ho hoff hsz
  go_wp2_with fail
  go_loopw [79] (fun v wr => ∃ j : Nat, v = .int .i64 j ∧ j ≤ 300 ∧ Hid (Mm w wr g [a] ∧ BytS wr Ay q)) (fun v wr => 300 - (intOf v).toNat)
  case atStart => exact ⟨0, rfl, by omega, Lib.hid ⟨Q.out, HY.out⟩⟩
  case round =>
    clear Q HY
    obtain ⟨j, rfl, hj, QY⟩ := hrel
    have Q := Lib.hid QY.out.1
    have HY := Lib.hid QY.out.2
    clear QY
    have j0 : (0 : Int) ≤ j := by omega
    by_cases hlt : (j : Int) < 300
    · obtain ⟨gx, ox, rfl, hgx, hcx⟩ := (HB.out.after Q.out.below) (by rw [HLEN.out]; omega)
      obtain ⟨gy, oy, rfl, hgy, hcy⟩ := HY.out (by rw [HLEN.out]; omega)
      have cx := hcx j (by rw [HLEN.out]; omega)
      have cyy := hcy j (by rw [HLEN.out]; omega)
      clear hcx hcy
      generalize bAt q j = z at *
      have hzz : (z != z) = false := by simp
      go_wp2_with fail
      go_quiet (fail)
      go_wp2_with fail
      go_round
      case rel => exact ⟨j + 1, by go_num, by omega, Lib.hid ⟨Q.out.after (below_drewN (Below.refl _ _) _), HY.out.after (below_drewN (Below.refl _ _) _)⟩⟩
      case measure => simp [intOf]; omega
    · have hge : (300 : Int) ≤ j := by omega
      go_wp2_with fail
      go_ret
      exact ⟨rfl, Q.out.below⟩

theorem l8_MemKeeps (b : List Int) (B : Option Addr) (d : Nat) (off size n : Int) (bl : Bool) (w : World) (h : BytS w B b) (hb : OkB b) (hbd : b.length ≤ d) (hmd : d ≤ maxLen) (hoff : 0 ≤ off ∧ off ≤ 65535) (hsz : 0 ≤ size ∧ size ≤ 255) (hn : 0 ≤ n ∧ n ≤ 18446744073709551615) :
    Calls Try.prog 4 #[.slice B b.length d, .int .u16 off, .int .u8 size, .int .u64 n, .bool bl] w (Fine w) := by
  obtain ⟨q, q0, q1, q2, q3, q4⟩ := few_row (N := 300) h hb hbd
  obtain ⟨o, ho⟩ : ∃ o : Nat, off % 320 = o := ⟨(off % 320).toNat, by omega⟩
  have ho' : o < 320 := by omega
  have hz : size % 4 = 0 ∨ size % 4 = 1 ∨ size % 4 = 2 ∨ size % 4 = 3 := by omega
  by_cases hbig : 300 < b.length
  · have hB : 300 < b.length ∧ q.length = 300 := ⟨hbig, by omega⟩
    rcases hz with hz | hz | hz | hz
    · by_cases hf : o + 1 ≤ q.length
      · exact l8_MemKeeps_1yb b B d off size n bl w hn q q1 q2 q3 q4 hoff hsz hbd hmd o ho ho' hB hz hf
      · exact l8_MemKeeps_1nb b B d off size n bl w hn q q1 q2 q3 q4 hoff hsz hbd hmd o ho ho' hB hz hf
    · by_cases hf : o + 2 ≤ q.length
      · exact l8_MemKeeps_2yb b B d off size n bl w hn q q1 q2 q3 q4 hoff hsz hbd hmd o ho ho' hB hz hf
      · exact l8_MemKeeps_2nb b B d off size n bl w hn q q1 q2 q3 q4 hoff hsz hbd hmd o ho ho' hB hz hf
    · by_cases hf : o + 4 ≤ q.length
      · exact l8_MemKeeps_4yb b B d off size n bl w hn q q1 q2 q3 q4 hoff hsz hbd hmd o ho ho' hB hz hf
      · exact l8_MemKeeps_4nb b B d off size n bl w hn q q1 q2 q3 q4 hoff hsz hbd hmd o ho ho' hB hz hf
    · by_cases hf : o + 8 ≤ q.length
      · exact l8_MemKeeps_8yb b B d off size n bl w hn q q1 q2 q3 q4 hoff hsz hbd hmd o ho ho' hB hz hf
      · exact l8_MemKeeps_8nb b B d off size n bl w hn q q1 q2 q3 q4 hoff hsz hbd hmd o ho ho' hB hz hf
  · have hB : b.length ≤ 300 ∧ q.length = b.length := ⟨by omega, by omega⟩
    rcases hz with hz | hz | hz | hz
    · by_cases hf : o + 1 ≤ q.length
      · exact l8_MemKeeps_1y b B d off size n bl w hn q q1 q2 q3 q4 hoff hsz hbd hmd o ho ho' hB hz hf
      · exact l8_MemKeeps_1n b B d off size n bl w hn q q1 q2 q3 q4 hoff hsz hbd hmd o ho ho' hB hz hf
    · by_cases hf : o + 2 ≤ q.length
      · exact l8_MemKeeps_2y b B d off size n bl w hn q q1 q2 q3 q4 hoff hsz hbd hmd o ho ho' hB hz hf
      · exact l8_MemKeeps_2n b B d off size n bl w hn q q1 q2 q3 q4 hoff hsz hbd hmd o ho ho' hB hz hf
    · by_cases hf : o + 4 ≤ q.length
      · exact l8_MemKeeps_4y b B d off size n bl w hn q q1 q2 q3 q4 hoff hsz hbd hmd o ho ho' hB hz hf
      · exact l8_MemKeeps_4n b B d off size n bl w hn q q1 q2 q3 q4 hoff hsz hbd hmd o ho ho' hB hz hf
    · by_cases hf : o + 8 ≤ q.length
      · exact l8_MemKeeps_8y b B d off size n bl w hn q q1 q2 q3 q4 hoff hsz hbd hmd o ho ho' hB hz hf
      · exact l8_MemKeeps_8n b B d off size n bl w hn q q1 q2 q3 q4 hoff hsz hbd hmd o ho ho' hB hz hf

end Go.Proofs.Ytegmhbflgceecaa
