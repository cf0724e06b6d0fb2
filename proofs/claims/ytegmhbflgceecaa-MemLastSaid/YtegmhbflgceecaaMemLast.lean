/-
  P8.3: of what is stored one over the other the last is loaded: the walk of the statement MemLast.
  Conditions: none beyond the row's own.
-/
import Derived.Test.YtegmhbflgceecaaMemKit
import Derived.LoopTactic
import Derived.BigRegion
namespace Go.Proofs.Ytegmhbflgceecaa
open Go.RowKit
set_option linter.unusedVariables false
set_option linter.unusedSimpArgs false
def paL : PA := ⟨1, List.replicate 16 0, List.replicate 16 true, false⟩

set_option maxRecDepth 100000 in
set_option maxHeartbeats 4000000 in
theorem l8_MemLast_1z (a b off size : Int) (w : World) (ha : 0 ≤ a ∧ a ≤ 18446744073709551615) (hb : 0 ≤ b ∧ b ≤ 18446744073709551615) (hoff : 0 ≤ off ∧ off ≤ 255) (hsz : 0 ≤ size ∧ size ≤ 255) (o : Nat) (ho : off % 8 = o) (hz : size % 4 = 0) (hzo : o = 0) : Calls Try.prog 8 #[.int .u64 a, .int .u64 b, .int .u8 off, .int .u8 size] w (Fine w) := by
  have N := Lib.hid (mm_New w)
  have SH := Lib.hid l8_shown
  have o7 : o ≤ 7 := by omega
  have ho2 : off.tmod 8 = o := by rw [← ho]; exact Int.tmod_eq_emod_of_nonneg hoff.1
  have hz2 : size.tmod 4 = 0 := by rw [← hz]; exact Int.tmod_eq_emod_of_nonneg hsz.1
  have hlen : paL.b.length = 16 := List.length_replicate
  have hbl : paL.bl.length = paL.b.length := by rw [hlen]; exact List.length_replicate
  have l1 : (paSet paL 0 8 a).b.length = 16 := (putN_len _ _ _).trans hlen
  have l2 : (paSet paL 0 8 a).bl.length = (paSet paL 0 8 a).b.length := by rw [l1]; exact (putN_len _ _ _).trans (hbl.trans hlen)
  obtain ⟨_, _, b1, b2⟩ := at_parts (i := 1) (o := (o : Int)) (by omega) (by omega)
  have e1 : pStore [paL] (atI 1 0) 8 a = ([paSet paL 0 8 a], 0) := store_in (a := paL) (o := 0) (s := 8) (by show (0 : Int) ≤ 1 ∧ (1 : Int) < 2147483648; omega) (by omega) (by omega) (by rw [hlen]; omega) rfl
  have e2 : pStore [paSet paL 0 8 a] (atI 1 o) 1 b = ([paSet (paSet paL 0 8 a) o 1 b], 0) := store_in (a := paSet paL 0 8 a) (o := o) (s := 1) (by show (0 : Int) ≤ 1 ∧ (1 : Int) < 2147483648; omega) (by omega) (by omega) (by rw [l1]; omega) rfl
  have e3 : pLoad [paSet (paSet paL 0 8 a) o 1 b] (atI 1 o) 1 = (b % 256, 0) := by
    have := load_part (a := paSet paL 0 8 a) (o := o) (s := 1) (d := 0) (t := 1) (n := b) (by show (0 : Int) ≤ 1 ∧ (1 : Int) < 2147483648; omega) (by omega) (by omega) (by rw [l1]; omega) l2 (by omega)
    simp at this
    exact this
  have HLD : Hid (∀ i : Nat, i < 8 → pLoad [paSet (paSet paL 0 8 a) o 1 b] (atI 1 i) 1 = (bAt (paSet (paSet paL 0 8 a) o 1 b).b i, 0)) := Lib.hid fun i hi => by
    have h1 := load_one (a := paSet (paSet paL 0 8 a) o 1 b) (o := i) (s := 1) (by show (0 : Int) ≤ 1 ∧ (1 : Int) < 2147483648; omega) (by omega) rfl
    have hr : rdA (paSet (paSet paL 0 8 a) o 1 b) i 1 = ([bAt (paSet (paSet paL 0 8 a) o 1 b).b i], 0) := by
      rw [read_byte, if_pos (by rw [show (paSet (paSet paL 0 8 a) o 1 b).b.length = 16 from (putN_len _ _ _).trans l1]; omega), set_bit (by rw [l2, l1]; omega), set_bit (a := paL) (by rw [hbl, hlen]; omega)]
      rw [show (if o ≤ i ∧ i < o + 1 then false else if 0 ≤ i ∧ i < 0 + 8 then false else paL.bl.getD i false) = false by split; rfl; rw [if_pos (by omega)]]
      rw [if_neg Bool.false_ne_true]
    rw [hr, if_pos rfl, leN_one] at h1
    exact h1
  have HOUT : Hid (∀ i : Nat, i < 8 → ¬ (o ≤ i ∧ i < o + 1) → bAt (paSet (paSet paL 0 8 a) o 1 b).b i = a / 256 ^ i % 256) := Lib.hid fun i hi hn => by
    rw [set_byte (by rw [l1]; omega), if_neg hn, set_byte (by rw [hlen]; omega), if_pos (by omega), leB_at _ _ _ (by omega)]
    rfl
  have A0 := Lib.hid fun w' => mm_at 1 0 w' 4294967296 rfl
  have A1 := Lib.hid fun w' => mm_at 1 o w' _ rfl
  have AJ := Lib.hid fun (j : Nat) w' => mm_at 1 (j : Int) w' _ rfl
  have MK := Lib.hid fun g w' B (h : Mm w w' g []) (hb : BytS w' B (List.replicate 16 0)) => mm_Make 1 (List.replicate 16 0) B 16 true false h hb (okB_zeros 16) (by rw [List.length_replicate]; omega) (by unfold maxLen; omega) (by simp)
  rw [show pMake [] 1 (List.replicate 16 0) true false = ([paL], 0) by kernel_rfl] at MK
  have S1 := Lib.hid fun g w' (h : Mm w w' g [paL]) => mm_Store 4294967296 8 a h (by omega) ha
  rw [show (4294967296 : Int) = atI 1 0 from rfl, e1] at S1
  rw [show atI 1 0 = (4294967296 : Int) from rfl] at S1
  have S2 := Lib.hid fun g w' (h : Mm w w' g [paSet paL 0 8 a]) => mm_Store (atI 1 o) 1 b h ⟨b1, b2⟩ hb
  rw [e2] at S2
  have L1 := Lib.hid fun g w' (h : Mm w w' g [paSet (paSet paL 0 8 a) o 1 b]) => mm_Load (atI 1 o) 1 h ⟨b1, b2⟩
  rw [e3] at L1
  have LJ : Hid (∀ (j : Nat) g w', j < 8 → Mm w w' g [paSet (paSet paL 0 8 a) o 1 b] → Calls Try.prog 16 #[.pointer (some ⟨g, 0, none⟩), .int .u64 (atI 1 j), .int .i64 1] w' (Gives (.tuple #[.int .u64 (bAt (paSet (paSet paL 0 8 a) o 1 b).b j), .int .i64 0]) w')) := Lib.hid fun j g w' hj h => by
    obtain ⟨_, _, c1, c2⟩ := at_parts (i := 1) (o := (j : Int)) (by omega) (by omega)
    have := mm_Load (atI 1 j) 1 h ⟨c1, c2⟩
    rw [HLD.out j hj] at this
    exact this
  have hand : bits .and .u64 b 255 = b % 256 := by
    have := and_low (n := b) (k := 8) hb (by omega)
    simpa using this
  have HAND : Hid (∀ x : Int, 0 ≤ x ∧ x ≤ 18446744073709551615 → bits .and .u64 x 255 = x % 256) := Lib.hid fun x hx => by
    have := and_low (n := x) (k := 8) hx (by omega)
    simpa using this
  clear e1 e2 e3 hlen hbl l1 l2 b1 b2 HLD
  generalize paSet (paSet paL 0 8 a) o 1 b = y at *
  generalize paSet paL 0 8 a = y1 at *
  have o0 : (0 : Int) ≤ o := by omega
  have o7i : (o : Int) ≤ 7 := by omega
  generalize atI 1 (o : Int) = a1 at *
  subst hzo
  have e00 : ((0 : Nat) : Int) = 0 := rfl
  rw [e00] at A1 ho2 ho
  clear o0 o7i e00
  go_enter Try.func8, Try.ntmps8
  go_wp2_with fail
  refine (SH.out _).mono ?_
  rintro e w0 ⟨rfl, b0⟩
  have V := Lib.hid b0
  clear b0
  go_wp2_with fail
  refine (N.out _ V.out).mono ?_
  rintro e w1 ⟨g, rfl, q1⟩
  have Q := Lib.hid q1
  clear q1 V N SH
  go_wp2_with fail
  generalize w1 = ww at *
  go_region
  replace Q := Lib.hid (Q.out.after (below_alloc (Below.refl _ _) (.cells #[.int .i64 1, .int .i64 2, .int .i64 4, .int .i64 8] 3)).drew)
  generalize (ww.alloc (.cells #[.int .i64 1, .int .i64 2, .int .i64 4, .int .i64 8] 3)).drew = wl at *
  obtain ⟨w2, hmk, hown, hgr⟩ := made_zeros 16 w.heap.size (by omega) wl Q.out.below.size
  have hmk' : (Instr.makeSlice 32 (.int .i64 16) (.int .i64 16)).run Try.prog wl = .ok (.slice (some ⟨wl.heap.size, 0, none⟩) 16 16) w2 := hmk
  replace Q := Lib.hid (Q.out.made hgr)
  have HB := Lib.hid (own_bytS (b := List.replicate 16 0) List.length_replicate.symm hown)
  clear hmk hgr hown
  have MK2 := Lib.hid fun w' B h hb => MK.out g w' B h hb
  rw [List.length_replicate] at MK2
  clear MK
  go_wp2_with fail
  refine (MK2.out _ _ Q.out HB.out).mono ?_
  rintro e w3 ⟨rfl, q⟩
  replace Q := Lib.hid q
  clear q
  go_wp2_with fail
  clear HB MK2
  refine (A0.out _).mono ?_
  rintro e w4 ⟨rfl, b⟩
  replace Q := Lib.hid (Q.out.after b)
  clear b
  go_wp2_with fail
  refine (S1.out _ _ Q.out).mono ?_
  rintro e w5 ⟨rfl, q⟩
  replace Q := Lib.hid q
  clear q
  go_wp2_with fail
  refine (A1.out _).mono ?_
  rintro e w6 ⟨rfl, b⟩
  replace Q := Lib.hid (Q.out.after b)
  clear b
  go_wp2_with fail
  refine (S2.out _ _ Q.out).mono ?_
  rintro e w7 ⟨rfl, q⟩
  replace Q := Lib.hid q
  clear q
  go_wp2_with fail
  refine (A1.out _).mono ?_
  rintro e w8 ⟨rfl, b⟩
  replace Q := Lib.hid (Q.out.after b)
  clear b
  go_wp2_with fail
  refine (L1.out _ _ Q.out).mono ?_
  rintro e w9 ⟨rfl, b⟩
  replace Q := Lib.hid (Q.out.after b)
  clear b
  go_wp2_with fail
  clear A0 A1 S1 S2 L1 hmk' ho ho2 hz hz2 hoff hsz
  go_loopw [72] (fun v wr => ∃ j : Nat, v = .int .i64 j ∧ j ≤ 8 ∧ Hid (Mm w wr g [y])) (fun v wr => 8 - (intOf v).toNat)
  case atStart => exact ⟨0, rfl, by omega, Q⟩
  case round =>
    clear Q
    obtain ⟨j, rfl, hj, Q⟩ := hrel
    have hj8 : j = 0 ∨ j = 1 ∨ j = 2 ∨ j = 3 ∨ j = 4 ∨ j = 5 ∨ j = 6 ∨ j = 7 ∨ j = 8 := by omega
    clear hj
    rcases hj8 with rfl | rfl | rfl | rfl | rfl | rfl | rfl | rfl | rfl
    · have AA := Lib.hid (AJ.out 0)
      have LL := Lib.hid fun g w' h => LJ.out 0 g w' (by omega) h
      have HO := Lib.hid (HOUT.out 0 (by omega))
      have hj := HAND.out a ha
      rw [show ((0 : Nat) : Int) = 0 from rfl] at AA LL ⊢
      generalize bAt y.b 0 = cj at *
      generalize atI 1 (0 : Int) = aj at *
      clear AJ LJ HOUT HAND
      clear HO
      go_wp2_with fail
      refine (AA.out _).mono ?_
      rintro e wa ⟨rfl, b⟩
      replace Q := Lib.hid (Q.out.after b)
      clear b
      go_wp2_with fail
      refine (LL.out _ _ Q.out).mono ?_
      rintro e wb ⟨rfl, b⟩
      replace Q := Lib.hid (Q.out.after b)
      clear b
      go_wp2_with fail
      go_round
      case rel => exact ⟨1, rfl, by omega, Q⟩
      case measure => simp [intOf]
    · have AA := Lib.hid (AJ.out 1)
      have LL := Lib.hid fun g w' h => LJ.out 1 g w' (by omega) h
      have HO := Lib.hid (HOUT.out 1 (by omega))
      have hj := HAND.out (a / 256) (by omega)
      rw [show ((1 : Nat) : Int) = 1 from rfl] at AA LL ⊢
      generalize bAt y.b 1 = cj at *
      generalize atI 1 (1 : Int) = aj at *
      clear AJ LJ HOUT HAND
      have hc := HO.out (by omega)
      clear HO
      subst hc
      go_wp2_with fail
      refine (AA.out _).mono ?_
      rintro e wa ⟨rfl, b⟩
      replace Q := Lib.hid (Q.out.after b)
      clear b
      go_wp2_with fail
      refine (LL.out _ _ Q.out).mono ?_
      rintro e wb ⟨rfl, b⟩
      replace Q := Lib.hid (Q.out.after b)
      clear b
      go_wp2_with fail
      go_round
      case rel => exact ⟨2, rfl, by omega, Q⟩
      case measure => simp [intOf]
    · have AA := Lib.hid (AJ.out 2)
      have LL := Lib.hid fun g w' h => LJ.out 2 g w' (by omega) h
      have HO := Lib.hid (HOUT.out 2 (by omega))
      have hj := HAND.out (a / 65536) (by omega)
      rw [show ((2 : Nat) : Int) = 2 from rfl] at AA LL ⊢
      generalize bAt y.b 2 = cj at *
      generalize atI 1 (2 : Int) = aj at *
      clear AJ LJ HOUT HAND
      have hc := HO.out (by omega)
      clear HO
      subst hc
      go_wp2_with fail
      refine (AA.out _).mono ?_
      rintro e wa ⟨rfl, b⟩
      replace Q := Lib.hid (Q.out.after b)
      clear b
      go_wp2_with fail
      refine (LL.out _ _ Q.out).mono ?_
      rintro e wb ⟨rfl, b⟩
      replace Q := Lib.hid (Q.out.after b)
      clear b
      go_wp2_with fail
      go_round
      case rel => exact ⟨3, rfl, by omega, Q⟩
      case measure => simp [intOf]
    · have AA := Lib.hid (AJ.out 3)
      have LL := Lib.hid fun g w' h => LJ.out 3 g w' (by omega) h
      have HO := Lib.hid (HOUT.out 3 (by omega))
      have hj := HAND.out (a / 16777216) (by omega)
      rw [show ((3 : Nat) : Int) = 3 from rfl] at AA LL ⊢
      generalize bAt y.b 3 = cj at *
      generalize atI 1 (3 : Int) = aj at *
      clear AJ LJ HOUT HAND
      have hc := HO.out (by omega)
      clear HO
      subst hc
      go_wp2_with fail
      refine (AA.out _).mono ?_
      rintro e wa ⟨rfl, b⟩
      replace Q := Lib.hid (Q.out.after b)
      clear b
      go_wp2_with fail
      refine (LL.out _ _ Q.out).mono ?_
      rintro e wb ⟨rfl, b⟩
      replace Q := Lib.hid (Q.out.after b)
      clear b
      go_wp2_with fail
      go_round
      case rel => exact ⟨4, rfl, by omega, Q⟩
      case measure => simp [intOf]
    · have AA := Lib.hid (AJ.out 4)
      have LL := Lib.hid fun g w' h => LJ.out 4 g w' (by omega) h
      have HO := Lib.hid (HOUT.out 4 (by omega))
      have hj := HAND.out (a / 4294967296) (by omega)
      rw [show ((4 : Nat) : Int) = 4 from rfl] at AA LL ⊢
      generalize bAt y.b 4 = cj at *
      generalize atI 1 (4 : Int) = aj at *
      clear AJ LJ HOUT HAND
      have hc := HO.out (by omega)
      clear HO
      subst hc
      go_wp2_with fail
      refine (AA.out _).mono ?_
      rintro e wa ⟨rfl, b⟩
      replace Q := Lib.hid (Q.out.after b)
      clear b
      go_wp2_with fail
      refine (LL.out _ _ Q.out).mono ?_
      rintro e wb ⟨rfl, b⟩
      replace Q := Lib.hid (Q.out.after b)
      clear b
      go_wp2_with fail
      go_round
      case rel => exact ⟨5, rfl, by omega, Q⟩
      case measure => simp [intOf]
    · have AA := Lib.hid (AJ.out 5)
      have LL := Lib.hid fun g w' h => LJ.out 5 g w' (by omega) h
      have HO := Lib.hid (HOUT.out 5 (by omega))
      have hj := HAND.out (a / 1099511627776) (by omega)
      rw [show ((5 : Nat) : Int) = 5 from rfl] at AA LL ⊢
      generalize bAt y.b 5 = cj at *
      generalize atI 1 (5 : Int) = aj at *
      clear AJ LJ HOUT HAND
      have hc := HO.out (by omega)
      clear HO
      subst hc
      go_wp2_with fail
      refine (AA.out _).mono ?_
      rintro e wa ⟨rfl, b⟩
      replace Q := Lib.hid (Q.out.after b)
      clear b
      go_wp2_with fail
      refine (LL.out _ _ Q.out).mono ?_
      rintro e wb ⟨rfl, b⟩
      replace Q := Lib.hid (Q.out.after b)
      clear b
      go_wp2_with fail
      go_round
      case rel => exact ⟨6, rfl, by omega, Q⟩
      case measure => simp [intOf]
    · have AA := Lib.hid (AJ.out 6)
      have LL := Lib.hid fun g w' h => LJ.out 6 g w' (by omega) h
      have HO := Lib.hid (HOUT.out 6 (by omega))
      have hj := HAND.out (a / 281474976710656) (by omega)
      rw [show ((6 : Nat) : Int) = 6 from rfl] at AA LL ⊢
      generalize bAt y.b 6 = cj at *
      generalize atI 1 (6 : Int) = aj at *
      clear AJ LJ HOUT HAND
      have hc := HO.out (by omega)
      clear HO
      subst hc
      go_wp2_with fail
      refine (AA.out _).mono ?_
      rintro e wa ⟨rfl, b⟩
      replace Q := Lib.hid (Q.out.after b)
      clear b
      go_wp2_with fail
      refine (LL.out _ _ Q.out).mono ?_
      rintro e wb ⟨rfl, b⟩
      replace Q := Lib.hid (Q.out.after b)
      clear b
      go_wp2_with fail
      go_round
      case rel => exact ⟨7, rfl, by omega, Q⟩
      case measure => simp [intOf]
    · have AA := Lib.hid (AJ.out 7)
      have LL := Lib.hid fun g w' h => LJ.out 7 g w' (by omega) h
      have HO := Lib.hid (HOUT.out 7 (by omega))
      have hj := HAND.out (a / 72057594037927936) (by omega)
      rw [show ((7 : Nat) : Int) = 7 from rfl] at AA LL ⊢
      generalize bAt y.b 7 = cj at *
      generalize atI 1 (7 : Int) = aj at *
      clear AJ LJ HOUT HAND
      have hc := HO.out (by omega)
      clear HO
      subst hc
      go_wp2_with fail
      refine (AA.out _).mono ?_
      rintro e wa ⟨rfl, b⟩
      replace Q := Lib.hid (Q.out.after b)
      clear b
      go_wp2_with fail
      refine (LL.out _ _ Q.out).mono ?_
      rintro e wb ⟨rfl, b⟩
      replace Q := Lib.hid (Q.out.after b)
      clear b
      go_wp2_with fail
      go_round
      case rel => exact ⟨8, rfl, by omega, Q⟩
      case measure => simp [intOf]
    · rw [show ((8 : Nat) : Int) = 8 from rfl]
      go_wp2_with fail
      go_ret
      exact ⟨rfl, Q.out.below⟩

set_option maxRecDepth 100000 in
set_option maxHeartbeats 4000000 in
theorem l8_MemLast_1 (a b off size : Int) (w : World) (ha : 0 ≤ a ∧ a ≤ 18446744073709551615) (hb : 0 ≤ b ∧ b ≤ 18446744073709551615) (hoff : 0 ≤ off ∧ off ≤ 255) (hsz : 0 ≤ size ∧ size ≤ 255) (o : Nat) (ho : off % 8 = o) (hz : size % 4 = 0) (hzo : 0 < o) : Calls Try.prog 8 #[.int .u64 a, .int .u64 b, .int .u8 off, .int .u8 size] w (Fine w) := by
  have N := Lib.hid (mm_New w)
  have SH := Lib.hid l8_shown
  have o7 : o ≤ 7 := by omega
  have ho2 : off.tmod 8 = o := by rw [← ho]; exact Int.tmod_eq_emod_of_nonneg hoff.1
  have hz2 : size.tmod 4 = 0 := by rw [← hz]; exact Int.tmod_eq_emod_of_nonneg hsz.1
  have hlen : paL.b.length = 16 := List.length_replicate
  have hbl : paL.bl.length = paL.b.length := by rw [hlen]; exact List.length_replicate
  have l1 : (paSet paL 0 8 a).b.length = 16 := (putN_len _ _ _).trans hlen
  have l2 : (paSet paL 0 8 a).bl.length = (paSet paL 0 8 a).b.length := by rw [l1]; exact (putN_len _ _ _).trans (hbl.trans hlen)
  obtain ⟨_, _, b1, b2⟩ := at_parts (i := 1) (o := (o : Int)) (by omega) (by omega)
  have e1 : pStore [paL] (atI 1 0) 8 a = ([paSet paL 0 8 a], 0) := store_in (a := paL) (o := 0) (s := 8) (by show (0 : Int) ≤ 1 ∧ (1 : Int) < 2147483648; omega) (by omega) (by omega) (by rw [hlen]; omega) rfl
  have e2 : pStore [paSet paL 0 8 a] (atI 1 o) 1 b = ([paSet (paSet paL 0 8 a) o 1 b], 0) := store_in (a := paSet paL 0 8 a) (o := o) (s := 1) (by show (0 : Int) ≤ 1 ∧ (1 : Int) < 2147483648; omega) (by omega) (by omega) (by rw [l1]; omega) rfl
  have e3 : pLoad [paSet (paSet paL 0 8 a) o 1 b] (atI 1 o) 1 = (b % 256, 0) := by
    have := load_part (a := paSet paL 0 8 a) (o := o) (s := 1) (d := 0) (t := 1) (n := b) (by show (0 : Int) ≤ 1 ∧ (1 : Int) < 2147483648; omega) (by omega) (by omega) (by rw [l1]; omega) l2 (by omega)
    simp at this
    exact this
  have HLD : Hid (∀ i : Nat, i < 8 → pLoad [paSet (paSet paL 0 8 a) o 1 b] (atI 1 i) 1 = (bAt (paSet (paSet paL 0 8 a) o 1 b).b i, 0)) := Lib.hid fun i hi => by
    have h1 := load_one (a := paSet (paSet paL 0 8 a) o 1 b) (o := i) (s := 1) (by show (0 : Int) ≤ 1 ∧ (1 : Int) < 2147483648; omega) (by omega) rfl
    have hr : rdA (paSet (paSet paL 0 8 a) o 1 b) i 1 = ([bAt (paSet (paSet paL 0 8 a) o 1 b).b i], 0) := by
      rw [read_byte, if_pos (by rw [show (paSet (paSet paL 0 8 a) o 1 b).b.length = 16 from (putN_len _ _ _).trans l1]; omega), set_bit (by rw [l2, l1]; omega), set_bit (a := paL) (by rw [hbl, hlen]; omega)]
      rw [show (if o ≤ i ∧ i < o + 1 then false else if 0 ≤ i ∧ i < 0 + 8 then false else paL.bl.getD i false) = false by split; rfl; rw [if_pos (by omega)]]
      rw [if_neg Bool.false_ne_true]
    rw [hr, if_pos rfl, leN_one] at h1
    exact h1
  have HOUT : Hid (∀ i : Nat, i < 8 → ¬ (o ≤ i ∧ i < o + 1) → bAt (paSet (paSet paL 0 8 a) o 1 b).b i = a / 256 ^ i % 256) := Lib.hid fun i hi hn => by
    rw [set_byte (by rw [l1]; omega), if_neg hn, set_byte (by rw [hlen]; omega), if_pos (by omega), leB_at _ _ _ (by omega)]
    rfl
  have A0 := Lib.hid fun w' => mm_at 1 0 w' 4294967296 rfl
  have A1 := Lib.hid fun w' => mm_at 1 o w' _ rfl
  have AJ := Lib.hid fun (j : Nat) w' => mm_at 1 (j : Int) w' _ rfl
  have MK := Lib.hid fun g w' B (h : Mm w w' g []) (hb : BytS w' B (List.replicate 16 0)) => mm_Make 1 (List.replicate 16 0) B 16 true false h hb (okB_zeros 16) (by rw [List.length_replicate]; omega) (by unfold maxLen; omega) (by simp)
  rw [show pMake [] 1 (List.replicate 16 0) true false = ([paL], 0) by kernel_rfl] at MK
  have S1 := Lib.hid fun g w' (h : Mm w w' g [paL]) => mm_Store 4294967296 8 a h (by omega) ha
  rw [show (4294967296 : Int) = atI 1 0 from rfl, e1] at S1
  rw [show atI 1 0 = (4294967296 : Int) from rfl] at S1
  have S2 := Lib.hid fun g w' (h : Mm w w' g [paSet paL 0 8 a]) => mm_Store (atI 1 o) 1 b h ⟨b1, b2⟩ hb
  rw [e2] at S2
  have L1 := Lib.hid fun g w' (h : Mm w w' g [paSet (paSet paL 0 8 a) o 1 b]) => mm_Load (atI 1 o) 1 h ⟨b1, b2⟩
  rw [e3] at L1
  have LJ : Hid (∀ (j : Nat) g w', j < 8 → Mm w w' g [paSet (paSet paL 0 8 a) o 1 b] → Calls Try.prog 16 #[.pointer (some ⟨g, 0, none⟩), .int .u64 (atI 1 j), .int .i64 1] w' (Gives (.tuple #[.int .u64 (bAt (paSet (paSet paL 0 8 a) o 1 b).b j), .int .i64 0]) w')) := Lib.hid fun j g w' hj h => by
    obtain ⟨_, _, c1, c2⟩ := at_parts (i := 1) (o := (j : Int)) (by omega) (by omega)
    have := mm_Load (atI 1 j) 1 h ⟨c1, c2⟩
    rw [HLD.out j hj] at this
    exact this
  have hand : bits .and .u64 b 255 = b % 256 := by
    have := and_low (n := b) (k := 8) hb (by omega)
    simpa using this
  have HAND : Hid (∀ x : Int, 0 ≤ x ∧ x ≤ 18446744073709551615 → bits .and .u64 x 255 = x % 256) := Lib.hid fun x hx => by
    have := and_low (n := x) (k := 8) hx (by omega)
    simpa using this
  clear e1 e2 e3 hlen hbl l1 l2 b1 b2 HLD
  generalize paSet (paSet paL 0 8 a) o 1 b = y at *
  generalize paSet paL 0 8 a = y1 at *
  have o0 : (0 : Int) ≤ o := by omega
  have o7i : (o : Int) ≤ 7 := by omega
  generalize atI 1 (o : Int) = a1 at *
  have o1 : (1 : Int) ≤ o := by omega
  clear hzo
  go_enter Try.func8, Try.ntmps8
  go_wp2_with fail
  refine (SH.out _).mono ?_
  rintro e w0 ⟨rfl, b0⟩
  have V := Lib.hid b0
  clear b0
  go_wp2_with fail
  refine (N.out _ V.out).mono ?_
  rintro e w1 ⟨g, rfl, q1⟩
  have Q := Lib.hid q1
  clear q1 V N SH
  go_wp2_with fail
  generalize w1 = ww at *
  go_region
  replace Q := Lib.hid (Q.out.after (below_alloc (Below.refl _ _) (.cells #[.int .i64 1, .int .i64 2, .int .i64 4, .int .i64 8] 3)).drew)
  generalize (ww.alloc (.cells #[.int .i64 1, .int .i64 2, .int .i64 4, .int .i64 8] 3)).drew = wl at *
  obtain ⟨w2, hmk, hown, hgr⟩ := made_zeros 16 w.heap.size (by omega) wl Q.out.below.size
  have hmk' : (Instr.makeSlice 32 (.int .i64 16) (.int .i64 16)).run Try.prog wl = .ok (.slice (some ⟨wl.heap.size, 0, none⟩) 16 16) w2 := hmk
  replace Q := Lib.hid (Q.out.made hgr)
  have HB := Lib.hid (own_bytS (b := List.replicate 16 0) List.length_replicate.symm hown)
  clear hmk hgr hown
  have MK2 := Lib.hid fun w' B h hb => MK.out g w' B h hb
  rw [List.length_replicate] at MK2
  clear MK
  go_wp2_with fail
  refine (MK2.out _ _ Q.out HB.out).mono ?_
  rintro e w3 ⟨rfl, q⟩
  replace Q := Lib.hid q
  clear q
  go_wp2_with fail
  clear HB MK2
  refine (A0.out _).mono ?_
  rintro e w4 ⟨rfl, b⟩
  replace Q := Lib.hid (Q.out.after b)
  clear b
  go_wp2_with fail
  refine (S1.out _ _ Q.out).mono ?_
  rintro e w5 ⟨rfl, q⟩
  replace Q := Lib.hid q
  clear q
  go_wp2_with fail
  refine (A1.out _).mono ?_
  rintro e w6 ⟨rfl, b⟩
  replace Q := Lib.hid (Q.out.after b)
  clear b
  go_wp2_with fail
  refine (S2.out _ _ Q.out).mono ?_
  rintro e w7 ⟨rfl, q⟩
  replace Q := Lib.hid q
  clear q
  go_wp2_with fail
  refine (A1.out _).mono ?_
  rintro e w8 ⟨rfl, b⟩
  replace Q := Lib.hid (Q.out.after b)
  clear b
  go_wp2_with fail
  refine (L1.out _ _ Q.out).mono ?_
  rintro e w9 ⟨rfl, b⟩
  replace Q := Lib.hid (Q.out.after b)
  clear b
  go_wp2_with fail
  clear A0 A1 S1 S2 L1 hmk' ho ho2 hz hz2 hoff hsz
  go_loopw [72] (fun v wr => ∃ j : Nat, v = .int .i64 j ∧ j ≤ 8 ∧ Hid (Mm w wr g [y])) (fun v wr => 8 - (intOf v).toNat)
  case atStart => exact ⟨0, rfl, by omega, Q⟩
  case round =>
    clear Q
    obtain ⟨j, rfl, hj, Q⟩ := hrel
    have hj8 : j = 0 ∨ j = 1 ∨ j = 2 ∨ j = 3 ∨ j = 4 ∨ j = 5 ∨ j = 6 ∨ j = 7 ∨ j = 8 := by omega
    clear hj
    rcases hj8 with rfl | rfl | rfl | rfl | rfl | rfl | rfl | rfl | rfl
    · have AA := Lib.hid (AJ.out 0)
      have LL := Lib.hid fun g w' h => LJ.out 0 g w' (by omega) h
      have HO := Lib.hid (HOUT.out 0 (by omega))
      have hj := HAND.out a ha
      rw [show ((0 : Nat) : Int) = 0 from rfl] at AA LL ⊢
      generalize bAt y.b 0 = cj at *
      generalize atI 1 (0 : Int) = aj at *
      clear AJ LJ HOUT HAND
      have VC : ∀ (P : Prop), (((0 : Int) < o) → cj = a / 1 % 256 → P) → ((o : Int) + 1 ≤ 0 → ¬ ((0 : Int) < o) → cj = a / 1 % 256 → P) → (¬ ((0 : Int) < o) → ¬ ((o : Int) + 1 ≤ 0) → P) → P := fun P p1 p2 p3 => by
        by_cases c1 : (0 : Int) < o
        · exact p1 c1 (HO.out (by omega))
        · by_cases c2 : (o : Int) + 1 ≤ 0
          · exact p2 c2 c1 (HO.out (by omega))
          · exact p3 c1 c2
      have VH := Lib.hid VC
      clear VC HO
      refine VH.out _ (fun c1 hc => ?_) (fun c2 c1 hc => ?_) (fun c1 c2 => ?_)
      · clear VH
        try simp only [Int.ediv_one] at hc
        subst hc
        go_wp2_with fail
        refine (AA.out _).mono ?_
        rintro e wa ⟨rfl, b⟩
        replace Q := Lib.hid (Q.out.after b)
        clear b
        go_wp2_with fail
        refine (LL.out _ _ Q.out).mono ?_
        rintro e wb ⟨rfl, b⟩
        replace Q := Lib.hid (Q.out.after b)
        clear b
        go_wp2_with fail
        go_round
        case rel => exact ⟨1, rfl, by omega, Q⟩
        case measure => simp [intOf]
      · exact absurd c2 (by omega)
      · exact absurd c1 (by omega)
    · have AA := Lib.hid (AJ.out 1)
      have LL := Lib.hid fun g w' h => LJ.out 1 g w' (by omega) h
      have HO := Lib.hid (HOUT.out 1 (by omega))
      have hj := HAND.out (a / 256) (by omega)
      rw [show ((1 : Nat) : Int) = 1 from rfl] at AA LL ⊢
      generalize bAt y.b 1 = cj at *
      generalize atI 1 (1 : Int) = aj at *
      clear AJ LJ HOUT HAND
      have VC : ∀ (P : Prop), (((1 : Int) < o) → cj = a / 256 % 256 → P) → ((o : Int) + 1 ≤ 1 → ¬ ((1 : Int) < o) → cj = a / 256 % 256 → P) → (¬ ((1 : Int) < o) → ¬ ((o : Int) + 1 ≤ 1) → P) → P := fun P p1 p2 p3 => by
        by_cases c1 : (1 : Int) < o
        · exact p1 c1 (HO.out (by omega))
        · by_cases c2 : (o : Int) + 1 ≤ 1
          · exact p2 c2 c1 (HO.out (by omega))
          · exact p3 c1 c2
      have VH := Lib.hid VC
      clear VC HO
      refine VH.out _ (fun c1 hc => ?_) (fun c2 c1 hc => ?_) (fun c1 c2 => ?_)
      · clear VH
        try simp only [Int.ediv_one] at hc
        subst hc
        go_wp2_with fail
        refine (AA.out _).mono ?_
        rintro e wa ⟨rfl, b⟩
        replace Q := Lib.hid (Q.out.after b)
        clear b
        go_wp2_with fail
        refine (LL.out _ _ Q.out).mono ?_
        rintro e wb ⟨rfl, b⟩
        replace Q := Lib.hid (Q.out.after b)
        clear b
        go_wp2_with fail
        go_round
        case rel => exact ⟨2, rfl, by omega, Q⟩
        case measure => simp [intOf]
      · exact absurd c2 (by omega)
      · clear VH
        go_wp2_with fail
        refine (AA.out _).mono ?_
        rintro e wa ⟨rfl, b⟩
        replace Q := Lib.hid (Q.out.after b)
        clear b
        go_wp2_with fail
        refine (LL.out _ _ Q.out).mono ?_
        rintro e wb ⟨rfl, b⟩
        replace Q := Lib.hid (Q.out.after b)
        clear b
        go_wp2_with fail
        go_round
        case rel => exact ⟨2, rfl, by omega, Q⟩
        case measure => simp [intOf]
    · have AA := Lib.hid (AJ.out 2)
      have LL := Lib.hid fun g w' h => LJ.out 2 g w' (by omega) h
      have HO := Lib.hid (HOUT.out 2 (by omega))
      have hj := HAND.out (a / 65536) (by omega)
      rw [show ((2 : Nat) : Int) = 2 from rfl] at AA LL ⊢
      generalize bAt y.b 2 = cj at *
      generalize atI 1 (2 : Int) = aj at *
      clear AJ LJ HOUT HAND
      have VC : ∀ (P : Prop), (((2 : Int) < o) → cj = a / 65536 % 256 → P) → ((o : Int) + 1 ≤ 2 → ¬ ((2 : Int) < o) → cj = a / 65536 % 256 → P) → (¬ ((2 : Int) < o) → ¬ ((o : Int) + 1 ≤ 2) → P) → P := fun P p1 p2 p3 => by
        by_cases c1 : (2 : Int) < o
        · exact p1 c1 (HO.out (by omega))
        · by_cases c2 : (o : Int) + 1 ≤ 2
          · exact p2 c2 c1 (HO.out (by omega))
          · exact p3 c1 c2
      have VH := Lib.hid VC
      clear VC HO
      refine VH.out _ (fun c1 hc => ?_) (fun c2 c1 hc => ?_) (fun c1 c2 => ?_)
      · clear VH
        try simp only [Int.ediv_one] at hc
        subst hc
        go_wp2_with fail
        refine (AA.out _).mono ?_
        rintro e wa ⟨rfl, b⟩
        replace Q := Lib.hid (Q.out.after b)
        clear b
        go_wp2_with fail
        refine (LL.out _ _ Q.out).mono ?_
        rintro e wb ⟨rfl, b⟩
        replace Q := Lib.hid (Q.out.after b)
        clear b
        go_wp2_with fail
        go_round
        case rel => exact ⟨3, rfl, by omega, Q⟩
        case measure => simp [intOf]
      · clear VH
        try simp only [Int.ediv_one] at hc
        subst hc
        go_wp2_with fail
        refine (AA.out _).mono ?_
        rintro e wa ⟨rfl, b⟩
        replace Q := Lib.hid (Q.out.after b)
        clear b
        go_wp2_with fail
        refine (LL.out _ _ Q.out).mono ?_
        rintro e wb ⟨rfl, b⟩
        replace Q := Lib.hid (Q.out.after b)
        clear b
        go_wp2_with fail
        go_round
        case rel => exact ⟨3, rfl, by omega, Q⟩
        case measure => simp [intOf]
      · clear VH
        go_wp2_with fail
        refine (AA.out _).mono ?_
        rintro e wa ⟨rfl, b⟩
        replace Q := Lib.hid (Q.out.after b)
        clear b
        go_wp2_with fail
        refine (LL.out _ _ Q.out).mono ?_
        rintro e wb ⟨rfl, b⟩
        replace Q := Lib.hid (Q.out.after b)
        clear b
        go_wp2_with fail
        go_round
        case rel => exact ⟨3, rfl, by omega, Q⟩
        case measure => simp [intOf]
    · have AA := Lib.hid (AJ.out 3)
      have LL := Lib.hid fun g w' h => LJ.out 3 g w' (by omega) h
      have HO := Lib.hid (HOUT.out 3 (by omega))
      have hj := HAND.out (a / 16777216) (by omega)
      rw [show ((3 : Nat) : Int) = 3 from rfl] at AA LL ⊢
      generalize bAt y.b 3 = cj at *
      generalize atI 1 (3 : Int) = aj at *
      clear AJ LJ HOUT HAND
      have VC : ∀ (P : Prop), (((3 : Int) < o) → cj = a / 16777216 % 256 → P) → ((o : Int) + 1 ≤ 3 → ¬ ((3 : Int) < o) → cj = a / 16777216 % 256 → P) → (¬ ((3 : Int) < o) → ¬ ((o : Int) + 1 ≤ 3) → P) → P := fun P p1 p2 p3 => by
        by_cases c1 : (3 : Int) < o
        · exact p1 c1 (HO.out (by omega))
        · by_cases c2 : (o : Int) + 1 ≤ 3
          · exact p2 c2 c1 (HO.out (by omega))
          · exact p3 c1 c2
      have VH := Lib.hid VC
      clear VC HO
      refine VH.out _ (fun c1 hc => ?_) (fun c2 c1 hc => ?_) (fun c1 c2 => ?_)
      · clear VH
        try simp only [Int.ediv_one] at hc
        subst hc
        go_wp2_with fail
        refine (AA.out _).mono ?_
        rintro e wa ⟨rfl, b⟩
        replace Q := Lib.hid (Q.out.after b)
        clear b
        go_wp2_with fail
        refine (LL.out _ _ Q.out).mono ?_
        rintro e wb ⟨rfl, b⟩
        replace Q := Lib.hid (Q.out.after b)
        clear b
        go_wp2_with fail
        go_round
        case rel => exact ⟨4, rfl, by omega, Q⟩
        case measure => simp [intOf]
      · clear VH
        try simp only [Int.ediv_one] at hc
        subst hc
        go_wp2_with fail
        refine (AA.out _).mono ?_
        rintro e wa ⟨rfl, b⟩
        replace Q := Lib.hid (Q.out.after b)
        clear b
        go_wp2_with fail
        refine (LL.out _ _ Q.out).mono ?_
        rintro e wb ⟨rfl, b⟩
        replace Q := Lib.hid (Q.out.after b)
        clear b
        go_wp2_with fail
        go_round
        case rel => exact ⟨4, rfl, by omega, Q⟩
        case measure => simp [intOf]
      · clear VH
        go_wp2_with fail
        refine (AA.out _).mono ?_
        rintro e wa ⟨rfl, b⟩
        replace Q := Lib.hid (Q.out.after b)
        clear b
        go_wp2_with fail
        refine (LL.out _ _ Q.out).mono ?_
        rintro e wb ⟨rfl, b⟩
        replace Q := Lib.hid (Q.out.after b)
        clear b
        go_wp2_with fail
        go_round
        case rel => exact ⟨4, rfl, by omega, Q⟩
        case measure => simp [intOf]
    · have AA := Lib.hid (AJ.out 4)
      have LL := Lib.hid fun g w' h => LJ.out 4 g w' (by omega) h
      have HO := Lib.hid (HOUT.out 4 (by omega))
      have hj := HAND.out (a / 4294967296) (by omega)
      rw [show ((4 : Nat) : Int) = 4 from rfl] at AA LL ⊢
      generalize bAt y.b 4 = cj at *
      generalize atI 1 (4 : Int) = aj at *
      clear AJ LJ HOUT HAND
      have VC : ∀ (P : Prop), (((4 : Int) < o) → cj = a / 4294967296 % 256 → P) → ((o : Int) + 1 ≤ 4 → ¬ ((4 : Int) < o) → cj = a / 4294967296 % 256 → P) → (¬ ((4 : Int) < o) → ¬ ((o : Int) + 1 ≤ 4) → P) → P := fun P p1 p2 p3 => by
        by_cases c1 : (4 : Int) < o
        · exact p1 c1 (HO.out (by omega))
        · by_cases c2 : (o : Int) + 1 ≤ 4
          · exact p2 c2 c1 (HO.out (by omega))
          · exact p3 c1 c2
      have VH := Lib.hid VC
      clear VC HO
      refine VH.out _ (fun c1 hc => ?_) (fun c2 c1 hc => ?_) (fun c1 c2 => ?_)
      · clear VH
        try simp only [Int.ediv_one] at hc
        subst hc
        go_wp2_with fail
        refine (AA.out _).mono ?_
        rintro e wa ⟨rfl, b⟩
        replace Q := Lib.hid (Q.out.after b)
        clear b
        go_wp2_with fail
        refine (LL.out _ _ Q.out).mono ?_
        rintro e wb ⟨rfl, b⟩
        replace Q := Lib.hid (Q.out.after b)
        clear b
        go_wp2_with fail
        go_round
        case rel => exact ⟨5, rfl, by omega, Q⟩
        case measure => simp [intOf]
      · clear VH
        try simp only [Int.ediv_one] at hc
        subst hc
        go_wp2_with fail
        refine (AA.out _).mono ?_
        rintro e wa ⟨rfl, b⟩
        replace Q := Lib.hid (Q.out.after b)
        clear b
        go_wp2_with fail
        refine (LL.out _ _ Q.out).mono ?_
        rintro e wb ⟨rfl, b⟩
        replace Q := Lib.hid (Q.out.after b)
        clear b
        go_wp2_with fail
        go_round
        case rel => exact ⟨5, rfl, by omega, Q⟩
        case measure => simp [intOf]
      · clear VH
        go_wp2_with fail
        refine (AA.out _).mono ?_
        rintro e wa ⟨rfl, b⟩
        replace Q := Lib.hid (Q.out.after b)
        clear b
        go_wp2_with fail
        refine (LL.out _ _ Q.out).mono ?_
        rintro e wb ⟨rfl, b⟩
        replace Q := Lib.hid (Q.out.after b)
        clear b
        go_wp2_with fail
        go_round
        case rel => exact ⟨5, rfl, by omega, Q⟩
        case measure => simp [intOf]
    · have AA := Lib.hid (AJ.out 5)
      have LL := Lib.hid fun g w' h => LJ.out 5 g w' (by omega) h
      have HO := Lib.hid (HOUT.out 5 (by omega))
      have hj := HAND.out (a / 1099511627776) (by omega)
      rw [show ((5 : Nat) : Int) = 5 from rfl] at AA LL ⊢
      generalize bAt y.b 5 = cj at *
      generalize atI 1 (5 : Int) = aj at *
      clear AJ LJ HOUT HAND
      have VC : ∀ (P : Prop), (((5 : Int) < o) → cj = a / 1099511627776 % 256 → P) → ((o : Int) + 1 ≤ 5 → ¬ ((5 : Int) < o) → cj = a / 1099511627776 % 256 → P) → (¬ ((5 : Int) < o) → ¬ ((o : Int) + 1 ≤ 5) → P) → P := fun P p1 p2 p3 => by
        by_cases c1 : (5 : Int) < o
        · exact p1 c1 (HO.out (by omega))
        · by_cases c2 : (o : Int) + 1 ≤ 5
          · exact p2 c2 c1 (HO.out (by omega))
          · exact p3 c1 c2
      have VH := Lib.hid VC
      clear VC HO
      refine VH.out _ (fun c1 hc => ?_) (fun c2 c1 hc => ?_) (fun c1 c2 => ?_)
      · clear VH
        try simp only [Int.ediv_one] at hc
        subst hc
        go_wp2_with fail
        refine (AA.out _).mono ?_
        rintro e wa ⟨rfl, b⟩
        replace Q := Lib.hid (Q.out.after b)
        clear b
        go_wp2_with fail
        refine (LL.out _ _ Q.out).mono ?_
        rintro e wb ⟨rfl, b⟩
        replace Q := Lib.hid (Q.out.after b)
        clear b
        go_wp2_with fail
        go_round
        case rel => exact ⟨6, rfl, by omega, Q⟩
        case measure => simp [intOf]
      · clear VH
        try simp only [Int.ediv_one] at hc
        subst hc
        go_wp2_with fail
        refine (AA.out _).mono ?_
        rintro e wa ⟨rfl, b⟩
        replace Q := Lib.hid (Q.out.after b)
        clear b
        go_wp2_with fail
        refine (LL.out _ _ Q.out).mono ?_
        rintro e wb ⟨rfl, b⟩
        replace Q := Lib.hid (Q.out.after b)
        clear b
        go_wp2_with fail
        go_round
        case rel => exact ⟨6, rfl, by omega, Q⟩
        case measure => simp [intOf]
      · clear VH
        go_wp2_with fail
        refine (AA.out _).mono ?_
        rintro e wa ⟨rfl, b⟩
        replace Q := Lib.hid (Q.out.after b)
        clear b
        go_wp2_with fail
        refine (LL.out _ _ Q.out).mono ?_
        rintro e wb ⟨rfl, b⟩
        replace Q := Lib.hid (Q.out.after b)
        clear b
        go_wp2_with fail
        go_round
        case rel => exact ⟨6, rfl, by omega, Q⟩
        case measure => simp [intOf]
    · have AA := Lib.hid (AJ.out 6)
      have LL := Lib.hid fun g w' h => LJ.out 6 g w' (by omega) h
      have HO := Lib.hid (HOUT.out 6 (by omega))
      have hj := HAND.out (a / 281474976710656) (by omega)
      rw [show ((6 : Nat) : Int) = 6 from rfl] at AA LL ⊢
      generalize bAt y.b 6 = cj at *
      generalize atI 1 (6 : Int) = aj at *
      clear AJ LJ HOUT HAND
      have VC : ∀ (P : Prop), (((6 : Int) < o) → cj = a / 281474976710656 % 256 → P) → ((o : Int) + 1 ≤ 6 → ¬ ((6 : Int) < o) → cj = a / 281474976710656 % 256 → P) → (¬ ((6 : Int) < o) → ¬ ((o : Int) + 1 ≤ 6) → P) → P := fun P p1 p2 p3 => by
        by_cases c1 : (6 : Int) < o
        · exact p1 c1 (HO.out (by omega))
        · by_cases c2 : (o : Int) + 1 ≤ 6
          · exact p2 c2 c1 (HO.out (by omega))
          · exact p3 c1 c2
      have VH := Lib.hid VC
      clear VC HO
      refine VH.out _ (fun c1 hc => ?_) (fun c2 c1 hc => ?_) (fun c1 c2 => ?_)
      · clear VH
        try simp only [Int.ediv_one] at hc
        subst hc
        go_wp2_with fail
        refine (AA.out _).mono ?_
        rintro e wa ⟨rfl, b⟩
        replace Q := Lib.hid (Q.out.after b)
        clear b
        go_wp2_with fail
        refine (LL.out _ _ Q.out).mono ?_
        rintro e wb ⟨rfl, b⟩
        replace Q := Lib.hid (Q.out.after b)
        clear b
        go_wp2_with fail
        go_round
        case rel => exact ⟨7, rfl, by omega, Q⟩
        case measure => simp [intOf]
      · clear VH
        try simp only [Int.ediv_one] at hc
        subst hc
        go_wp2_with fail
        refine (AA.out _).mono ?_
        rintro e wa ⟨rfl, b⟩
        replace Q := Lib.hid (Q.out.after b)
        clear b
        go_wp2_with fail
        refine (LL.out _ _ Q.out).mono ?_
        rintro e wb ⟨rfl, b⟩
        replace Q := Lib.hid (Q.out.after b)
        clear b
        go_wp2_with fail
        go_round
        case rel => exact ⟨7, rfl, by omega, Q⟩
        case measure => simp [intOf]
      · clear VH
        go_wp2_with fail
        refine (AA.out _).mono ?_
        rintro e wa ⟨rfl, b⟩
        replace Q := Lib.hid (Q.out.after b)
        clear b
        go_wp2_with fail
        refine (LL.out _ _ Q.out).mono ?_
        rintro e wb ⟨rfl, b⟩
        replace Q := Lib.hid (Q.out.after b)
        clear b
        go_wp2_with fail
        go_round
        case rel => exact ⟨7, rfl, by omega, Q⟩
        case measure => simp [intOf]
    · have AA := Lib.hid (AJ.out 7)
      have LL := Lib.hid fun g w' h => LJ.out 7 g w' (by omega) h
      have HO := Lib.hid (HOUT.out 7 (by omega))
      have hj := HAND.out (a / 72057594037927936) (by omega)
      rw [show ((7 : Nat) : Int) = 7 from rfl] at AA LL ⊢
      generalize bAt y.b 7 = cj at *
      generalize atI 1 (7 : Int) = aj at *
      clear AJ LJ HOUT HAND
      have VC : ∀ (P : Prop), (((7 : Int) < o) → cj = a / 72057594037927936 % 256 → P) → ((o : Int) + 1 ≤ 7 → ¬ ((7 : Int) < o) → cj = a / 72057594037927936 % 256 → P) → (¬ ((7 : Int) < o) → ¬ ((o : Int) + 1 ≤ 7) → P) → P := fun P p1 p2 p3 => by
        by_cases c1 : (7 : Int) < o
        · exact p1 c1 (HO.out (by omega))
        · by_cases c2 : (o : Int) + 1 ≤ 7
          · exact p2 c2 c1 (HO.out (by omega))
          · exact p3 c1 c2
      have VH := Lib.hid VC
      clear VC HO
      refine VH.out _ (fun c1 hc => ?_) (fun c2 c1 hc => ?_) (fun c1 c2 => ?_)
      · exact absurd c1 (by omega)
      · clear VH
        try simp only [Int.ediv_one] at hc
        subst hc
        go_wp2_with fail
        refine (AA.out _).mono ?_
        rintro e wa ⟨rfl, b⟩
        replace Q := Lib.hid (Q.out.after b)
        clear b
        go_wp2_with fail
        refine (LL.out _ _ Q.out).mono ?_
        rintro e wb ⟨rfl, b⟩
        replace Q := Lib.hid (Q.out.after b)
        clear b
        go_wp2_with fail
        go_round
        case rel => exact ⟨8, rfl, by omega, Q⟩
        case measure => simp [intOf]
      · clear VH
        go_wp2_with fail
        refine (AA.out _).mono ?_
        rintro e wa ⟨rfl, b⟩
        replace Q := Lib.hid (Q.out.after b)
        clear b
        go_wp2_with fail
        refine (LL.out _ _ Q.out).mono ?_
        rintro e wb ⟨rfl, b⟩
        replace Q := Lib.hid (Q.out.after b)
        clear b
        go_wp2_with fail
        go_round
        case rel => exact ⟨8, rfl, by omega, Q⟩
        case measure => simp [intOf]
    · rw [show ((8 : Nat) : Int) = 8 from rfl]
      go_wp2_with fail
      go_ret
      exact ⟨rfl, Q.out.below⟩

set_option maxRecDepth 100000 in
set_option maxHeartbeats 4000000 in
theorem l8_MemLast_2z (a b off size : Int) (w : World) (ha : 0 ≤ a ∧ a ≤ 18446744073709551615) (hb : 0 ≤ b ∧ b ≤ 18446744073709551615) (hoff : 0 ≤ off ∧ off ≤ 255) (hsz : 0 ≤ size ∧ size ≤ 255) (o : Nat) (ho : off % 8 = o) (hz : size % 4 = 1) (hzo : o = 0) : Calls Try.prog 8 #[.int .u64 a, .int .u64 b, .int .u8 off, .int .u8 size] w (Fine w) := by
  have N := Lib.hid (mm_New w)
  have SH := Lib.hid l8_shown
  have o7 : o ≤ 7 := by omega
  have ho2 : off.tmod 8 = o := by rw [← ho]; exact Int.tmod_eq_emod_of_nonneg hoff.1
  have hz2 : size.tmod 4 = 1 := by rw [← hz]; exact Int.tmod_eq_emod_of_nonneg hsz.1
  have hlen : paL.b.length = 16 := List.length_replicate
  have hbl : paL.bl.length = paL.b.length := by rw [hlen]; exact List.length_replicate
  have l1 : (paSet paL 0 8 a).b.length = 16 := (putN_len _ _ _).trans hlen
  have l2 : (paSet paL 0 8 a).bl.length = (paSet paL 0 8 a).b.length := by rw [l1]; exact (putN_len _ _ _).trans (hbl.trans hlen)
  obtain ⟨_, _, b1, b2⟩ := at_parts (i := 1) (o := (o : Int)) (by omega) (by omega)
  have e1 : pStore [paL] (atI 1 0) 8 a = ([paSet paL 0 8 a], 0) := store_in (a := paL) (o := 0) (s := 8) (by show (0 : Int) ≤ 1 ∧ (1 : Int) < 2147483648; omega) (by omega) (by omega) (by rw [hlen]; omega) rfl
  have e2 : pStore [paSet paL 0 8 a] (atI 1 o) 2 b = ([paSet (paSet paL 0 8 a) o 2 b], 0) := store_in (a := paSet paL 0 8 a) (o := o) (s := 2) (by show (0 : Int) ≤ 1 ∧ (1 : Int) < 2147483648; omega) (by omega) (by omega) (by rw [l1]; omega) rfl
  have e3 : pLoad [paSet (paSet paL 0 8 a) o 2 b] (atI 1 o) 2 = (b % 65536, 0) := by
    have := load_part (a := paSet paL 0 8 a) (o := o) (s := 2) (d := 0) (t := 2) (n := b) (by show (0 : Int) ≤ 1 ∧ (1 : Int) < 2147483648; omega) (by omega) (by omega) (by rw [l1]; omega) l2 (by omega)
    simp at this
    exact this
  have HLD : Hid (∀ i : Nat, i < 8 → pLoad [paSet (paSet paL 0 8 a) o 2 b] (atI 1 i) 1 = (bAt (paSet (paSet paL 0 8 a) o 2 b).b i, 0)) := Lib.hid fun i hi => by
    have h1 := load_one (a := paSet (paSet paL 0 8 a) o 2 b) (o := i) (s := 1) (by show (0 : Int) ≤ 1 ∧ (1 : Int) < 2147483648; omega) (by omega) rfl
    have hr : rdA (paSet (paSet paL 0 8 a) o 2 b) i 1 = ([bAt (paSet (paSet paL 0 8 a) o 2 b).b i], 0) := by
      rw [read_byte, if_pos (by rw [show (paSet (paSet paL 0 8 a) o 2 b).b.length = 16 from (putN_len _ _ _).trans l1]; omega), set_bit (by rw [l2, l1]; omega), set_bit (a := paL) (by rw [hbl, hlen]; omega)]
      rw [show (if o ≤ i ∧ i < o + 2 then false else if 0 ≤ i ∧ i < 0 + 8 then false else paL.bl.getD i false) = false by split; rfl; rw [if_pos (by omega)]]
      rw [if_neg Bool.false_ne_true]
    rw [hr, if_pos rfl, leN_one] at h1
    exact h1
  have HOUT : Hid (∀ i : Nat, i < 8 → ¬ (o ≤ i ∧ i < o + 2) → bAt (paSet (paSet paL 0 8 a) o 2 b).b i = a / 256 ^ i % 256) := Lib.hid fun i hi hn => by
    rw [set_byte (by rw [l1]; omega), if_neg hn, set_byte (by rw [hlen]; omega), if_pos (by omega), leB_at _ _ _ (by omega)]
    rfl
  have A0 := Lib.hid fun w' => mm_at 1 0 w' 4294967296 rfl
  have A1 := Lib.hid fun w' => mm_at 1 o w' _ rfl
  have AJ := Lib.hid fun (j : Nat) w' => mm_at 1 (j : Int) w' _ rfl
  have MK := Lib.hid fun g w' B (h : Mm w w' g []) (hb : BytS w' B (List.replicate 16 0)) => mm_Make 1 (List.replicate 16 0) B 16 true false h hb (okB_zeros 16) (by rw [List.length_replicate]; omega) (by unfold maxLen; omega) (by simp)
  rw [show pMake [] 1 (List.replicate 16 0) true false = ([paL], 0) by kernel_rfl] at MK
  have S1 := Lib.hid fun g w' (h : Mm w w' g [paL]) => mm_Store 4294967296 8 a h (by omega) ha
  rw [show (4294967296 : Int) = atI 1 0 from rfl, e1] at S1
  rw [show atI 1 0 = (4294967296 : Int) from rfl] at S1
  have S2 := Lib.hid fun g w' (h : Mm w w' g [paSet paL 0 8 a]) => mm_Store (atI 1 o) 2 b h ⟨b1, b2⟩ hb
  rw [e2] at S2
  have L1 := Lib.hid fun g w' (h : Mm w w' g [paSet (paSet paL 0 8 a) o 2 b]) => mm_Load (atI 1 o) 2 h ⟨b1, b2⟩
  rw [e3] at L1
  have LJ : Hid (∀ (j : Nat) g w', j < 8 → Mm w w' g [paSet (paSet paL 0 8 a) o 2 b] → Calls Try.prog 16 #[.pointer (some ⟨g, 0, none⟩), .int .u64 (atI 1 j), .int .i64 1] w' (Gives (.tuple #[.int .u64 (bAt (paSet (paSet paL 0 8 a) o 2 b).b j), .int .i64 0]) w')) := Lib.hid fun j g w' hj h => by
    obtain ⟨_, _, c1, c2⟩ := at_parts (i := 1) (o := (j : Int)) (by omega) (by omega)
    have := mm_Load (atI 1 j) 1 h ⟨c1, c2⟩
    rw [HLD.out j hj] at this
    exact this
  have hand : bits .and .u64 b 65535 = b % 65536 := by
    have := and_low (n := b) (k := 16) hb (by omega)
    simpa using this
  have HAND : Hid (∀ x : Int, 0 ≤ x ∧ x ≤ 18446744073709551615 → bits .and .u64 x 255 = x % 256) := Lib.hid fun x hx => by
    have := and_low (n := x) (k := 8) hx (by omega)
    simpa using this
  clear e1 e2 e3 hlen hbl l1 l2 b1 b2 HLD
  generalize paSet (paSet paL 0 8 a) o 2 b = y at *
  generalize paSet paL 0 8 a = y1 at *
  have o0 : (0 : Int) ≤ o := by omega
  have o7i : (o : Int) ≤ 7 := by omega
  generalize atI 1 (o : Int) = a1 at *
  subst hzo
  have e00 : ((0 : Nat) : Int) = 0 := rfl
  rw [e00] at A1 ho2 ho
  clear o0 o7i e00
  go_enter Try.func8, Try.ntmps8
  go_wp2_with fail
  refine (SH.out _).mono ?_
  rintro e w0 ⟨rfl, b0⟩
  have V := Lib.hid b0
  clear b0
  go_wp2_with fail
  refine (N.out _ V.out).mono ?_
  rintro e w1 ⟨g, rfl, q1⟩
  have Q := Lib.hid q1
  clear q1 V N SH
  go_wp2_with fail
  generalize w1 = ww at *
  go_region
  replace Q := Lib.hid (Q.out.after (below_alloc (Below.refl _ _) (.cells #[.int .i64 1, .int .i64 2, .int .i64 4, .int .i64 8] 3)).drew)
  generalize (ww.alloc (.cells #[.int .i64 1, .int .i64 2, .int .i64 4, .int .i64 8] 3)).drew = wl at *
  obtain ⟨w2, hmk, hown, hgr⟩ := made_zeros 16 w.heap.size (by omega) wl Q.out.below.size
  have hmk' : (Instr.makeSlice 32 (.int .i64 16) (.int .i64 16)).run Try.prog wl = .ok (.slice (some ⟨wl.heap.size, 0, none⟩) 16 16) w2 := hmk
  replace Q := Lib.hid (Q.out.made hgr)
  have HB := Lib.hid (own_bytS (b := List.replicate 16 0) List.length_replicate.symm hown)
  clear hmk hgr hown
  have MK2 := Lib.hid fun w' B h hb => MK.out g w' B h hb
  rw [List.length_replicate] at MK2
  clear MK
  go_wp2_with fail
  refine (MK2.out _ _ Q.out HB.out).mono ?_
  rintro e w3 ⟨rfl, q⟩
  replace Q := Lib.hid q
  clear q
  go_wp2_with fail
  clear HB MK2
  refine (A0.out _).mono ?_
  rintro e w4 ⟨rfl, b⟩
  replace Q := Lib.hid (Q.out.after b)
  clear b
  go_wp2_with fail
  refine (S1.out _ _ Q.out).mono ?_
  rintro e w5 ⟨rfl, q⟩
  replace Q := Lib.hid q
  clear q
  go_wp2_with fail
  refine (A1.out _).mono ?_
  rintro e w6 ⟨rfl, b⟩
  replace Q := Lib.hid (Q.out.after b)
  clear b
  go_wp2_with fail
  refine (S2.out _ _ Q.out).mono ?_
  rintro e w7 ⟨rfl, q⟩
  replace Q := Lib.hid q
  clear q
  go_wp2_with fail
  refine (A1.out _).mono ?_
  rintro e w8 ⟨rfl, b⟩
  replace Q := Lib.hid (Q.out.after b)
  clear b
  go_wp2_with fail
  refine (L1.out _ _ Q.out).mono ?_
  rintro e w9 ⟨rfl, b⟩
  replace Q := Lib.hid (Q.out.after b)
  clear b
  go_wp2_with fail
  clear A0 A1 S1 S2 L1 hmk' ho ho2 hz hz2 hoff hsz
  go_loopw [72] (fun v wr => ∃ j : Nat, v = .int .i64 j ∧ j ≤ 8 ∧ Hid (Mm w wr g [y])) (fun v wr => 8 - (intOf v).toNat)
  case atStart => exact ⟨0, rfl, by omega, Q⟩
  case round =>
    clear Q
    obtain ⟨j, rfl, hj, Q⟩ := hrel
    have hj8 : j = 0 ∨ j = 1 ∨ j = 2 ∨ j = 3 ∨ j = 4 ∨ j = 5 ∨ j = 6 ∨ j = 7 ∨ j = 8 := by omega
    clear hj
    rcases hj8 with rfl | rfl | rfl | rfl | rfl | rfl | rfl | rfl | rfl
    · have AA := Lib.hid (AJ.out 0)
      have LL := Lib.hid fun g w' h => LJ.out 0 g w' (by omega) h
      have HO := Lib.hid (HOUT.out 0 (by omega))
      have hj := HAND.out a ha
      rw [show ((0 : Nat) : Int) = 0 from rfl] at AA LL ⊢
      generalize bAt y.b 0 = cj at *
      generalize atI 1 (0 : Int) = aj at *
      clear AJ LJ HOUT HAND
      clear HO
      go_wp2_with fail
      refine (AA.out _).mono ?_
      rintro e wa ⟨rfl, b⟩
      replace Q := Lib.hid (Q.out.after b)
      clear b
      go_wp2_with fail
      refine (LL.out _ _ Q.out).mono ?_
      rintro e wb ⟨rfl, b⟩
      replace Q := Lib.hid (Q.out.after b)
      clear b
      go_wp2_with fail
      go_round
      case rel => exact ⟨1, rfl, by omega, Q⟩
      case measure => simp [intOf]
    · have AA := Lib.hid (AJ.out 1)
      have LL := Lib.hid fun g w' h => LJ.out 1 g w' (by omega) h
      have HO := Lib.hid (HOUT.out 1 (by omega))
      have hj := HAND.out (a / 256) (by omega)
      rw [show ((1 : Nat) : Int) = 1 from rfl] at AA LL ⊢
      generalize bAt y.b 1 = cj at *
      generalize atI 1 (1 : Int) = aj at *
      clear AJ LJ HOUT HAND
      clear HO
      go_wp2_with fail
      refine (AA.out _).mono ?_
      rintro e wa ⟨rfl, b⟩
      replace Q := Lib.hid (Q.out.after b)
      clear b
      go_wp2_with fail
      refine (LL.out _ _ Q.out).mono ?_
      rintro e wb ⟨rfl, b⟩
      replace Q := Lib.hid (Q.out.after b)
      clear b
      go_wp2_with fail
      go_round
      case rel => exact ⟨2, rfl, by omega, Q⟩
      case measure => simp [intOf]
    · have AA := Lib.hid (AJ.out 2)
      have LL := Lib.hid fun g w' h => LJ.out 2 g w' (by omega) h
      have HO := Lib.hid (HOUT.out 2 (by omega))
      have hj := HAND.out (a / 65536) (by omega)
      rw [show ((2 : Nat) : Int) = 2 from rfl] at AA LL ⊢
      generalize bAt y.b 2 = cj at *
      generalize atI 1 (2 : Int) = aj at *
      clear AJ LJ HOUT HAND
      have hc := HO.out (by omega)
      clear HO
      subst hc
      go_wp2_with fail
      refine (AA.out _).mono ?_
      rintro e wa ⟨rfl, b⟩
      replace Q := Lib.hid (Q.out.after b)
      clear b
      go_wp2_with fail
      refine (LL.out _ _ Q.out).mono ?_
      rintro e wb ⟨rfl, b⟩
      replace Q := Lib.hid (Q.out.after b)
      clear b
      go_wp2_with fail
      go_round
      case rel => exact ⟨3, rfl, by omega, Q⟩
      case measure => simp [intOf]
    · have AA := Lib.hid (AJ.out 3)
      have LL := Lib.hid fun g w' h => LJ.out 3 g w' (by omega) h
      have HO := Lib.hid (HOUT.out 3 (by omega))
      have hj := HAND.out (a / 16777216) (by omega)
      rw [show ((3 : Nat) : Int) = 3 from rfl] at AA LL ⊢
      generalize bAt y.b 3 = cj at *
      generalize atI 1 (3 : Int) = aj at *
      clear AJ LJ HOUT HAND
      have hc := HO.out (by omega)
      clear HO
      subst hc
      go_wp2_with fail
      refine (AA.out _).mono ?_
      rintro e wa ⟨rfl, b⟩
      replace Q := Lib.hid (Q.out.after b)
      clear b
      go_wp2_with fail
      refine (LL.out _ _ Q.out).mono ?_
      rintro e wb ⟨rfl, b⟩
      replace Q := Lib.hid (Q.out.after b)
      clear b
      go_wp2_with fail
      go_round
      case rel => exact ⟨4, rfl, by omega, Q⟩
      case measure => simp [intOf]
    · have AA := Lib.hid (AJ.out 4)
      have LL := Lib.hid fun g w' h => LJ.out 4 g w' (by omega) h
      have HO := Lib.hid (HOUT.out 4 (by omega))
      have hj := HAND.out (a / 4294967296) (by omega)
      rw [show ((4 : Nat) : Int) = 4 from rfl] at AA LL ⊢
      generalize bAt y.b 4 = cj at *
      generalize atI 1 (4 : Int) = aj at *
      clear AJ LJ HOUT HAND
      have hc := HO.out (by omega)
      clear HO
      subst hc
      go_wp2_with fail
      refine (AA.out _).mono ?_
      rintro e wa ⟨rfl, b⟩
      replace Q := Lib.hid (Q.out.after b)
      clear b
      go_wp2_with fail
      refine (LL.out _ _ Q.out).mono ?_
      rintro e wb ⟨rfl, b⟩
      replace Q := Lib.hid (Q.out.after b)
      clear b
      go_wp2_with fail
      go_round
      case rel => exact ⟨5, rfl, by omega, Q⟩
      case measure => simp [intOf]
    · have AA := Lib.hid (AJ.out 5)
      have LL := Lib.hid fun g w' h => LJ.out 5 g w' (by omega) h
      have HO := Lib.hid (HOUT.out 5 (by omega))
      have hj := HAND.out (a / 1099511627776) (by omega)
      rw [show ((5 : Nat) : Int) = 5 from rfl] at AA LL ⊢
      generalize bAt y.b 5 = cj at *
      generalize atI 1 (5 : Int) = aj at *
      clear AJ LJ HOUT HAND
      have hc := HO.out (by omega)
      clear HO
      subst hc
      go_wp2_with fail
      refine (AA.out _).mono ?_
      rintro e wa ⟨rfl, b⟩
      replace Q := Lib.hid (Q.out.after b)
      clear b
      go_wp2_with fail
      refine (LL.out _ _ Q.out).mono ?_
      rintro e wb ⟨rfl, b⟩
      replace Q := Lib.hid (Q.out.after b)
      clear b
      go_wp2_with fail
      go_round
      case rel => exact ⟨6, rfl, by omega, Q⟩
      case measure => simp [intOf]
    · have AA := Lib.hid (AJ.out 6)
      have LL := Lib.hid fun g w' h => LJ.out 6 g w' (by omega) h
      have HO := Lib.hid (HOUT.out 6 (by omega))
      have hj := HAND.out (a / 281474976710656) (by omega)
      rw [show ((6 : Nat) : Int) = 6 from rfl] at AA LL ⊢
      generalize bAt y.b 6 = cj at *
      generalize atI 1 (6 : Int) = aj at *
      clear AJ LJ HOUT HAND
      have hc := HO.out (by omega)
      clear HO
      subst hc
      go_wp2_with fail
      refine (AA.out _).mono ?_
      rintro e wa ⟨rfl, b⟩
      replace Q := Lib.hid (Q.out.after b)
      clear b
      go_wp2_with fail
      refine (LL.out _ _ Q.out).mono ?_
      rintro e wb ⟨rfl, b⟩
      replace Q := Lib.hid (Q.out.after b)
      clear b
      go_wp2_with fail
      go_round
      case rel => exact ⟨7, rfl, by omega, Q⟩
      case measure => simp [intOf]
    · have AA := Lib.hid (AJ.out 7)
      have LL := Lib.hid fun g w' h => LJ.out 7 g w' (by omega) h
      have HO := Lib.hid (HOUT.out 7 (by omega))
      have hj := HAND.out (a / 72057594037927936) (by omega)
      rw [show ((7 : Nat) : Int) = 7 from rfl] at AA LL ⊢
      generalize bAt y.b 7 = cj at *
      generalize atI 1 (7 : Int) = aj at *
      clear AJ LJ HOUT HAND
      have hc := HO.out (by omega)
      clear HO
      subst hc
      go_wp2_with fail
      refine (AA.out _).mono ?_
      rintro e wa ⟨rfl, b⟩
      replace Q := Lib.hid (Q.out.after b)
      clear b
      go_wp2_with fail
      refine (LL.out _ _ Q.out).mono ?_
      rintro e wb ⟨rfl, b⟩
      replace Q := Lib.hid (Q.out.after b)
      clear b
      go_wp2_with fail
      go_round
      case rel => exact ⟨8, rfl, by omega, Q⟩
      case measure => simp [intOf]
    · rw [show ((8 : Nat) : Int) = 8 from rfl]
      go_wp2_with fail
      go_ret
      exact ⟨rfl, Q.out.below⟩

set_option maxRecDepth 100000 in
set_option maxHeartbeats 4000000 in
theorem l8_MemLast_2 (a b off size : Int) (w : World) (ha : 0 ≤ a ∧ a ≤ 18446744073709551615) (hb : 0 ≤ b ∧ b ≤ 18446744073709551615) (hoff : 0 ≤ off ∧ off ≤ 255) (hsz : 0 ≤ size ∧ size ≤ 255) (o : Nat) (ho : off % 8 = o) (hz : size % 4 = 1) (hzo : 0 < o) : Calls Try.prog 8 #[.int .u64 a, .int .u64 b, .int .u8 off, .int .u8 size] w (Fine w) := by
  have N := Lib.hid (mm_New w)
  have SH := Lib.hid l8_shown
  have o7 : o ≤ 7 := by omega
  have ho2 : off.tmod 8 = o := by rw [← ho]; exact Int.tmod_eq_emod_of_nonneg hoff.1
  have hz2 : size.tmod 4 = 1 := by rw [← hz]; exact Int.tmod_eq_emod_of_nonneg hsz.1
  have hlen : paL.b.length = 16 := List.length_replicate
  have hbl : paL.bl.length = paL.b.length := by rw [hlen]; exact List.length_replicate
  have l1 : (paSet paL 0 8 a).b.length = 16 := (putN_len _ _ _).trans hlen
  have l2 : (paSet paL 0 8 a).bl.length = (paSet paL 0 8 a).b.length := by rw [l1]; exact (putN_len _ _ _).trans (hbl.trans hlen)
  obtain ⟨_, _, b1, b2⟩ := at_parts (i := 1) (o := (o : Int)) (by omega) (by omega)
  have e1 : pStore [paL] (atI 1 0) 8 a = ([paSet paL 0 8 a], 0) := store_in (a := paL) (o := 0) (s := 8) (by show (0 : Int) ≤ 1 ∧ (1 : Int) < 2147483648; omega) (by omega) (by omega) (by rw [hlen]; omega) rfl
  have e2 : pStore [paSet paL 0 8 a] (atI 1 o) 2 b = ([paSet (paSet paL 0 8 a) o 2 b], 0) := store_in (a := paSet paL 0 8 a) (o := o) (s := 2) (by show (0 : Int) ≤ 1 ∧ (1 : Int) < 2147483648; omega) (by omega) (by omega) (by rw [l1]; omega) rfl
  have e3 : pLoad [paSet (paSet paL 0 8 a) o 2 b] (atI 1 o) 2 = (b % 65536, 0) := by
    have := load_part (a := paSet paL 0 8 a) (o := o) (s := 2) (d := 0) (t := 2) (n := b) (by show (0 : Int) ≤ 1 ∧ (1 : Int) < 2147483648; omega) (by omega) (by omega) (by rw [l1]; omega) l2 (by omega)
    simp at this
    exact this
  have HLD : Hid (∀ i : Nat, i < 8 → pLoad [paSet (paSet paL 0 8 a) o 2 b] (atI 1 i) 1 = (bAt (paSet (paSet paL 0 8 a) o 2 b).b i, 0)) := Lib.hid fun i hi => by
    have h1 := load_one (a := paSet (paSet paL 0 8 a) o 2 b) (o := i) (s := 1) (by show (0 : Int) ≤ 1 ∧ (1 : Int) < 2147483648; omega) (by omega) rfl
    have hr : rdA (paSet (paSet paL 0 8 a) o 2 b) i 1 = ([bAt (paSet (paSet paL 0 8 a) o 2 b).b i], 0) := by
      rw [read_byte, if_pos (by rw [show (paSet (paSet paL 0 8 a) o 2 b).b.length = 16 from (putN_len _ _ _).trans l1]; omega), set_bit (by rw [l2, l1]; omega), set_bit (a := paL) (by rw [hbl, hlen]; omega)]
      rw [show (if o ≤ i ∧ i < o + 2 then false else if 0 ≤ i ∧ i < 0 + 8 then false else paL.bl.getD i false) = false by split; rfl; rw [if_pos (by omega)]]
      rw [if_neg Bool.false_ne_true]
    rw [hr, if_pos rfl, leN_one] at h1
    exact h1
  have HOUT : Hid (∀ i : Nat, i < 8 → ¬ (o ≤ i ∧ i < o + 2) → bAt (paSet (paSet paL 0 8 a) o 2 b).b i = a / 256 ^ i % 256) := Lib.hid fun i hi hn => by
    rw [set_byte (by rw [l1]; omega), if_neg hn, set_byte (by rw [hlen]; omega), if_pos (by omega), leB_at _ _ _ (by omega)]
    rfl
  have A0 := Lib.hid fun w' => mm_at 1 0 w' 4294967296 rfl
  have A1 := Lib.hid fun w' => mm_at 1 o w' _ rfl
  have AJ := Lib.hid fun (j : Nat) w' => mm_at 1 (j : Int) w' _ rfl
  have MK := Lib.hid fun g w' B (h : Mm w w' g []) (hb : BytS w' B (List.replicate 16 0)) => mm_Make 1 (List.replicate 16 0) B 16 true false h hb (okB_zeros 16) (by rw [List.length_replicate]; omega) (by unfold maxLen; omega) (by simp)
  rw [show pMake [] 1 (List.replicate 16 0) true false = ([paL], 0) by kernel_rfl] at MK
  have S1 := Lib.hid fun g w' (h : Mm w w' g [paL]) => mm_Store 4294967296 8 a h (by omega) ha
  rw [show (4294967296 : Int) = atI 1 0 from rfl, e1] at S1
  rw [show atI 1 0 = (4294967296 : Int) from rfl] at S1
  have S2 := Lib.hid fun g w' (h : Mm w w' g [paSet paL 0 8 a]) => mm_Store (atI 1 o) 2 b h ⟨b1, b2⟩ hb
  rw [e2] at S2
  have L1 := Lib.hid fun g w' (h : Mm w w' g [paSet (paSet paL 0 8 a) o 2 b]) => mm_Load (atI 1 o) 2 h ⟨b1, b2⟩
  rw [e3] at L1
  have LJ : Hid (∀ (j : Nat) g w', j < 8 → Mm w w' g [paSet (paSet paL 0 8 a) o 2 b] → Calls Try.prog 16 #[.pointer (some ⟨g, 0, none⟩), .int .u64 (atI 1 j), .int .i64 1] w' (Gives (.tuple #[.int .u64 (bAt (paSet (paSet paL 0 8 a) o 2 b).b j), .int .i64 0]) w')) := Lib.hid fun j g w' hj h => by
    obtain ⟨_, _, c1, c2⟩ := at_parts (i := 1) (o := (j : Int)) (by omega) (by omega)
    have := mm_Load (atI 1 j) 1 h ⟨c1, c2⟩
    rw [HLD.out j hj] at this
    exact this
  have hand : bits .and .u64 b 65535 = b % 65536 := by
    have := and_low (n := b) (k := 16) hb (by omega)
    simpa using this
  have HAND : Hid (∀ x : Int, 0 ≤ x ∧ x ≤ 18446744073709551615 → bits .and .u64 x 255 = x % 256) := Lib.hid fun x hx => by
    have := and_low (n := x) (k := 8) hx (by omega)
    simpa using this
  clear e1 e2 e3 hlen hbl l1 l2 b1 b2 HLD
  generalize paSet (paSet paL 0 8 a) o 2 b = y at *
  generalize paSet paL 0 8 a = y1 at *
  have o0 : (0 : Int) ≤ o := by omega
  have o7i : (o : Int) ≤ 7 := by omega
  generalize atI 1 (o : Int) = a1 at *
  have o1 : (1 : Int) ≤ o := by omega
  clear hzo
  go_enter Try.func8, Try.ntmps8
  go_wp2_with fail
  refine (SH.out _).mono ?_
  rintro e w0 ⟨rfl, b0⟩
  have V := Lib.hid b0
  clear b0
  go_wp2_with fail
  refine (N.out _ V.out).mono ?_
  rintro e w1 ⟨g, rfl, q1⟩
  have Q := Lib.hid q1
  clear q1 V N SH
  go_wp2_with fail
  generalize w1 = ww at *
  go_region
  replace Q := Lib.hid (Q.out.after (below_alloc (Below.refl _ _) (.cells #[.int .i64 1, .int .i64 2, .int .i64 4, .int .i64 8] 3)).drew)
  generalize (ww.alloc (.cells #[.int .i64 1, .int .i64 2, .int .i64 4, .int .i64 8] 3)).drew = wl at *
  obtain ⟨w2, hmk, hown, hgr⟩ := made_zeros 16 w.heap.size (by omega) wl Q.out.below.size
  have hmk' : (Instr.makeSlice 32 (.int .i64 16) (.int .i64 16)).run Try.prog wl = .ok (.slice (some ⟨wl.heap.size, 0, none⟩) 16 16) w2 := hmk
  replace Q := Lib.hid (Q.out.made hgr)
  have HB := Lib.hid (own_bytS (b := List.replicate 16 0) List.length_replicate.symm hown)
  clear hmk hgr hown
  have MK2 := Lib.hid fun w' B h hb => MK.out g w' B h hb
  rw [List.length_replicate] at MK2
  clear MK
  go_wp2_with fail
  refine (MK2.out _ _ Q.out HB.out).mono ?_
  rintro e w3 ⟨rfl, q⟩
  replace Q := Lib.hid q
  clear q
  go_wp2_with fail
  clear HB MK2
  refine (A0.out _).mono ?_
  rintro e w4 ⟨rfl, b⟩
  replace Q := Lib.hid (Q.out.after b)
  clear b
  go_wp2_with fail
  refine (S1.out _ _ Q.out).mono ?_
  rintro e w5 ⟨rfl, q⟩
  replace Q := Lib.hid q
  clear q
  go_wp2_with fail
  refine (A1.out _).mono ?_
  rintro e w6 ⟨rfl, b⟩
  replace Q := Lib.hid (Q.out.after b)
  clear b
  go_wp2_with fail
  refine (S2.out _ _ Q.out).mono ?_
  rintro e w7 ⟨rfl, q⟩
  replace Q := Lib.hid q
  clear q
  go_wp2_with fail
  refine (A1.out _).mono ?_
  rintro e w8 ⟨rfl, b⟩
  replace Q := Lib.hid (Q.out.after b)
  clear b
  go_wp2_with fail
  refine (L1.out _ _ Q.out).mono ?_
  rintro e w9 ⟨rfl, b⟩
  replace Q := Lib.hid (Q.out.after b)
  clear b
  go_wp2_with fail
  clear A0 A1 S1 S2 L1 hmk' ho ho2 hz hz2 hoff hsz
  go_loopw [72] (fun v wr => ∃ j : Nat, v = .int .i64 j ∧ j ≤ 8 ∧ Hid (Mm w wr g [y])) (fun v wr => 8 - (intOf v).toNat)
  case atStart => exact ⟨0, rfl, by omega, Q⟩
  case round =>
    clear Q
    obtain ⟨j, rfl, hj, Q⟩ := hrel
    have hj8 : j = 0 ∨ j = 1 ∨ j = 2 ∨ j = 3 ∨ j = 4 ∨ j = 5 ∨ j = 6 ∨ j = 7 ∨ j = 8 := by omega
    clear hj
    rcases hj8 with rfl | rfl | rfl | rfl | rfl | rfl | rfl | rfl | rfl
    · have AA := Lib.hid (AJ.out 0)
      have LL := Lib.hid fun g w' h => LJ.out 0 g w' (by omega) h
      have HO := Lib.hid (HOUT.out 0 (by omega))
      have hj := HAND.out a ha
      rw [show ((0 : Nat) : Int) = 0 from rfl] at AA LL ⊢
      generalize bAt y.b 0 = cj at *
      generalize atI 1 (0 : Int) = aj at *
      clear AJ LJ HOUT HAND
      have VC : ∀ (P : Prop), (((0 : Int) < o) → cj = a / 1 % 256 → P) → ((o : Int) + 2 ≤ 0 → ¬ ((0 : Int) < o) → cj = a / 1 % 256 → P) → (¬ ((0 : Int) < o) → ¬ ((o : Int) + 2 ≤ 0) → P) → P := fun P p1 p2 p3 => by
        by_cases c1 : (0 : Int) < o
        · exact p1 c1 (HO.out (by omega))
        · by_cases c2 : (o : Int) + 2 ≤ 0
          · exact p2 c2 c1 (HO.out (by omega))
          · exact p3 c1 c2
      have VH := Lib.hid VC
      clear VC HO
      refine VH.out _ (fun c1 hc => ?_) (fun c2 c1 hc => ?_) (fun c1 c2 => ?_)
      · clear VH
        try simp only [Int.ediv_one] at hc
        subst hc
        go_wp2_with fail
        refine (AA.out _).mono ?_
        rintro e wa ⟨rfl, b⟩
        replace Q := Lib.hid (Q.out.after b)
        clear b
        go_wp2_with fail
        refine (LL.out _ _ Q.out).mono ?_
        rintro e wb ⟨rfl, b⟩
        replace Q := Lib.hid (Q.out.after b)
        clear b
        go_wp2_with fail
        go_round
        case rel => exact ⟨1, rfl, by omega, Q⟩
        case measure => simp [intOf]
      · exact absurd c2 (by omega)
      · exact absurd c1 (by omega)
    · have AA := Lib.hid (AJ.out 1)
      have LL := Lib.hid fun g w' h => LJ.out 1 g w' (by omega) h
      have HO := Lib.hid (HOUT.out 1 (by omega))
      have hj := HAND.out (a / 256) (by omega)
      rw [show ((1 : Nat) : Int) = 1 from rfl] at AA LL ⊢
      generalize bAt y.b 1 = cj at *
      generalize atI 1 (1 : Int) = aj at *
      clear AJ LJ HOUT HAND
      have VC : ∀ (P : Prop), (((1 : Int) < o) → cj = a / 256 % 256 → P) → ((o : Int) + 2 ≤ 1 → ¬ ((1 : Int) < o) → cj = a / 256 % 256 → P) → (¬ ((1 : Int) < o) → ¬ ((o : Int) + 2 ≤ 1) → P) → P := fun P p1 p2 p3 => by
        by_cases c1 : (1 : Int) < o
        · exact p1 c1 (HO.out (by omega))
        · by_cases c2 : (o : Int) + 2 ≤ 1
          · exact p2 c2 c1 (HO.out (by omega))
          · exact p3 c1 c2
      have VH := Lib.hid VC
      clear VC HO
      refine VH.out _ (fun c1 hc => ?_) (fun c2 c1 hc => ?_) (fun c1 c2 => ?_)
      · clear VH
        try simp only [Int.ediv_one] at hc
        subst hc
        go_wp2_with fail
        refine (AA.out _).mono ?_
        rintro e wa ⟨rfl, b⟩
        replace Q := Lib.hid (Q.out.after b)
        clear b
        go_wp2_with fail
        refine (LL.out _ _ Q.out).mono ?_
        rintro e wb ⟨rfl, b⟩
        replace Q := Lib.hid (Q.out.after b)
        clear b
        go_wp2_with fail
        go_round
        case rel => exact ⟨2, rfl, by omega, Q⟩
        case measure => simp [intOf]
      · exact absurd c2 (by omega)
      · clear VH
        go_wp2_with fail
        refine (AA.out _).mono ?_
        rintro e wa ⟨rfl, b⟩
        replace Q := Lib.hid (Q.out.after b)
        clear b
        go_wp2_with fail
        refine (LL.out _ _ Q.out).mono ?_
        rintro e wb ⟨rfl, b⟩
        replace Q := Lib.hid (Q.out.after b)
        clear b
        go_wp2_with fail
        go_round
        case rel => exact ⟨2, rfl, by omega, Q⟩
        case measure => simp [intOf]
    · have AA := Lib.hid (AJ.out 2)
      have LL := Lib.hid fun g w' h => LJ.out 2 g w' (by omega) h
      have HO := Lib.hid (HOUT.out 2 (by omega))
      have hj := HAND.out (a / 65536) (by omega)
      rw [show ((2 : Nat) : Int) = 2 from rfl] at AA LL ⊢
      generalize bAt y.b 2 = cj at *
      generalize atI 1 (2 : Int) = aj at *
      clear AJ LJ HOUT HAND
      have VC : ∀ (P : Prop), (((2 : Int) < o) → cj = a / 65536 % 256 → P) → ((o : Int) + 2 ≤ 2 → ¬ ((2 : Int) < o) → cj = a / 65536 % 256 → P) → (¬ ((2 : Int) < o) → ¬ ((o : Int) + 2 ≤ 2) → P) → P := fun P p1 p2 p3 => by
        by_cases c1 : (2 : Int) < o
        · exact p1 c1 (HO.out (by omega))
        · by_cases c2 : (o : Int) + 2 ≤ 2
          · exact p2 c2 c1 (HO.out (by omega))
          · exact p3 c1 c2
      have VH := Lib.hid VC
      clear VC HO
      refine VH.out _ (fun c1 hc => ?_) (fun c2 c1 hc => ?_) (fun c1 c2 => ?_)
      · clear VH
        try simp only [Int.ediv_one] at hc
        subst hc
        go_wp2_with fail
        refine (AA.out _).mono ?_
        rintro e wa ⟨rfl, b⟩
        replace Q := Lib.hid (Q.out.after b)
        clear b
        go_wp2_with fail
        refine (LL.out _ _ Q.out).mono ?_
        rintro e wb ⟨rfl, b⟩
        replace Q := Lib.hid (Q.out.after b)
        clear b
        go_wp2_with fail
        go_round
        case rel => exact ⟨3, rfl, by omega, Q⟩
        case measure => simp [intOf]
      · exact absurd c2 (by omega)
      · clear VH
        go_wp2_with fail
        refine (AA.out _).mono ?_
        rintro e wa ⟨rfl, b⟩
        replace Q := Lib.hid (Q.out.after b)
        clear b
        go_wp2_with fail
        refine (LL.out _ _ Q.out).mono ?_
        rintro e wb ⟨rfl, b⟩
        replace Q := Lib.hid (Q.out.after b)
        clear b
        go_wp2_with fail
        go_round
        case rel => exact ⟨3, rfl, by omega, Q⟩
        case measure => simp [intOf]
    · have AA := Lib.hid (AJ.out 3)
      have LL := Lib.hid fun g w' h => LJ.out 3 g w' (by omega) h
      have HO := Lib.hid (HOUT.out 3 (by omega))
      have hj := HAND.out (a / 16777216) (by omega)
      rw [show ((3 : Nat) : Int) = 3 from rfl] at AA LL ⊢
      generalize bAt y.b 3 = cj at *
      generalize atI 1 (3 : Int) = aj at *
      clear AJ LJ HOUT HAND
      have VC : ∀ (P : Prop), (((3 : Int) < o) → cj = a / 16777216 % 256 → P) → ((o : Int) + 2 ≤ 3 → ¬ ((3 : Int) < o) → cj = a / 16777216 % 256 → P) → (¬ ((3 : Int) < o) → ¬ ((o : Int) + 2 ≤ 3) → P) → P := fun P p1 p2 p3 => by
        by_cases c1 : (3 : Int) < o
        · exact p1 c1 (HO.out (by omega))
        · by_cases c2 : (o : Int) + 2 ≤ 3
          · exact p2 c2 c1 (HO.out (by omega))
          · exact p3 c1 c2
      have VH := Lib.hid VC
      clear VC HO
      refine VH.out _ (fun c1 hc => ?_) (fun c2 c1 hc => ?_) (fun c1 c2 => ?_)
      · clear VH
        try simp only [Int.ediv_one] at hc
        subst hc
        go_wp2_with fail
        refine (AA.out _).mono ?_
        rintro e wa ⟨rfl, b⟩
        replace Q := Lib.hid (Q.out.after b)
        clear b
        go_wp2_with fail
        refine (LL.out _ _ Q.out).mono ?_
        rintro e wb ⟨rfl, b⟩
        replace Q := Lib.hid (Q.out.after b)
        clear b
        go_wp2_with fail
        go_round
        case rel => exact ⟨4, rfl, by omega, Q⟩
        case measure => simp [intOf]
      · clear VH
        try simp only [Int.ediv_one] at hc
        subst hc
        go_wp2_with fail
        refine (AA.out _).mono ?_
        rintro e wa ⟨rfl, b⟩
        replace Q := Lib.hid (Q.out.after b)
        clear b
        go_wp2_with fail
        refine (LL.out _ _ Q.out).mono ?_
        rintro e wb ⟨rfl, b⟩
        replace Q := Lib.hid (Q.out.after b)
        clear b
        go_wp2_with fail
        go_round
        case rel => exact ⟨4, rfl, by omega, Q⟩
        case measure => simp [intOf]
      · clear VH
        go_wp2_with fail
        refine (AA.out _).mono ?_
        rintro e wa ⟨rfl, b⟩
        replace Q := Lib.hid (Q.out.after b)
        clear b
        go_wp2_with fail
        refine (LL.out _ _ Q.out).mono ?_
        rintro e wb ⟨rfl, b⟩
        replace Q := Lib.hid (Q.out.after b)
        clear b
        go_wp2_with fail
        go_round
        case rel => exact ⟨4, rfl, by omega, Q⟩
        case measure => simp [intOf]
    · have AA := Lib.hid (AJ.out 4)
      have LL := Lib.hid fun g w' h => LJ.out 4 g w' (by omega) h
      have HO := Lib.hid (HOUT.out 4 (by omega))
      have hj := HAND.out (a / 4294967296) (by omega)
      rw [show ((4 : Nat) : Int) = 4 from rfl] at AA LL ⊢
      generalize bAt y.b 4 = cj at *
      generalize atI 1 (4 : Int) = aj at *
      clear AJ LJ HOUT HAND
      have VC : ∀ (P : Prop), (((4 : Int) < o) → cj = a / 4294967296 % 256 → P) → ((o : Int) + 2 ≤ 4 → ¬ ((4 : Int) < o) → cj = a / 4294967296 % 256 → P) → (¬ ((4 : Int) < o) → ¬ ((o : Int) + 2 ≤ 4) → P) → P := fun P p1 p2 p3 => by
        by_cases c1 : (4 : Int) < o
        · exact p1 c1 (HO.out (by omega))
        · by_cases c2 : (o : Int) + 2 ≤ 4
          · exact p2 c2 c1 (HO.out (by omega))
          · exact p3 c1 c2
      have VH := Lib.hid VC
      clear VC HO
      refine VH.out _ (fun c1 hc => ?_) (fun c2 c1 hc => ?_) (fun c1 c2 => ?_)
      · clear VH
        try simp only [Int.ediv_one] at hc
        subst hc
        go_wp2_with fail
        refine (AA.out _).mono ?_
        rintro e wa ⟨rfl, b⟩
        replace Q := Lib.hid (Q.out.after b)
        clear b
        go_wp2_with fail
        refine (LL.out _ _ Q.out).mono ?_
        rintro e wb ⟨rfl, b⟩
        replace Q := Lib.hid (Q.out.after b)
        clear b
        go_wp2_with fail
        go_round
        case rel => exact ⟨5, rfl, by omega, Q⟩
        case measure => simp [intOf]
      · clear VH
        try simp only [Int.ediv_one] at hc
        subst hc
        go_wp2_with fail
        refine (AA.out _).mono ?_
        rintro e wa ⟨rfl, b⟩
        replace Q := Lib.hid (Q.out.after b)
        clear b
        go_wp2_with fail
        refine (LL.out _ _ Q.out).mono ?_
        rintro e wb ⟨rfl, b⟩
        replace Q := Lib.hid (Q.out.after b)
        clear b
        go_wp2_with fail
        go_round
        case rel => exact ⟨5, rfl, by omega, Q⟩
        case measure => simp [intOf]
      · clear VH
        go_wp2_with fail
        refine (AA.out _).mono ?_
        rintro e wa ⟨rfl, b⟩
        replace Q := Lib.hid (Q.out.after b)
        clear b
        go_wp2_with fail
        refine (LL.out _ _ Q.out).mono ?_
        rintro e wb ⟨rfl, b⟩
        replace Q := Lib.hid (Q.out.after b)
        clear b
        go_wp2_with fail
        go_round
        case rel => exact ⟨5, rfl, by omega, Q⟩
        case measure => simp [intOf]
    · have AA := Lib.hid (AJ.out 5)
      have LL := Lib.hid fun g w' h => LJ.out 5 g w' (by omega) h
      have HO := Lib.hid (HOUT.out 5 (by omega))
      have hj := HAND.out (a / 1099511627776) (by omega)
      rw [show ((5 : Nat) : Int) = 5 from rfl] at AA LL ⊢
      generalize bAt y.b 5 = cj at *
      generalize atI 1 (5 : Int) = aj at *
      clear AJ LJ HOUT HAND
      have VC : ∀ (P : Prop), (((5 : Int) < o) → cj = a / 1099511627776 % 256 → P) → ((o : Int) + 2 ≤ 5 → ¬ ((5 : Int) < o) → cj = a / 1099511627776 % 256 → P) → (¬ ((5 : Int) < o) → ¬ ((o : Int) + 2 ≤ 5) → P) → P := fun P p1 p2 p3 => by
        by_cases c1 : (5 : Int) < o
        · exact p1 c1 (HO.out (by omega))
        · by_cases c2 : (o : Int) + 2 ≤ 5
          · exact p2 c2 c1 (HO.out (by omega))
          · exact p3 c1 c2
      have VH := Lib.hid VC
      clear VC HO
      refine VH.out _ (fun c1 hc => ?_) (fun c2 c1 hc => ?_) (fun c1 c2 => ?_)
      · clear VH
        try simp only [Int.ediv_one] at hc
        subst hc
        go_wp2_with fail
        refine (AA.out _).mono ?_
        rintro e wa ⟨rfl, b⟩
        replace Q := Lib.hid (Q.out.after b)
        clear b
        go_wp2_with fail
        refine (LL.out _ _ Q.out).mono ?_
        rintro e wb ⟨rfl, b⟩
        replace Q := Lib.hid (Q.out.after b)
        clear b
        go_wp2_with fail
        go_round
        case rel => exact ⟨6, rfl, by omega, Q⟩
        case measure => simp [intOf]
      · clear VH
        try simp only [Int.ediv_one] at hc
        subst hc
        go_wp2_with fail
        refine (AA.out _).mono ?_
        rintro e wa ⟨rfl, b⟩
        replace Q := Lib.hid (Q.out.after b)
        clear b
        go_wp2_with fail
        refine (LL.out _ _ Q.out).mono ?_
        rintro e wb ⟨rfl, b⟩
        replace Q := Lib.hid (Q.out.after b)
        clear b
        go_wp2_with fail
        go_round
        case rel => exact ⟨6, rfl, by omega, Q⟩
        case measure => simp [intOf]
      · clear VH
        go_wp2_with fail
        refine (AA.out _).mono ?_
        rintro e wa ⟨rfl, b⟩
        replace Q := Lib.hid (Q.out.after b)
        clear b
        go_wp2_with fail
        refine (LL.out _ _ Q.out).mono ?_
        rintro e wb ⟨rfl, b⟩
        replace Q := Lib.hid (Q.out.after b)
        clear b
        go_wp2_with fail
        go_round
        case rel => exact ⟨6, rfl, by omega, Q⟩
        case measure => simp [intOf]
    · have AA := Lib.hid (AJ.out 6)
      have LL := Lib.hid fun g w' h => LJ.out 6 g w' (by omega) h
      have HO := Lib.hid (HOUT.out 6 (by omega))
      have hj := HAND.out (a / 281474976710656) (by omega)
      rw [show ((6 : Nat) : Int) = 6 from rfl] at AA LL ⊢
      generalize bAt y.b 6 = cj at *
      generalize atI 1 (6 : Int) = aj at *
      clear AJ LJ HOUT HAND
      have VC : ∀ (P : Prop), (((6 : Int) < o) → cj = a / 281474976710656 % 256 → P) → ((o : Int) + 2 ≤ 6 → ¬ ((6 : Int) < o) → cj = a / 281474976710656 % 256 → P) → (¬ ((6 : Int) < o) → ¬ ((o : Int) + 2 ≤ 6) → P) → P := fun P p1 p2 p3 => by
        by_cases c1 : (6 : Int) < o
        · exact p1 c1 (HO.out (by omega))
        · by_cases c2 : (o : Int) + 2 ≤ 6
          · exact p2 c2 c1 (HO.out (by omega))
          · exact p3 c1 c2
      have VH := Lib.hid VC
      clear VC HO
      refine VH.out _ (fun c1 hc => ?_) (fun c2 c1 hc => ?_) (fun c1 c2 => ?_)
      · clear VH
        try simp only [Int.ediv_one] at hc
        subst hc
        go_wp2_with fail
        refine (AA.out _).mono ?_
        rintro e wa ⟨rfl, b⟩
        replace Q := Lib.hid (Q.out.after b)
        clear b
        go_wp2_with fail
        refine (LL.out _ _ Q.out).mono ?_
        rintro e wb ⟨rfl, b⟩
        replace Q := Lib.hid (Q.out.after b)
        clear b
        go_wp2_with fail
        go_round
        case rel => exact ⟨7, rfl, by omega, Q⟩
        case measure => simp [intOf]
      · clear VH
        try simp only [Int.ediv_one] at hc
        subst hc
        go_wp2_with fail
        refine (AA.out _).mono ?_
        rintro e wa ⟨rfl, b⟩
        replace Q := Lib.hid (Q.out.after b)
        clear b
        go_wp2_with fail
        refine (LL.out _ _ Q.out).mono ?_
        rintro e wb ⟨rfl, b⟩
        replace Q := Lib.hid (Q.out.after b)
        clear b
        go_wp2_with fail
        go_round
        case rel => exact ⟨7, rfl, by omega, Q⟩
        case measure => simp [intOf]
      · clear VH
        go_wp2_with fail
        refine (AA.out _).mono ?_
        rintro e wa ⟨rfl, b⟩
        replace Q := Lib.hid (Q.out.after b)
        clear b
        go_wp2_with fail
        refine (LL.out _ _ Q.out).mono ?_
        rintro e wb ⟨rfl, b⟩
        replace Q := Lib.hid (Q.out.after b)
        clear b
        go_wp2_with fail
        go_round
        case rel => exact ⟨7, rfl, by omega, Q⟩
        case measure => simp [intOf]
    · have AA := Lib.hid (AJ.out 7)
      have LL := Lib.hid fun g w' h => LJ.out 7 g w' (by omega) h
      have HO := Lib.hid (HOUT.out 7 (by omega))
      have hj := HAND.out (a / 72057594037927936) (by omega)
      rw [show ((7 : Nat) : Int) = 7 from rfl] at AA LL ⊢
      generalize bAt y.b 7 = cj at *
      generalize atI 1 (7 : Int) = aj at *
      clear AJ LJ HOUT HAND
      have VC : ∀ (P : Prop), (((7 : Int) < o) → cj = a / 72057594037927936 % 256 → P) → ((o : Int) + 2 ≤ 7 → ¬ ((7 : Int) < o) → cj = a / 72057594037927936 % 256 → P) → (¬ ((7 : Int) < o) → ¬ ((o : Int) + 2 ≤ 7) → P) → P := fun P p1 p2 p3 => by
        by_cases c1 : (7 : Int) < o
        · exact p1 c1 (HO.out (by omega))
        · by_cases c2 : (o : Int) + 2 ≤ 7
          · exact p2 c2 c1 (HO.out (by omega))
          · exact p3 c1 c2
      have VH := Lib.hid VC
      clear VC HO
      refine VH.out _ (fun c1 hc => ?_) (fun c2 c1 hc => ?_) (fun c1 c2 => ?_)
      · exact absurd c1 (by omega)
      · clear VH
        try simp only [Int.ediv_one] at hc
        subst hc
        go_wp2_with fail
        refine (AA.out _).mono ?_
        rintro e wa ⟨rfl, b⟩
        replace Q := Lib.hid (Q.out.after b)
        clear b
        go_wp2_with fail
        refine (LL.out _ _ Q.out).mono ?_
        rintro e wb ⟨rfl, b⟩
        replace Q := Lib.hid (Q.out.after b)
        clear b
        go_wp2_with fail
        go_round
        case rel => exact ⟨8, rfl, by omega, Q⟩
        case measure => simp [intOf]
      · clear VH
        go_wp2_with fail
        refine (AA.out _).mono ?_
        rintro e wa ⟨rfl, b⟩
        replace Q := Lib.hid (Q.out.after b)
        clear b
        go_wp2_with fail
        refine (LL.out _ _ Q.out).mono ?_
        rintro e wb ⟨rfl, b⟩
        replace Q := Lib.hid (Q.out.after b)
        clear b
        go_wp2_with fail
        go_round
        case rel => exact ⟨8, rfl, by omega, Q⟩
        case measure => simp [intOf]
    · rw [show ((8 : Nat) : Int) = 8 from rfl]
      go_wp2_with fail
      go_ret
      exact ⟨rfl, Q.out.below⟩

set_option maxRecDepth 100000 in
set_option maxHeartbeats 4000000 in
theorem l8_MemLast_4z (a b off size : Int) (w : World) (ha : 0 ≤ a ∧ a ≤ 18446744073709551615) (hb : 0 ≤ b ∧ b ≤ 18446744073709551615) (hoff : 0 ≤ off ∧ off ≤ 255) (hsz : 0 ≤ size ∧ size ≤ 255) (o : Nat) (ho : off % 8 = o) (hz : size % 4 = 2) (hzo : o = 0) : Calls Try.prog 8 #[.int .u64 a, .int .u64 b, .int .u8 off, .int .u8 size] w (Fine w) := by
  have N := Lib.hid (mm_New w)
  have SH := Lib.hid l8_shown
  have o7 : o ≤ 7 := by omega
  have ho2 : off.tmod 8 = o := by rw [← ho]; exact Int.tmod_eq_emod_of_nonneg hoff.1
  have hz2 : size.tmod 4 = 2 := by rw [← hz]; exact Int.tmod_eq_emod_of_nonneg hsz.1
  have hlen : paL.b.length = 16 := List.length_replicate
  have hbl : paL.bl.length = paL.b.length := by rw [hlen]; exact List.length_replicate
  have l1 : (paSet paL 0 8 a).b.length = 16 := (putN_len _ _ _).trans hlen
  have l2 : (paSet paL 0 8 a).bl.length = (paSet paL 0 8 a).b.length := by rw [l1]; exact (putN_len _ _ _).trans (hbl.trans hlen)
  obtain ⟨_, _, b1, b2⟩ := at_parts (i := 1) (o := (o : Int)) (by omega) (by omega)
  have e1 : pStore [paL] (atI 1 0) 8 a = ([paSet paL 0 8 a], 0) := store_in (a := paL) (o := 0) (s := 8) (by show (0 : Int) ≤ 1 ∧ (1 : Int) < 2147483648; omega) (by omega) (by omega) (by rw [hlen]; omega) rfl
  have e2 : pStore [paSet paL 0 8 a] (atI 1 o) 4 b = ([paSet (paSet paL 0 8 a) o 4 b], 0) := store_in (a := paSet paL 0 8 a) (o := o) (s := 4) (by show (0 : Int) ≤ 1 ∧ (1 : Int) < 2147483648; omega) (by omega) (by omega) (by rw [l1]; omega) rfl
  have e3 : pLoad [paSet (paSet paL 0 8 a) o 4 b] (atI 1 o) 4 = (b % 4294967296, 0) := by
    have := load_part (a := paSet paL 0 8 a) (o := o) (s := 4) (d := 0) (t := 4) (n := b) (by show (0 : Int) ≤ 1 ∧ (1 : Int) < 2147483648; omega) (by omega) (by omega) (by rw [l1]; omega) l2 (by omega)
    simp at this
    exact this
  have HLD : Hid (∀ i : Nat, i < 8 → pLoad [paSet (paSet paL 0 8 a) o 4 b] (atI 1 i) 1 = (bAt (paSet (paSet paL 0 8 a) o 4 b).b i, 0)) := Lib.hid fun i hi => by
    have h1 := load_one (a := paSet (paSet paL 0 8 a) o 4 b) (o := i) (s := 1) (by show (0 : Int) ≤ 1 ∧ (1 : Int) < 2147483648; omega) (by omega) rfl
    have hr : rdA (paSet (paSet paL 0 8 a) o 4 b) i 1 = ([bAt (paSet (paSet paL 0 8 a) o 4 b).b i], 0) := by
      rw [read_byte, if_pos (by rw [show (paSet (paSet paL 0 8 a) o 4 b).b.length = 16 from (putN_len _ _ _).trans l1]; omega), set_bit (by rw [l2, l1]; omega), set_bit (a := paL) (by rw [hbl, hlen]; omega)]
      rw [show (if o ≤ i ∧ i < o + 4 then false else if 0 ≤ i ∧ i < 0 + 8 then false else paL.bl.getD i false) = false by split; rfl; rw [if_pos (by omega)]]
      rw [if_neg Bool.false_ne_true]
    rw [hr, if_pos rfl, leN_one] at h1
    exact h1
  have HOUT : Hid (∀ i : Nat, i < 8 → ¬ (o ≤ i ∧ i < o + 4) → bAt (paSet (paSet paL 0 8 a) o 4 b).b i = a / 256 ^ i % 256) := Lib.hid fun i hi hn => by
    rw [set_byte (by rw [l1]; omega), if_neg hn, set_byte (by rw [hlen]; omega), if_pos (by omega), leB_at _ _ _ (by omega)]
    rfl
  have A0 := Lib.hid fun w' => mm_at 1 0 w' 4294967296 rfl
  have A1 := Lib.hid fun w' => mm_at 1 o w' _ rfl
  have AJ := Lib.hid fun (j : Nat) w' => mm_at 1 (j : Int) w' _ rfl
  have MK := Lib.hid fun g w' B (h : Mm w w' g []) (hb : BytS w' B (List.replicate 16 0)) => mm_Make 1 (List.replicate 16 0) B 16 true false h hb (okB_zeros 16) (by rw [List.length_replicate]; omega) (by unfold maxLen; omega) (by simp)
  rw [show pMake [] 1 (List.replicate 16 0) true false = ([paL], 0) by kernel_rfl] at MK
  have S1 := Lib.hid fun g w' (h : Mm w w' g [paL]) => mm_Store 4294967296 8 a h (by omega) ha
  rw [show (4294967296 : Int) = atI 1 0 from rfl, e1] at S1
  rw [show atI 1 0 = (4294967296 : Int) from rfl] at S1
  have S2 := Lib.hid fun g w' (h : Mm w w' g [paSet paL 0 8 a]) => mm_Store (atI 1 o) 4 b h ⟨b1, b2⟩ hb
  rw [e2] at S2
  have L1 := Lib.hid fun g w' (h : Mm w w' g [paSet (paSet paL 0 8 a) o 4 b]) => mm_Load (atI 1 o) 4 h ⟨b1, b2⟩
  rw [e3] at L1
  have LJ : Hid (∀ (j : Nat) g w', j < 8 → Mm w w' g [paSet (paSet paL 0 8 a) o 4 b] → Calls Try.prog 16 #[.pointer (some ⟨g, 0, none⟩), .int .u64 (atI 1 j), .int .i64 1] w' (Gives (.tuple #[.int .u64 (bAt (paSet (paSet paL 0 8 a) o 4 b).b j), .int .i64 0]) w')) := Lib.hid fun j g w' hj h => by
    obtain ⟨_, _, c1, c2⟩ := at_parts (i := 1) (o := (j : Int)) (by omega) (by omega)
    have := mm_Load (atI 1 j) 1 h ⟨c1, c2⟩
    rw [HLD.out j hj] at this
    exact this
  have hand : bits .and .u64 b 4294967295 = b % 4294967296 := by
    have := and_low (n := b) (k := 32) hb (by omega)
    simpa using this
  have HAND : Hid (∀ x : Int, 0 ≤ x ∧ x ≤ 18446744073709551615 → bits .and .u64 x 255 = x % 256) := Lib.hid fun x hx => by
    have := and_low (n := x) (k := 8) hx (by omega)
    simpa using this
  clear e1 e2 e3 hlen hbl l1 l2 b1 b2 HLD
  generalize paSet (paSet paL 0 8 a) o 4 b = y at *
  generalize paSet paL 0 8 a = y1 at *
  have o0 : (0 : Int) ≤ o := by omega
  have o7i : (o : Int) ≤ 7 := by omega
  generalize atI 1 (o : Int) = a1 at *
  subst hzo
  have e00 : ((0 : Nat) : Int) = 0 := rfl
  rw [e00] at A1 ho2 ho
  clear o0 o7i e00
  go_enter Try.func8, Try.ntmps8
  go_wp2_with fail
  refine (SH.out _).mono ?_
  rintro e w0 ⟨rfl, b0⟩
  have V := Lib.hid b0
  clear b0
  go_wp2_with fail
  refine (N.out _ V.out).mono ?_
  rintro e w1 ⟨g, rfl, q1⟩
  have Q := Lib.hid q1
  clear q1 V N SH
  go_wp2_with fail
  generalize w1 = ww at *
  go_region
  replace Q := Lib.hid (Q.out.after (below_alloc (Below.refl _ _) (.cells #[.int .i64 1, .int .i64 2, .int .i64 4, .int .i64 8] 3)).drew)
  generalize (ww.alloc (.cells #[.int .i64 1, .int .i64 2, .int .i64 4, .int .i64 8] 3)).drew = wl at *
  obtain ⟨w2, hmk, hown, hgr⟩ := made_zeros 16 w.heap.size (by omega) wl Q.out.below.size
  have hmk' : (Instr.makeSlice 32 (.int .i64 16) (.int .i64 16)).run Try.prog wl = .ok (.slice (some ⟨wl.heap.size, 0, none⟩) 16 16) w2 := hmk
  replace Q := Lib.hid (Q.out.made hgr)
  have HB := Lib.hid (own_bytS (b := List.replicate 16 0) List.length_replicate.symm hown)
  clear hmk hgr hown
  have MK2 := Lib.hid fun w' B h hb => MK.out g w' B h hb
  rw [List.length_replicate] at MK2
  clear MK
  go_wp2_with fail
  refine (MK2.out _ _ Q.out HB.out).mono ?_
  rintro e w3 ⟨rfl, q⟩
  replace Q := Lib.hid q
  clear q
  go_wp2_with fail
  clear HB MK2
  refine (A0.out _).mono ?_
  rintro e w4 ⟨rfl, b⟩
  replace Q := Lib.hid (Q.out.after b)
  clear b
  go_wp2_with fail
  refine (S1.out _ _ Q.out).mono ?_
  rintro e w5 ⟨rfl, q⟩
  replace Q := Lib.hid q
  clear q
  go_wp2_with fail
  refine (A1.out _).mono ?_
  rintro e w6 ⟨rfl, b⟩
  replace Q := Lib.hid (Q.out.after b)
  clear b
  go_wp2_with fail
  refine (S2.out _ _ Q.out).mono ?_
  rintro e w7 ⟨rfl, q⟩
  replace Q := Lib.hid q
  clear q
  go_wp2_with fail
  refine (A1.out _).mono ?_
  rintro e w8 ⟨rfl, b⟩
  replace Q := Lib.hid (Q.out.after b)
  clear b
  go_wp2_with fail
  refine (L1.out _ _ Q.out).mono ?_
  rintro e w9 ⟨rfl, b⟩
  replace Q := Lib.hid (Q.out.after b)
  clear b
  go_wp2_with fail
  clear A0 A1 S1 S2 L1 hmk' ho ho2 hz hz2 hoff hsz
  go_loopw [72] (fun v wr => ∃ j : Nat, v = .int .i64 j ∧ j ≤ 8 ∧ Hid (Mm w wr g [y])) (fun v wr => 8 - (intOf v).toNat)
  case atStart => exact ⟨0, rfl, by omega, Q⟩
  case round =>
    clear Q
    obtain ⟨j, rfl, hj, Q⟩ := hrel
    have hj8 : j = 0 ∨ j = 1 ∨ j = 2 ∨ j = 3 ∨ j = 4 ∨ j = 5 ∨ j = 6 ∨ j = 7 ∨ j = 8 := by omega
    clear hj
    rcases hj8 with rfl | rfl | rfl | rfl | rfl | rfl | rfl | rfl | rfl
    · have AA := Lib.hid (AJ.out 0)
      have LL := Lib.hid fun g w' h => LJ.out 0 g w' (by omega) h
      have HO := Lib.hid (HOUT.out 0 (by omega))
      have hj := HAND.out a ha
      rw [show ((0 : Nat) : Int) = 0 from rfl] at AA LL ⊢
      generalize bAt y.b 0 = cj at *
      generalize atI 1 (0 : Int) = aj at *
      clear AJ LJ HOUT HAND
      clear HO
      go_wp2_with fail
      refine (AA.out _).mono ?_
      rintro e wa ⟨rfl, b⟩
      replace Q := Lib.hid (Q.out.after b)
      clear b
      go_wp2_with fail
      refine (LL.out _ _ Q.out).mono ?_
      rintro e wb ⟨rfl, b⟩
      replace Q := Lib.hid (Q.out.after b)
      clear b
      go_wp2_with fail
      go_round
      case rel => exact ⟨1, rfl, by omega, Q⟩
      case measure => simp [intOf]
    · have AA := Lib.hid (AJ.out 1)
      have LL := Lib.hid fun g w' h => LJ.out 1 g w' (by omega) h
      have HO := Lib.hid (HOUT.out 1 (by omega))
      have hj := HAND.out (a / 256) (by omega)
      rw [show ((1 : Nat) : Int) = 1 from rfl] at AA LL ⊢
      generalize bAt y.b 1 = cj at *
      generalize atI 1 (1 : Int) = aj at *
      clear AJ LJ HOUT HAND
      clear HO
      go_wp2_with fail
      refine (AA.out _).mono ?_
      rintro e wa ⟨rfl, b⟩
      replace Q := Lib.hid (Q.out.after b)
      clear b
      go_wp2_with fail
      refine (LL.out _ _ Q.out).mono ?_
      rintro e wb ⟨rfl, b⟩
      replace Q := Lib.hid (Q.out.after b)
      clear b
      go_wp2_with fail
      go_round
      case rel => exact ⟨2, rfl, by omega, Q⟩
      case measure => simp [intOf]
    · have AA := Lib.hid (AJ.out 2)
      have LL := Lib.hid fun g w' h => LJ.out 2 g w' (by omega) h
      have HO := Lib.hid (HOUT.out 2 (by omega))
      have hj := HAND.out (a / 65536) (by omega)
      rw [show ((2 : Nat) : Int) = 2 from rfl] at AA LL ⊢
      generalize bAt y.b 2 = cj at *
      generalize atI 1 (2 : Int) = aj at *
      clear AJ LJ HOUT HAND
      clear HO
      go_wp2_with fail
      refine (AA.out _).mono ?_
      rintro e wa ⟨rfl, b⟩
      replace Q := Lib.hid (Q.out.after b)
      clear b
      go_wp2_with fail
      refine (LL.out _ _ Q.out).mono ?_
      rintro e wb ⟨rfl, b⟩
      replace Q := Lib.hid (Q.out.after b)
      clear b
      go_wp2_with fail
      go_round
      case rel => exact ⟨3, rfl, by omega, Q⟩
      case measure => simp [intOf]
    · have AA := Lib.hid (AJ.out 3)
      have LL := Lib.hid fun g w' h => LJ.out 3 g w' (by omega) h
      have HO := Lib.hid (HOUT.out 3 (by omega))
      have hj := HAND.out (a / 16777216) (by omega)
      rw [show ((3 : Nat) : Int) = 3 from rfl] at AA LL ⊢
      generalize bAt y.b 3 = cj at *
      generalize atI 1 (3 : Int) = aj at *
      clear AJ LJ HOUT HAND
      clear HO
      go_wp2_with fail
      refine (AA.out _).mono ?_
      rintro e wa ⟨rfl, b⟩
      replace Q := Lib.hid (Q.out.after b)
      clear b
      go_wp2_with fail
      refine (LL.out _ _ Q.out).mono ?_
      rintro e wb ⟨rfl, b⟩
      replace Q := Lib.hid (Q.out.after b)
      clear b
      go_wp2_with fail
      go_round
      case rel => exact ⟨4, rfl, by omega, Q⟩
      case measure => simp [intOf]
    · have AA := Lib.hid (AJ.out 4)
      have LL := Lib.hid fun g w' h => LJ.out 4 g w' (by omega) h
      have HO := Lib.hid (HOUT.out 4 (by omega))
      have hj := HAND.out (a / 4294967296) (by omega)
      rw [show ((4 : Nat) : Int) = 4 from rfl] at AA LL ⊢
      generalize bAt y.b 4 = cj at *
      generalize atI 1 (4 : Int) = aj at *
      clear AJ LJ HOUT HAND
      have hc := HO.out (by omega)
      clear HO
      subst hc
      go_wp2_with fail
      refine (AA.out _).mono ?_
      rintro e wa ⟨rfl, b⟩
      replace Q := Lib.hid (Q.out.after b)
      clear b
      go_wp2_with fail
      refine (LL.out _ _ Q.out).mono ?_
      rintro e wb ⟨rfl, b⟩
      replace Q := Lib.hid (Q.out.after b)
      clear b
      go_wp2_with fail
      go_round
      case rel => exact ⟨5, rfl, by omega, Q⟩
      case measure => simp [intOf]
    · have AA := Lib.hid (AJ.out 5)
      have LL := Lib.hid fun g w' h => LJ.out 5 g w' (by omega) h
      have HO := Lib.hid (HOUT.out 5 (by omega))
      have hj := HAND.out (a / 1099511627776) (by omega)
      rw [show ((5 : Nat) : Int) = 5 from rfl] at AA LL ⊢
      generalize bAt y.b 5 = cj at *
      generalize atI 1 (5 : Int) = aj at *
      clear AJ LJ HOUT HAND
      have hc := HO.out (by omega)
      clear HO
      subst hc
      go_wp2_with fail
      refine (AA.out _).mono ?_
      rintro e wa ⟨rfl, b⟩
      replace Q := Lib.hid (Q.out.after b)
      clear b
      go_wp2_with fail
      refine (LL.out _ _ Q.out).mono ?_
      rintro e wb ⟨rfl, b⟩
      replace Q := Lib.hid (Q.out.after b)
      clear b
      go_wp2_with fail
      go_round
      case rel => exact ⟨6, rfl, by omega, Q⟩
      case measure => simp [intOf]
    · have AA := Lib.hid (AJ.out 6)
      have LL := Lib.hid fun g w' h => LJ.out 6 g w' (by omega) h
      have HO := Lib.hid (HOUT.out 6 (by omega))
      have hj := HAND.out (a / 281474976710656) (by omega)
      rw [show ((6 : Nat) : Int) = 6 from rfl] at AA LL ⊢
      generalize bAt y.b 6 = cj at *
      generalize atI 1 (6 : Int) = aj at *
      clear AJ LJ HOUT HAND
      have hc := HO.out (by omega)
      clear HO
      subst hc
      go_wp2_with fail
      refine (AA.out _).mono ?_
      rintro e wa ⟨rfl, b⟩
      replace Q := Lib.hid (Q.out.after b)
      clear b
      go_wp2_with fail
      refine (LL.out _ _ Q.out).mono ?_
      rintro e wb ⟨rfl, b⟩
      replace Q := Lib.hid (Q.out.after b)
      clear b
      go_wp2_with fail
      go_round
      case rel => exact ⟨7, rfl, by omega, Q⟩
      case measure => simp [intOf]
    · have AA := Lib.hid (AJ.out 7)
      have LL := Lib.hid fun g w' h => LJ.out 7 g w' (by omega) h
      have HO := Lib.hid (HOUT.out 7 (by omega))
      have hj := HAND.out (a / 72057594037927936) (by omega)
      rw [show ((7 : Nat) : Int) = 7 from rfl] at AA LL ⊢
      generalize bAt y.b 7 = cj at *
      generalize atI 1 (7 : Int) = aj at *
      clear AJ LJ HOUT HAND
      have hc := HO.out (by omega)
      clear HO
      subst hc
      go_wp2_with fail
      refine (AA.out _).mono ?_
      rintro e wa ⟨rfl, b⟩
      replace Q := Lib.hid (Q.out.after b)
      clear b
      go_wp2_with fail
      refine (LL.out _ _ Q.out).mono ?_
      rintro e wb ⟨rfl, b⟩
      replace Q := Lib.hid (Q.out.after b)
      clear b
      go_wp2_with fail
      go_round
      case rel => exact ⟨8, rfl, by omega, Q⟩
      case measure => simp [intOf]
    · rw [show ((8 : Nat) : Int) = 8 from rfl]
      go_wp2_with fail
      go_ret
      exact ⟨rfl, Q.out.below⟩

set_option maxRecDepth 100000 in
set_option maxHeartbeats 4000000 in
theorem l8_MemLast_4 (a b off size : Int) (w : World) (ha : 0 ≤ a ∧ a ≤ 18446744073709551615) (hb : 0 ≤ b ∧ b ≤ 18446744073709551615) (hoff : 0 ≤ off ∧ off ≤ 255) (hsz : 0 ≤ size ∧ size ≤ 255) (o : Nat) (ho : off % 8 = o) (hz : size % 4 = 2) (hzo : 0 < o) : Calls Try.prog 8 #[.int .u64 a, .int .u64 b, .int .u8 off, .int .u8 size] w (Fine w) := by
  have N := Lib.hid (mm_New w)
  have SH := Lib.hid l8_shown
  have o7 : o ≤ 7 := by omega
  have ho2 : off.tmod 8 = o := by rw [← ho]; exact Int.tmod_eq_emod_of_nonneg hoff.1
  have hz2 : size.tmod 4 = 2 := by rw [← hz]; exact Int.tmod_eq_emod_of_nonneg hsz.1
  have hlen : paL.b.length = 16 := List.length_replicate
  have hbl : paL.bl.length = paL.b.length := by rw [hlen]; exact List.length_replicate
  have l1 : (paSet paL 0 8 a).b.length = 16 := (putN_len _ _ _).trans hlen
  have l2 : (paSet paL 0 8 a).bl.length = (paSet paL 0 8 a).b.length := by rw [l1]; exact (putN_len _ _ _).trans (hbl.trans hlen)
  obtain ⟨_, _, b1, b2⟩ := at_parts (i := 1) (o := (o : Int)) (by omega) (by omega)
  have e1 : pStore [paL] (atI 1 0) 8 a = ([paSet paL 0 8 a], 0) := store_in (a := paL) (o := 0) (s := 8) (by show (0 : Int) ≤ 1 ∧ (1 : Int) < 2147483648; omega) (by omega) (by omega) (by rw [hlen]; omega) rfl
  have e2 : pStore [paSet paL 0 8 a] (atI 1 o) 4 b = ([paSet (paSet paL 0 8 a) o 4 b], 0) := store_in (a := paSet paL 0 8 a) (o := o) (s := 4) (by show (0 : Int) ≤ 1 ∧ (1 : Int) < 2147483648; omega) (by omega) (by omega) (by rw [l1]; omega) rfl
  have e3 : pLoad [paSet (paSet paL 0 8 a) o 4 b] (atI 1 o) 4 = (b % 4294967296, 0) := by
    have := load_part (a := paSet paL 0 8 a) (o := o) (s := 4) (d := 0) (t := 4) (n := b) (by show (0 : Int) ≤ 1 ∧ (1 : Int) < 2147483648; omega) (by omega) (by omega) (by rw [l1]; omega) l2 (by omega)
    simp at this
    exact this
  have HLD : Hid (∀ i : Nat, i < 8 → pLoad [paSet (paSet paL 0 8 a) o 4 b] (atI 1 i) 1 = (bAt (paSet (paSet paL 0 8 a) o 4 b).b i, 0)) := Lib.hid fun i hi => by
    have h1 := load_one (a := paSet (paSet paL 0 8 a) o 4 b) (o := i) (s := 1) (by show (0 : Int) ≤ 1 ∧ (1 : Int) < 2147483648; omega) (by omega) rfl
    have hr : rdA (paSet (paSet paL 0 8 a) o 4 b) i 1 = ([bAt (paSet (paSet paL 0 8 a) o 4 b).b i], 0) := by
      rw [read_byte, if_pos (by rw [show (paSet (paSet paL 0 8 a) o 4 b).b.length = 16 from (putN_len _ _ _).trans l1]; omega), set_bit (by rw [l2, l1]; omega), set_bit (a := paL) (by rw [hbl, hlen]; omega)]
      rw [show (if o ≤ i ∧ i < o + 4 then false else if 0 ≤ i ∧ i < 0 + 8 then false else paL.bl.getD i false) = false by split; rfl; rw [if_pos (by omega)]]
      rw [if_neg Bool.false_ne_true]
    rw [hr, if_pos rfl, leN_one] at h1
    exact h1
  have HOUT : Hid (∀ i : Nat, i < 8 → ¬ (o ≤ i ∧ i < o + 4) → bAt (paSet (paSet paL 0 8 a) o 4 b).b i = a / 256 ^ i % 256) := Lib.hid fun i hi hn => by
    rw [set_byte (by rw [l1]; omega), if_neg hn, set_byte (by rw [hlen]; omega), if_pos (by omega), leB_at _ _ _ (by omega)]
    rfl
  have A0 := Lib.hid fun w' => mm_at 1 0 w' 4294967296 rfl
  have A1 := Lib.hid fun w' => mm_at 1 o w' _ rfl
  have AJ := Lib.hid fun (j : Nat) w' => mm_at 1 (j : Int) w' _ rfl
  have MK := Lib.hid fun g w' B (h : Mm w w' g []) (hb : BytS w' B (List.replicate 16 0)) => mm_Make 1 (List.replicate 16 0) B 16 true false h hb (okB_zeros 16) (by rw [List.length_replicate]; omega) (by unfold maxLen; omega) (by simp)
  rw [show pMake [] 1 (List.replicate 16 0) true false = ([paL], 0) by kernel_rfl] at MK
  have S1 := Lib.hid fun g w' (h : Mm w w' g [paL]) => mm_Store 4294967296 8 a h (by omega) ha
  rw [show (4294967296 : Int) = atI 1 0 from rfl, e1] at S1
  rw [show atI 1 0 = (4294967296 : Int) from rfl] at S1
  have S2 := Lib.hid fun g w' (h : Mm w w' g [paSet paL 0 8 a]) => mm_Store (atI 1 o) 4 b h ⟨b1, b2⟩ hb
  rw [e2] at S2
  have L1 := Lib.hid fun g w' (h : Mm w w' g [paSet (paSet paL 0 8 a) o 4 b]) => mm_Load (atI 1 o) 4 h ⟨b1, b2⟩
  rw [e3] at L1
  have LJ : Hid (∀ (j : Nat) g w', j < 8 → Mm w w' g [paSet (paSet paL 0 8 a) o 4 b] → Calls Try.prog 16 #[.pointer (some ⟨g, 0, none⟩), .int .u64 (atI 1 j), .int .i64 1] w' (Gives (.tuple #[.int .u64 (bAt (paSet (paSet paL 0 8 a) o 4 b).b j), .int .i64 0]) w')) := Lib.hid fun j g w' hj h => by
    obtain ⟨_, _, c1, c2⟩ := at_parts (i := 1) (o := (j : Int)) (by omega) (by omega)
    have := mm_Load (atI 1 j) 1 h ⟨c1, c2⟩
    rw [HLD.out j hj] at this
    exact this
  have hand : bits .and .u64 b 4294967295 = b % 4294967296 := by
    have := and_low (n := b) (k := 32) hb (by omega)
    simpa using this
  have HAND : Hid (∀ x : Int, 0 ≤ x ∧ x ≤ 18446744073709551615 → bits .and .u64 x 255 = x % 256) := Lib.hid fun x hx => by
    have := and_low (n := x) (k := 8) hx (by omega)
    simpa using this
  clear e1 e2 e3 hlen hbl l1 l2 b1 b2 HLD
  generalize paSet (paSet paL 0 8 a) o 4 b = y at *
  generalize paSet paL 0 8 a = y1 at *
  have o0 : (0 : Int) ≤ o := by omega
  have o7i : (o : Int) ≤ 7 := by omega
  generalize atI 1 (o : Int) = a1 at *
  have o1 : (1 : Int) ≤ o := by omega
  clear hzo
  go_enter Try.func8, Try.ntmps8
  go_wp2_with fail
  refine (SH.out _).mono ?_
  rintro e w0 ⟨rfl, b0⟩
  have V := Lib.hid b0
  clear b0
  go_wp2_with fail
  refine (N.out _ V.out).mono ?_
  rintro e w1 ⟨g, rfl, q1⟩
  have Q := Lib.hid q1
  clear q1 V N SH
  go_wp2_with fail
  generalize w1 = ww at *
  go_region
  replace Q := Lib.hid (Q.out.after (below_alloc (Below.refl _ _) (.cells #[.int .i64 1, .int .i64 2, .int .i64 4, .int .i64 8] 3)).drew)
  generalize (ww.alloc (.cells #[.int .i64 1, .int .i64 2, .int .i64 4, .int .i64 8] 3)).drew = wl at *
  obtain ⟨w2, hmk, hown, hgr⟩ := made_zeros 16 w.heap.size (by omega) wl Q.out.below.size
  have hmk' : (Instr.makeSlice 32 (.int .i64 16) (.int .i64 16)).run Try.prog wl = .ok (.slice (some ⟨wl.heap.size, 0, none⟩) 16 16) w2 := hmk
  replace Q := Lib.hid (Q.out.made hgr)
  have HB := Lib.hid (own_bytS (b := List.replicate 16 0) List.length_replicate.symm hown)
  clear hmk hgr hown
  have MK2 := Lib.hid fun w' B h hb => MK.out g w' B h hb
  rw [List.length_replicate] at MK2
  clear MK
  go_wp2_with fail
  refine (MK2.out _ _ Q.out HB.out).mono ?_
  rintro e w3 ⟨rfl, q⟩
  replace Q := Lib.hid q
  clear q
  go_wp2_with fail
  clear HB MK2
  refine (A0.out _).mono ?_
  rintro e w4 ⟨rfl, b⟩
  replace Q := Lib.hid (Q.out.after b)
  clear b
  go_wp2_with fail
  refine (S1.out _ _ Q.out).mono ?_
  rintro e w5 ⟨rfl, q⟩
  replace Q := Lib.hid q
  clear q
  go_wp2_with fail
  refine (A1.out _).mono ?_
  rintro e w6 ⟨rfl, b⟩
  replace Q := Lib.hid (Q.out.after b)
  clear b
  go_wp2_with fail
  refine (S2.out _ _ Q.out).mono ?_
  rintro e w7 ⟨rfl, q⟩
  replace Q := Lib.hid q
  clear q
  go_wp2_with fail
  refine (A1.out _).mono ?_
  rintro e w8 ⟨rfl, b⟩
  replace Q := Lib.hid (Q.out.after b)
  clear b
  go_wp2_with fail
  refine (L1.out _ _ Q.out).mono ?_
  rintro e w9 ⟨rfl, b⟩
  replace Q := Lib.hid (Q.out.after b)
  clear b
  go_wp2_with fail
  clear A0 A1 S1 S2 L1 hmk' ho ho2 hz hz2 hoff hsz
  go_loopw [72] (fun v wr => ∃ j : Nat, v = .int .i64 j ∧ j ≤ 8 ∧ Hid (Mm w wr g [y])) (fun v wr => 8 - (intOf v).toNat)
  case atStart => exact ⟨0, rfl, by omega, Q⟩
  case round =>
    clear Q
    obtain ⟨j, rfl, hj, Q⟩ := hrel
    have hj8 : j = 0 ∨ j = 1 ∨ j = 2 ∨ j = 3 ∨ j = 4 ∨ j = 5 ∨ j = 6 ∨ j = 7 ∨ j = 8 := by omega
    clear hj
    rcases hj8 with rfl | rfl | rfl | rfl | rfl | rfl | rfl | rfl | rfl
    · have AA := Lib.hid (AJ.out 0)
      have LL := Lib.hid fun g w' h => LJ.out 0 g w' (by omega) h
      have HO := Lib.hid (HOUT.out 0 (by omega))
      have hj := HAND.out a ha
      rw [show ((0 : Nat) : Int) = 0 from rfl] at AA LL ⊢
      generalize bAt y.b 0 = cj at *
      generalize atI 1 (0 : Int) = aj at *
      clear AJ LJ HOUT HAND
      have VC : ∀ (P : Prop), (((0 : Int) < o) → cj = a / 1 % 256 → P) → ((o : Int) + 4 ≤ 0 → ¬ ((0 : Int) < o) → cj = a / 1 % 256 → P) → (¬ ((0 : Int) < o) → ¬ ((o : Int) + 4 ≤ 0) → P) → P := fun P p1 p2 p3 => by
        by_cases c1 : (0 : Int) < o
        · exact p1 c1 (HO.out (by omega))
        · by_cases c2 : (o : Int) + 4 ≤ 0
          · exact p2 c2 c1 (HO.out (by omega))
          · exact p3 c1 c2
      have VH := Lib.hid VC
      clear VC HO
      refine VH.out _ (fun c1 hc => ?_) (fun c2 c1 hc => ?_) (fun c1 c2 => ?_)
      · clear VH
        try simp only [Int.ediv_one] at hc
        subst hc
        go_wp2_with fail
        refine (AA.out _).mono ?_
        rintro e wa ⟨rfl, b⟩
        replace Q := Lib.hid (Q.out.after b)
        clear b
        go_wp2_with fail
        refine (LL.out _ _ Q.out).mono ?_
        rintro e wb ⟨rfl, b⟩
        replace Q := Lib.hid (Q.out.after b)
        clear b
        go_wp2_with fail
        go_round
        case rel => exact ⟨1, rfl, by omega, Q⟩
        case measure => simp [intOf]
      · exact absurd c2 (by omega)
      · exact absurd c1 (by omega)
    · have AA := Lib.hid (AJ.out 1)
      have LL := Lib.hid fun g w' h => LJ.out 1 g w' (by omega) h
      have HO := Lib.hid (HOUT.out 1 (by omega))
      have hj := HAND.out (a / 256) (by omega)
      rw [show ((1 : Nat) : Int) = 1 from rfl] at AA LL ⊢
      generalize bAt y.b 1 = cj at *
      generalize atI 1 (1 : Int) = aj at *
      clear AJ LJ HOUT HAND
      have VC : ∀ (P : Prop), (((1 : Int) < o) → cj = a / 256 % 256 → P) → ((o : Int) + 4 ≤ 1 → ¬ ((1 : Int) < o) → cj = a / 256 % 256 → P) → (¬ ((1 : Int) < o) → ¬ ((o : Int) + 4 ≤ 1) → P) → P := fun P p1 p2 p3 => by
        by_cases c1 : (1 : Int) < o
        · exact p1 c1 (HO.out (by omega))
        · by_cases c2 : (o : Int) + 4 ≤ 1
          · exact p2 c2 c1 (HO.out (by omega))
          · exact p3 c1 c2
      have VH := Lib.hid VC
      clear VC HO
      refine VH.out _ (fun c1 hc => ?_) (fun c2 c1 hc => ?_) (fun c1 c2 => ?_)
      · clear VH
        try simp only [Int.ediv_one] at hc
        subst hc
        go_wp2_with fail
        refine (AA.out _).mono ?_
        rintro e wa ⟨rfl, b⟩
        replace Q := Lib.hid (Q.out.after b)
        clear b
        go_wp2_with fail
        refine (LL.out _ _ Q.out).mono ?_
        rintro e wb ⟨rfl, b⟩
        replace Q := Lib.hid (Q.out.after b)
        clear b
        go_wp2_with fail
        go_round
        case rel => exact ⟨2, rfl, by omega, Q⟩
        case measure => simp [intOf]
      · exact absurd c2 (by omega)
      · clear VH
        go_wp2_with fail
        refine (AA.out _).mono ?_
        rintro e wa ⟨rfl, b⟩
        replace Q := Lib.hid (Q.out.after b)
        clear b
        go_wp2_with fail
        refine (LL.out _ _ Q.out).mono ?_
        rintro e wb ⟨rfl, b⟩
        replace Q := Lib.hid (Q.out.after b)
        clear b
        go_wp2_with fail
        go_round
        case rel => exact ⟨2, rfl, by omega, Q⟩
        case measure => simp [intOf]
    · have AA := Lib.hid (AJ.out 2)
      have LL := Lib.hid fun g w' h => LJ.out 2 g w' (by omega) h
      have HO := Lib.hid (HOUT.out 2 (by omega))
      have hj := HAND.out (a / 65536) (by omega)
      rw [show ((2 : Nat) : Int) = 2 from rfl] at AA LL ⊢
      generalize bAt y.b 2 = cj at *
      generalize atI 1 (2 : Int) = aj at *
      clear AJ LJ HOUT HAND
      have VC : ∀ (P : Prop), (((2 : Int) < o) → cj = a / 65536 % 256 → P) → ((o : Int) + 4 ≤ 2 → ¬ ((2 : Int) < o) → cj = a / 65536 % 256 → P) → (¬ ((2 : Int) < o) → ¬ ((o : Int) + 4 ≤ 2) → P) → P := fun P p1 p2 p3 => by
        by_cases c1 : (2 : Int) < o
        · exact p1 c1 (HO.out (by omega))
        · by_cases c2 : (o : Int) + 4 ≤ 2
          · exact p2 c2 c1 (HO.out (by omega))
          · exact p3 c1 c2
      have VH := Lib.hid VC
      clear VC HO
      refine VH.out _ (fun c1 hc => ?_) (fun c2 c1 hc => ?_) (fun c1 c2 => ?_)
      · clear VH
        try simp only [Int.ediv_one] at hc
        subst hc
        go_wp2_with fail
        refine (AA.out _).mono ?_
        rintro e wa ⟨rfl, b⟩
        replace Q := Lib.hid (Q.out.after b)
        clear b
        go_wp2_with fail
        refine (LL.out _ _ Q.out).mono ?_
        rintro e wb ⟨rfl, b⟩
        replace Q := Lib.hid (Q.out.after b)
        clear b
        go_wp2_with fail
        go_round
        case rel => exact ⟨3, rfl, by omega, Q⟩
        case measure => simp [intOf]
      · exact absurd c2 (by omega)
      · clear VH
        go_wp2_with fail
        refine (AA.out _).mono ?_
        rintro e wa ⟨rfl, b⟩
        replace Q := Lib.hid (Q.out.after b)
        clear b
        go_wp2_with fail
        refine (LL.out _ _ Q.out).mono ?_
        rintro e wb ⟨rfl, b⟩
        replace Q := Lib.hid (Q.out.after b)
        clear b
        go_wp2_with fail
        go_round
        case rel => exact ⟨3, rfl, by omega, Q⟩
        case measure => simp [intOf]
    · have AA := Lib.hid (AJ.out 3)
      have LL := Lib.hid fun g w' h => LJ.out 3 g w' (by omega) h
      have HO := Lib.hid (HOUT.out 3 (by omega))
      have hj := HAND.out (a / 16777216) (by omega)
      rw [show ((3 : Nat) : Int) = 3 from rfl] at AA LL ⊢
      generalize bAt y.b 3 = cj at *
      generalize atI 1 (3 : Int) = aj at *
      clear AJ LJ HOUT HAND
      have VC : ∀ (P : Prop), (((3 : Int) < o) → cj = a / 16777216 % 256 → P) → ((o : Int) + 4 ≤ 3 → ¬ ((3 : Int) < o) → cj = a / 16777216 % 256 → P) → (¬ ((3 : Int) < o) → ¬ ((o : Int) + 4 ≤ 3) → P) → P := fun P p1 p2 p3 => by
        by_cases c1 : (3 : Int) < o
        · exact p1 c1 (HO.out (by omega))
        · by_cases c2 : (o : Int) + 4 ≤ 3
          · exact p2 c2 c1 (HO.out (by omega))
          · exact p3 c1 c2
      have VH := Lib.hid VC
      clear VC HO
      refine VH.out _ (fun c1 hc => ?_) (fun c2 c1 hc => ?_) (fun c1 c2 => ?_)
      · clear VH
        try simp only [Int.ediv_one] at hc
        subst hc
        go_wp2_with fail
        refine (AA.out _).mono ?_
        rintro e wa ⟨rfl, b⟩
        replace Q := Lib.hid (Q.out.after b)
        clear b
        go_wp2_with fail
        refine (LL.out _ _ Q.out).mono ?_
        rintro e wb ⟨rfl, b⟩
        replace Q := Lib.hid (Q.out.after b)
        clear b
        go_wp2_with fail
        go_round
        case rel => exact ⟨4, rfl, by omega, Q⟩
        case measure => simp [intOf]
      · exact absurd c2 (by omega)
      · clear VH
        go_wp2_with fail
        refine (AA.out _).mono ?_
        rintro e wa ⟨rfl, b⟩
        replace Q := Lib.hid (Q.out.after b)
        clear b
        go_wp2_with fail
        refine (LL.out _ _ Q.out).mono ?_
        rintro e wb ⟨rfl, b⟩
        replace Q := Lib.hid (Q.out.after b)
        clear b
        go_wp2_with fail
        go_round
        case rel => exact ⟨4, rfl, by omega, Q⟩
        case measure => simp [intOf]
    · have AA := Lib.hid (AJ.out 4)
      have LL := Lib.hid fun g w' h => LJ.out 4 g w' (by omega) h
      have HO := Lib.hid (HOUT.out 4 (by omega))
      have hj := HAND.out (a / 4294967296) (by omega)
      rw [show ((4 : Nat) : Int) = 4 from rfl] at AA LL ⊢
      generalize bAt y.b 4 = cj at *
      generalize atI 1 (4 : Int) = aj at *
      clear AJ LJ HOUT HAND
      have VC : ∀ (P : Prop), (((4 : Int) < o) → cj = a / 4294967296 % 256 → P) → ((o : Int) + 4 ≤ 4 → ¬ ((4 : Int) < o) → cj = a / 4294967296 % 256 → P) → (¬ ((4 : Int) < o) → ¬ ((o : Int) + 4 ≤ 4) → P) → P := fun P p1 p2 p3 => by
        by_cases c1 : (4 : Int) < o
        · exact p1 c1 (HO.out (by omega))
        · by_cases c2 : (o : Int) + 4 ≤ 4
          · exact p2 c2 c1 (HO.out (by omega))
          · exact p3 c1 c2
      have VH := Lib.hid VC
      clear VC HO
      refine VH.out _ (fun c1 hc => ?_) (fun c2 c1 hc => ?_) (fun c1 c2 => ?_)
      · clear VH
        try simp only [Int.ediv_one] at hc
        subst hc
        go_wp2_with fail
        refine (AA.out _).mono ?_
        rintro e wa ⟨rfl, b⟩
        replace Q := Lib.hid (Q.out.after b)
        clear b
        go_wp2_with fail
        refine (LL.out _ _ Q.out).mono ?_
        rintro e wb ⟨rfl, b⟩
        replace Q := Lib.hid (Q.out.after b)
        clear b
        go_wp2_with fail
        go_round
        case rel => exact ⟨5, rfl, by omega, Q⟩
        case measure => simp [intOf]
      · exact absurd c2 (by omega)
      · clear VH
        go_wp2_with fail
        refine (AA.out _).mono ?_
        rintro e wa ⟨rfl, b⟩
        replace Q := Lib.hid (Q.out.after b)
        clear b
        go_wp2_with fail
        refine (LL.out _ _ Q.out).mono ?_
        rintro e wb ⟨rfl, b⟩
        replace Q := Lib.hid (Q.out.after b)
        clear b
        go_wp2_with fail
        go_round
        case rel => exact ⟨5, rfl, by omega, Q⟩
        case measure => simp [intOf]
    · have AA := Lib.hid (AJ.out 5)
      have LL := Lib.hid fun g w' h => LJ.out 5 g w' (by omega) h
      have HO := Lib.hid (HOUT.out 5 (by omega))
      have hj := HAND.out (a / 1099511627776) (by omega)
      rw [show ((5 : Nat) : Int) = 5 from rfl] at AA LL ⊢
      generalize bAt y.b 5 = cj at *
      generalize atI 1 (5 : Int) = aj at *
      clear AJ LJ HOUT HAND
      have VC : ∀ (P : Prop), (((5 : Int) < o) → cj = a / 1099511627776 % 256 → P) → ((o : Int) + 4 ≤ 5 → ¬ ((5 : Int) < o) → cj = a / 1099511627776 % 256 → P) → (¬ ((5 : Int) < o) → ¬ ((o : Int) + 4 ≤ 5) → P) → P := fun P p1 p2 p3 => by
        by_cases c1 : (5 : Int) < o
        · exact p1 c1 (HO.out (by omega))
        · by_cases c2 : (o : Int) + 4 ≤ 5
          · exact p2 c2 c1 (HO.out (by omega))
          · exact p3 c1 c2
      have VH := Lib.hid VC
      clear VC HO
      refine VH.out _ (fun c1 hc => ?_) (fun c2 c1 hc => ?_) (fun c1 c2 => ?_)
      · clear VH
        try simp only [Int.ediv_one] at hc
        subst hc
        go_wp2_with fail
        refine (AA.out _).mono ?_
        rintro e wa ⟨rfl, b⟩
        replace Q := Lib.hid (Q.out.after b)
        clear b
        go_wp2_with fail
        refine (LL.out _ _ Q.out).mono ?_
        rintro e wb ⟨rfl, b⟩
        replace Q := Lib.hid (Q.out.after b)
        clear b
        go_wp2_with fail
        go_round
        case rel => exact ⟨6, rfl, by omega, Q⟩
        case measure => simp [intOf]
      · clear VH
        try simp only [Int.ediv_one] at hc
        subst hc
        go_wp2_with fail
        refine (AA.out _).mono ?_
        rintro e wa ⟨rfl, b⟩
        replace Q := Lib.hid (Q.out.after b)
        clear b
        go_wp2_with fail
        refine (LL.out _ _ Q.out).mono ?_
        rintro e wb ⟨rfl, b⟩
        replace Q := Lib.hid (Q.out.after b)
        clear b
        go_wp2_with fail
        go_round
        case rel => exact ⟨6, rfl, by omega, Q⟩
        case measure => simp [intOf]
      · clear VH
        go_wp2_with fail
        refine (AA.out _).mono ?_
        rintro e wa ⟨rfl, b⟩
        replace Q := Lib.hid (Q.out.after b)
        clear b
        go_wp2_with fail
        refine (LL.out _ _ Q.out).mono ?_
        rintro e wb ⟨rfl, b⟩
        replace Q := Lib.hid (Q.out.after b)
        clear b
        go_wp2_with fail
        go_round
        case rel => exact ⟨6, rfl, by omega, Q⟩
        case measure => simp [intOf]
    · have AA := Lib.hid (AJ.out 6)
      have LL := Lib.hid fun g w' h => LJ.out 6 g w' (by omega) h
      have HO := Lib.hid (HOUT.out 6 (by omega))
      have hj := HAND.out (a / 281474976710656) (by omega)
      rw [show ((6 : Nat) : Int) = 6 from rfl] at AA LL ⊢
      generalize bAt y.b 6 = cj at *
      generalize atI 1 (6 : Int) = aj at *
      clear AJ LJ HOUT HAND
      have VC : ∀ (P : Prop), (((6 : Int) < o) → cj = a / 281474976710656 % 256 → P) → ((o : Int) + 4 ≤ 6 → ¬ ((6 : Int) < o) → cj = a / 281474976710656 % 256 → P) → (¬ ((6 : Int) < o) → ¬ ((o : Int) + 4 ≤ 6) → P) → P := fun P p1 p2 p3 => by
        by_cases c1 : (6 : Int) < o
        · exact p1 c1 (HO.out (by omega))
        · by_cases c2 : (o : Int) + 4 ≤ 6
          · exact p2 c2 c1 (HO.out (by omega))
          · exact p3 c1 c2
      have VH := Lib.hid VC
      clear VC HO
      refine VH.out _ (fun c1 hc => ?_) (fun c2 c1 hc => ?_) (fun c1 c2 => ?_)
      · clear VH
        try simp only [Int.ediv_one] at hc
        subst hc
        go_wp2_with fail
        refine (AA.out _).mono ?_
        rintro e wa ⟨rfl, b⟩
        replace Q := Lib.hid (Q.out.after b)
        clear b
        go_wp2_with fail
        refine (LL.out _ _ Q.out).mono ?_
        rintro e wb ⟨rfl, b⟩
        replace Q := Lib.hid (Q.out.after b)
        clear b
        go_wp2_with fail
        go_round
        case rel => exact ⟨7, rfl, by omega, Q⟩
        case measure => simp [intOf]
      · clear VH
        try simp only [Int.ediv_one] at hc
        subst hc
        go_wp2_with fail
        refine (AA.out _).mono ?_
        rintro e wa ⟨rfl, b⟩
        replace Q := Lib.hid (Q.out.after b)
        clear b
        go_wp2_with fail
        refine (LL.out _ _ Q.out).mono ?_
        rintro e wb ⟨rfl, b⟩
        replace Q := Lib.hid (Q.out.after b)
        clear b
        go_wp2_with fail
        go_round
        case rel => exact ⟨7, rfl, by omega, Q⟩
        case measure => simp [intOf]
      · clear VH
        go_wp2_with fail
        refine (AA.out _).mono ?_
        rintro e wa ⟨rfl, b⟩
        replace Q := Lib.hid (Q.out.after b)
        clear b
        go_wp2_with fail
        refine (LL.out _ _ Q.out).mono ?_
        rintro e wb ⟨rfl, b⟩
        replace Q := Lib.hid (Q.out.after b)
        clear b
        go_wp2_with fail
        go_round
        case rel => exact ⟨7, rfl, by omega, Q⟩
        case measure => simp [intOf]
    · have AA := Lib.hid (AJ.out 7)
      have LL := Lib.hid fun g w' h => LJ.out 7 g w' (by omega) h
      have HO := Lib.hid (HOUT.out 7 (by omega))
      have hj := HAND.out (a / 72057594037927936) (by omega)
      rw [show ((7 : Nat) : Int) = 7 from rfl] at AA LL ⊢
      generalize bAt y.b 7 = cj at *
      generalize atI 1 (7 : Int) = aj at *
      clear AJ LJ HOUT HAND
      have VC : ∀ (P : Prop), (((7 : Int) < o) → cj = a / 72057594037927936 % 256 → P) → ((o : Int) + 4 ≤ 7 → ¬ ((7 : Int) < o) → cj = a / 72057594037927936 % 256 → P) → (¬ ((7 : Int) < o) → ¬ ((o : Int) + 4 ≤ 7) → P) → P := fun P p1 p2 p3 => by
        by_cases c1 : (7 : Int) < o
        · exact p1 c1 (HO.out (by omega))
        · by_cases c2 : (o : Int) + 4 ≤ 7
          · exact p2 c2 c1 (HO.out (by omega))
          · exact p3 c1 c2
      have VH := Lib.hid VC
      clear VC HO
      refine VH.out _ (fun c1 hc => ?_) (fun c2 c1 hc => ?_) (fun c1 c2 => ?_)
      · exact absurd c1 (by omega)
      · clear VH
        try simp only [Int.ediv_one] at hc
        subst hc
        go_wp2_with fail
        refine (AA.out _).mono ?_
        rintro e wa ⟨rfl, b⟩
        replace Q := Lib.hid (Q.out.after b)
        clear b
        go_wp2_with fail
        refine (LL.out _ _ Q.out).mono ?_
        rintro e wb ⟨rfl, b⟩
        replace Q := Lib.hid (Q.out.after b)
        clear b
        go_wp2_with fail
        go_round
        case rel => exact ⟨8, rfl, by omega, Q⟩
        case measure => simp [intOf]
      · clear VH
        go_wp2_with fail
        refine (AA.out _).mono ?_
        rintro e wa ⟨rfl, b⟩
        replace Q := Lib.hid (Q.out.after b)
        clear b
        go_wp2_with fail
        refine (LL.out _ _ Q.out).mono ?_
        rintro e wb ⟨rfl, b⟩
        replace Q := Lib.hid (Q.out.after b)
        clear b
        go_wp2_with fail
        go_round
        case rel => exact ⟨8, rfl, by omega, Q⟩
        case measure => simp [intOf]
    · rw [show ((8 : Nat) : Int) = 8 from rfl]
      go_wp2_with fail
      go_ret
      exact ⟨rfl, Q.out.below⟩

set_option maxRecDepth 100000 in
set_option maxHeartbeats 4000000 in
theorem l8_MemLast_8z (a b off size : Int) (w : World) (ha : 0 ≤ a ∧ a ≤ 18446744073709551615) (hb : 0 ≤ b ∧ b ≤ 18446744073709551615) (hoff : 0 ≤ off ∧ off ≤ 255) (hsz : 0 ≤ size ∧ size ≤ 255) (o : Nat) (ho : off % 8 = o) (hz : size % 4 = 3) (hzo : o = 0) : Calls Try.prog 8 #[.int .u64 a, .int .u64 b, .int .u8 off, .int .u8 size] w (Fine w) := by
  have N := Lib.hid (mm_New w)
  have SH := Lib.hid l8_shown
  have o7 : o ≤ 7 := by omega
  have ho2 : off.tmod 8 = o := by rw [← ho]; exact Int.tmod_eq_emod_of_nonneg hoff.1
  have hz2 : size.tmod 4 = 3 := by rw [← hz]; exact Int.tmod_eq_emod_of_nonneg hsz.1
  have hlen : paL.b.length = 16 := List.length_replicate
  have hbl : paL.bl.length = paL.b.length := by rw [hlen]; exact List.length_replicate
  have l1 : (paSet paL 0 8 a).b.length = 16 := (putN_len _ _ _).trans hlen
  have l2 : (paSet paL 0 8 a).bl.length = (paSet paL 0 8 a).b.length := by rw [l1]; exact (putN_len _ _ _).trans (hbl.trans hlen)
  obtain ⟨_, _, b1, b2⟩ := at_parts (i := 1) (o := (o : Int)) (by omega) (by omega)
  have e1 : pStore [paL] (atI 1 0) 8 a = ([paSet paL 0 8 a], 0) := store_in (a := paL) (o := 0) (s := 8) (by show (0 : Int) ≤ 1 ∧ (1 : Int) < 2147483648; omega) (by omega) (by omega) (by rw [hlen]; omega) rfl
  have e2 : pStore [paSet paL 0 8 a] (atI 1 o) 8 b = ([paSet (paSet paL 0 8 a) o 8 b], 0) := store_in (a := paSet paL 0 8 a) (o := o) (s := 8) (by show (0 : Int) ≤ 1 ∧ (1 : Int) < 2147483648; omega) (by omega) (by omega) (by rw [l1]; omega) rfl
  have e3 : pLoad [paSet (paSet paL 0 8 a) o 8 b] (atI 1 o) 8 = (b % 18446744073709551616, 0) := by
    have := load_part (a := paSet paL 0 8 a) (o := o) (s := 8) (d := 0) (t := 8) (n := b) (by show (0 : Int) ≤ 1 ∧ (1 : Int) < 2147483648; omega) (by omega) (by omega) (by rw [l1]; omega) l2 (by omega)
    simp at this
    exact this
  have HLD : Hid (∀ i : Nat, i < 8 → pLoad [paSet (paSet paL 0 8 a) o 8 b] (atI 1 i) 1 = (bAt (paSet (paSet paL 0 8 a) o 8 b).b i, 0)) := Lib.hid fun i hi => by
    have h1 := load_one (a := paSet (paSet paL 0 8 a) o 8 b) (o := i) (s := 1) (by show (0 : Int) ≤ 1 ∧ (1 : Int) < 2147483648; omega) (by omega) rfl
    have hr : rdA (paSet (paSet paL 0 8 a) o 8 b) i 1 = ([bAt (paSet (paSet paL 0 8 a) o 8 b).b i], 0) := by
      rw [read_byte, if_pos (by rw [show (paSet (paSet paL 0 8 a) o 8 b).b.length = 16 from (putN_len _ _ _).trans l1]; omega), set_bit (by rw [l2, l1]; omega), set_bit (a := paL) (by rw [hbl, hlen]; omega)]
      rw [show (if o ≤ i ∧ i < o + 8 then false else if 0 ≤ i ∧ i < 0 + 8 then false else paL.bl.getD i false) = false by split; rfl; rw [if_pos (by omega)]]
      rw [if_neg Bool.false_ne_true]
    rw [hr, if_pos rfl, leN_one] at h1
    exact h1
  have HOUT : Hid (∀ i : Nat, i < 8 → ¬ (o ≤ i ∧ i < o + 8) → bAt (paSet (paSet paL 0 8 a) o 8 b).b i = a / 256 ^ i % 256) := Lib.hid fun i hi hn => by
    rw [set_byte (by rw [l1]; omega), if_neg hn, set_byte (by rw [hlen]; omega), if_pos (by omega), leB_at _ _ _ (by omega)]
    rfl
  have A0 := Lib.hid fun w' => mm_at 1 0 w' 4294967296 rfl
  have A1 := Lib.hid fun w' => mm_at 1 o w' _ rfl
  have AJ := Lib.hid fun (j : Nat) w' => mm_at 1 (j : Int) w' _ rfl
  have MK := Lib.hid fun g w' B (h : Mm w w' g []) (hb : BytS w' B (List.replicate 16 0)) => mm_Make 1 (List.replicate 16 0) B 16 true false h hb (okB_zeros 16) (by rw [List.length_replicate]; omega) (by unfold maxLen; omega) (by simp)
  rw [show pMake [] 1 (List.replicate 16 0) true false = ([paL], 0) by kernel_rfl] at MK
  have S1 := Lib.hid fun g w' (h : Mm w w' g [paL]) => mm_Store 4294967296 8 a h (by omega) ha
  rw [show (4294967296 : Int) = atI 1 0 from rfl, e1] at S1
  rw [show atI 1 0 = (4294967296 : Int) from rfl] at S1
  have S2 := Lib.hid fun g w' (h : Mm w w' g [paSet paL 0 8 a]) => mm_Store (atI 1 o) 8 b h ⟨b1, b2⟩ hb
  rw [e2] at S2
  have L1 := Lib.hid fun g w' (h : Mm w w' g [paSet (paSet paL 0 8 a) o 8 b]) => mm_Load (atI 1 o) 8 h ⟨b1, b2⟩
  rw [e3] at L1
  have LJ : Hid (∀ (j : Nat) g w', j < 8 → Mm w w' g [paSet (paSet paL 0 8 a) o 8 b] → Calls Try.prog 16 #[.pointer (some ⟨g, 0, none⟩), .int .u64 (atI 1 j), .int .i64 1] w' (Gives (.tuple #[.int .u64 (bAt (paSet (paSet paL 0 8 a) o 8 b).b j), .int .i64 0]) w')) := Lib.hid fun j g w' hj h => by
    obtain ⟨_, _, c1, c2⟩ := at_parts (i := 1) (o := (j : Int)) (by omega) (by omega)
    have := mm_Load (atI 1 j) 1 h ⟨c1, c2⟩
    rw [HLD.out j hj] at this
    exact this
  have hand : bits .and .u64 b 18446744073709551615 = b % 18446744073709551616 := by
    have := and_low (n := b) (k := 64) hb (by omega)
    simpa using this
  have hand8 : bits .and .u64 b (IntKind.u64.wrap (IntKind.u64.wrap 18446744073709551616 - 1)) = b % 18446744073709551616 := hand
  have HAND : Hid (∀ x : Int, 0 ≤ x ∧ x ≤ 18446744073709551615 → bits .and .u64 x 255 = x % 256) := Lib.hid fun x hx => by
    have := and_low (n := x) (k := 8) hx (by omega)
    simpa using this
  clear e1 e2 e3 hlen hbl l1 l2 b1 b2 HLD
  generalize paSet (paSet paL 0 8 a) o 8 b = y at *
  generalize paSet paL 0 8 a = y1 at *
  have o0 : (0 : Int) ≤ o := by omega
  have o7i : (o : Int) ≤ 7 := by omega
  generalize atI 1 (o : Int) = a1 at *
  subst hzo
  have e00 : ((0 : Nat) : Int) = 0 := rfl
  rw [e00] at A1 ho2 ho
  clear o0 o7i e00
  go_enter Try.func8, Try.ntmps8
  go_wp2_with fail
  refine (SH.out _).mono ?_
  rintro e w0 ⟨rfl, b0⟩
  have V := Lib.hid b0
  clear b0
  go_wp2_with fail
  refine (N.out _ V.out).mono ?_
  rintro e w1 ⟨g, rfl, q1⟩
  have Q := Lib.hid q1
  clear q1 V N SH
  go_wp2_with fail
  generalize w1 = ww at *
  go_region
  replace Q := Lib.hid (Q.out.after (below_alloc (Below.refl _ _) (.cells #[.int .i64 1, .int .i64 2, .int .i64 4, .int .i64 8] 3)).drew)
  generalize (ww.alloc (.cells #[.int .i64 1, .int .i64 2, .int .i64 4, .int .i64 8] 3)).drew = wl at *
  obtain ⟨w2, hmk, hown, hgr⟩ := made_zeros 16 w.heap.size (by omega) wl Q.out.below.size
  have hmk' : (Instr.makeSlice 32 (.int .i64 16) (.int .i64 16)).run Try.prog wl = .ok (.slice (some ⟨wl.heap.size, 0, none⟩) 16 16) w2 := hmk
  replace Q := Lib.hid (Q.out.made hgr)
  have HB := Lib.hid (own_bytS (b := List.replicate 16 0) List.length_replicate.symm hown)
  clear hmk hgr hown
  have MK2 := Lib.hid fun w' B h hb => MK.out g w' B h hb
  rw [List.length_replicate] at MK2
  clear MK
  go_wp2_with fail
  refine (MK2.out _ _ Q.out HB.out).mono ?_
  rintro e w3 ⟨rfl, q⟩
  replace Q := Lib.hid q
  clear q
  go_wp2_with fail
  clear HB MK2
  refine (A0.out _).mono ?_
  rintro e w4 ⟨rfl, b⟩
  replace Q := Lib.hid (Q.out.after b)
  clear b
  go_wp2_with fail
  refine (S1.out _ _ Q.out).mono ?_
  rintro e w5 ⟨rfl, q⟩
  replace Q := Lib.hid q
  clear q
  go_wp2_with fail
  refine (A1.out _).mono ?_
  rintro e w6 ⟨rfl, b⟩
  replace Q := Lib.hid (Q.out.after b)
  clear b
  go_wp2_with fail
  refine (S2.out _ _ Q.out).mono ?_
  rintro e w7 ⟨rfl, q⟩
  replace Q := Lib.hid q
  clear q
  go_wp2_with fail
  refine (A1.out _).mono ?_
  rintro e w8 ⟨rfl, b⟩
  replace Q := Lib.hid (Q.out.after b)
  clear b
  go_wp2_with fail
  refine (L1.out _ _ Q.out).mono ?_
  rintro e w9 ⟨rfl, b⟩
  replace Q := Lib.hid (Q.out.after b)
  clear b
  go_wp2_with fail
  clear A0 A1 S1 S2 L1 hmk' ho ho2 hz hz2 hoff hsz
  go_loopw [72] (fun v wr => ∃ j : Nat, v = .int .i64 j ∧ j ≤ 8 ∧ Hid (Mm w wr g [y])) (fun v wr => 8 - (intOf v).toNat)
  case atStart => exact ⟨0, rfl, by omega, Q⟩
  case round =>
    clear Q
    obtain ⟨j, rfl, hj, Q⟩ := hrel
    have hj8 : j = 0 ∨ j = 1 ∨ j = 2 ∨ j = 3 ∨ j = 4 ∨ j = 5 ∨ j = 6 ∨ j = 7 ∨ j = 8 := by omega
    clear hj
    rcases hj8 with rfl | rfl | rfl | rfl | rfl | rfl | rfl | rfl | rfl
    · have AA := Lib.hid (AJ.out 0)
      have LL := Lib.hid fun g w' h => LJ.out 0 g w' (by omega) h
      have HO := Lib.hid (HOUT.out 0 (by omega))
      have hj := HAND.out a ha
      rw [show ((0 : Nat) : Int) = 0 from rfl] at AA LL ⊢
      generalize bAt y.b 0 = cj at *
      generalize atI 1 (0 : Int) = aj at *
      clear AJ LJ HOUT HAND
      clear HO
      go_wp2_with fail
      refine (AA.out _).mono ?_
      rintro e wa ⟨rfl, b⟩
      replace Q := Lib.hid (Q.out.after b)
      clear b
      go_wp2_with fail
      refine (LL.out _ _ Q.out).mono ?_
      rintro e wb ⟨rfl, b⟩
      replace Q := Lib.hid (Q.out.after b)
      clear b
      go_wp2_with fail
      go_round
      case rel => exact ⟨1, rfl, by omega, Q⟩
      case measure => simp [intOf]
    · have AA := Lib.hid (AJ.out 1)
      have LL := Lib.hid fun g w' h => LJ.out 1 g w' (by omega) h
      have HO := Lib.hid (HOUT.out 1 (by omega))
      have hj := HAND.out (a / 256) (by omega)
      rw [show ((1 : Nat) : Int) = 1 from rfl] at AA LL ⊢
      generalize bAt y.b 1 = cj at *
      generalize atI 1 (1 : Int) = aj at *
      clear AJ LJ HOUT HAND
      clear HO
      go_wp2_with fail
      refine (AA.out _).mono ?_
      rintro e wa ⟨rfl, b⟩
      replace Q := Lib.hid (Q.out.after b)
      clear b
      go_wp2_with fail
      refine (LL.out _ _ Q.out).mono ?_
      rintro e wb ⟨rfl, b⟩
      replace Q := Lib.hid (Q.out.after b)
      clear b
      go_wp2_with fail
      go_round
      case rel => exact ⟨2, rfl, by omega, Q⟩
      case measure => simp [intOf]
    · have AA := Lib.hid (AJ.out 2)
      have LL := Lib.hid fun g w' h => LJ.out 2 g w' (by omega) h
      have HO := Lib.hid (HOUT.out 2 (by omega))
      have hj := HAND.out (a / 65536) (by omega)
      rw [show ((2 : Nat) : Int) = 2 from rfl] at AA LL ⊢
      generalize bAt y.b 2 = cj at *
      generalize atI 1 (2 : Int) = aj at *
      clear AJ LJ HOUT HAND
      clear HO
      go_wp2_with fail
      refine (AA.out _).mono ?_
      rintro e wa ⟨rfl, b⟩
      replace Q := Lib.hid (Q.out.after b)
      clear b
      go_wp2_with fail
      refine (LL.out _ _ Q.out).mono ?_
      rintro e wb ⟨rfl, b⟩
      replace Q := Lib.hid (Q.out.after b)
      clear b
      go_wp2_with fail
      go_round
      case rel => exact ⟨3, rfl, by omega, Q⟩
      case measure => simp [intOf]
    · have AA := Lib.hid (AJ.out 3)
      have LL := Lib.hid fun g w' h => LJ.out 3 g w' (by omega) h
      have HO := Lib.hid (HOUT.out 3 (by omega))
      have hj := HAND.out (a / 16777216) (by omega)
      rw [show ((3 : Nat) : Int) = 3 from rfl] at AA LL ⊢
      generalize bAt y.b 3 = cj at *
      generalize atI 1 (3 : Int) = aj at *
      clear AJ LJ HOUT HAND
      clear HO
      go_wp2_with fail
      refine (AA.out _).mono ?_
      rintro e wa ⟨rfl, b⟩
      replace Q := Lib.hid (Q.out.after b)
      clear b
      go_wp2_with fail
      refine (LL.out _ _ Q.out).mono ?_
      rintro e wb ⟨rfl, b⟩
      replace Q := Lib.hid (Q.out.after b)
      clear b
      go_wp2_with fail
      go_round
      case rel => exact ⟨4, rfl, by omega, Q⟩
      case measure => simp [intOf]
    · have AA := Lib.hid (AJ.out 4)
      have LL := Lib.hid fun g w' h => LJ.out 4 g w' (by omega) h
      have HO := Lib.hid (HOUT.out 4 (by omega))
      have hj := HAND.out (a / 4294967296) (by omega)
      rw [show ((4 : Nat) : Int) = 4 from rfl] at AA LL ⊢
      generalize bAt y.b 4 = cj at *
      generalize atI 1 (4 : Int) = aj at *
      clear AJ LJ HOUT HAND
      clear HO
      go_wp2_with fail
      refine (AA.out _).mono ?_
      rintro e wa ⟨rfl, b⟩
      replace Q := Lib.hid (Q.out.after b)
      clear b
      go_wp2_with fail
      refine (LL.out _ _ Q.out).mono ?_
      rintro e wb ⟨rfl, b⟩
      replace Q := Lib.hid (Q.out.after b)
      clear b
      go_wp2_with fail
      go_round
      case rel => exact ⟨5, rfl, by omega, Q⟩
      case measure => simp [intOf]
    · have AA := Lib.hid (AJ.out 5)
      have LL := Lib.hid fun g w' h => LJ.out 5 g w' (by omega) h
      have HO := Lib.hid (HOUT.out 5 (by omega))
      have hj := HAND.out (a / 1099511627776) (by omega)
      rw [show ((5 : Nat) : Int) = 5 from rfl] at AA LL ⊢
      generalize bAt y.b 5 = cj at *
      generalize atI 1 (5 : Int) = aj at *
      clear AJ LJ HOUT HAND
      clear HO
      go_wp2_with fail
      refine (AA.out _).mono ?_
      rintro e wa ⟨rfl, b⟩
      replace Q := Lib.hid (Q.out.after b)
      clear b
      go_wp2_with fail
      refine (LL.out _ _ Q.out).mono ?_
      rintro e wb ⟨rfl, b⟩
      replace Q := Lib.hid (Q.out.after b)
      clear b
      go_wp2_with fail
      go_round
      case rel => exact ⟨6, rfl, by omega, Q⟩
      case measure => simp [intOf]
    · have AA := Lib.hid (AJ.out 6)
      have LL := Lib.hid fun g w' h => LJ.out 6 g w' (by omega) h
      have HO := Lib.hid (HOUT.out 6 (by omega))
      have hj := HAND.out (a / 281474976710656) (by omega)
      rw [show ((6 : Nat) : Int) = 6 from rfl] at AA LL ⊢
      generalize bAt y.b 6 = cj at *
      generalize atI 1 (6 : Int) = aj at *
      clear AJ LJ HOUT HAND
      clear HO
      go_wp2_with fail
      refine (AA.out _).mono ?_
      rintro e wa ⟨rfl, b⟩
      replace Q := Lib.hid (Q.out.after b)
      clear b
      go_wp2_with fail
      refine (LL.out _ _ Q.out).mono ?_
      rintro e wb ⟨rfl, b⟩
      replace Q := Lib.hid (Q.out.after b)
      clear b
      go_wp2_with fail
      go_round
      case rel => exact ⟨7, rfl, by omega, Q⟩
      case measure => simp [intOf]
    · have AA := Lib.hid (AJ.out 7)
      have LL := Lib.hid fun g w' h => LJ.out 7 g w' (by omega) h
      have HO := Lib.hid (HOUT.out 7 (by omega))
      have hj := HAND.out (a / 72057594037927936) (by omega)
      rw [show ((7 : Nat) : Int) = 7 from rfl] at AA LL ⊢
      generalize bAt y.b 7 = cj at *
      generalize atI 1 (7 : Int) = aj at *
      clear AJ LJ HOUT HAND
      clear HO
      go_wp2_with fail
      refine (AA.out _).mono ?_
      rintro e wa ⟨rfl, b⟩
      replace Q := Lib.hid (Q.out.after b)
      clear b
      go_wp2_with fail
      refine (LL.out _ _ Q.out).mono ?_
      rintro e wb ⟨rfl, b⟩
      replace Q := Lib.hid (Q.out.after b)
      clear b
      go_wp2_with fail
      go_round
      case rel => exact ⟨8, rfl, by omega, Q⟩
      case measure => simp [intOf]
    · rw [show ((8 : Nat) : Int) = 8 from rfl]
      go_wp2_with fail
      go_ret
      exact ⟨rfl, Q.out.below⟩

set_option maxRecDepth 100000 in
set_option maxHeartbeats 4000000 in
theorem l8_MemLast_8 (a b off size : Int) (w : World) (ha : 0 ≤ a ∧ a ≤ 18446744073709551615) (hb : 0 ≤ b ∧ b ≤ 18446744073709551615) (hoff : 0 ≤ off ∧ off ≤ 255) (hsz : 0 ≤ size ∧ size ≤ 255) (o : Nat) (ho : off % 8 = o) (hz : size % 4 = 3) (hzo : 0 < o) : Calls Try.prog 8 #[.int .u64 a, .int .u64 b, .int .u8 off, .int .u8 size] w (Fine w) := by
  have N := Lib.hid (mm_New w)
  have SH := Lib.hid l8_shown
  have o7 : o ≤ 7 := by omega
  have ho2 : off.tmod 8 = o := by rw [← ho]; exact Int.tmod_eq_emod_of_nonneg hoff.1
  have hz2 : size.tmod 4 = 3 := by rw [← hz]; exact Int.tmod_eq_emod_of_nonneg hsz.1
  have hlen : paL.b.length = 16 := List.length_replicate
  have hbl : paL.bl.length = paL.b.length := by rw [hlen]; exact List.length_replicate
  have l1 : (paSet paL 0 8 a).b.length = 16 := (putN_len _ _ _).trans hlen
  have l2 : (paSet paL 0 8 a).bl.length = (paSet paL 0 8 a).b.length := by rw [l1]; exact (putN_len _ _ _).trans (hbl.trans hlen)
  obtain ⟨_, _, b1, b2⟩ := at_parts (i := 1) (o := (o : Int)) (by omega) (by omega)
  have e1 : pStore [paL] (atI 1 0) 8 a = ([paSet paL 0 8 a], 0) := store_in (a := paL) (o := 0) (s := 8) (by show (0 : Int) ≤ 1 ∧ (1 : Int) < 2147483648; omega) (by omega) (by omega) (by rw [hlen]; omega) rfl
  have e2 : pStore [paSet paL 0 8 a] (atI 1 o) 8 b = ([paSet (paSet paL 0 8 a) o 8 b], 0) := store_in (a := paSet paL 0 8 a) (o := o) (s := 8) (by show (0 : Int) ≤ 1 ∧ (1 : Int) < 2147483648; omega) (by omega) (by omega) (by rw [l1]; omega) rfl
  have e3 : pLoad [paSet (paSet paL 0 8 a) o 8 b] (atI 1 o) 8 = (b % 18446744073709551616, 0) := by
    have := load_part (a := paSet paL 0 8 a) (o := o) (s := 8) (d := 0) (t := 8) (n := b) (by show (0 : Int) ≤ 1 ∧ (1 : Int) < 2147483648; omega) (by omega) (by omega) (by rw [l1]; omega) l2 (by omega)
    simp at this
    exact this
  have HLD : Hid (∀ i : Nat, i < 8 → pLoad [paSet (paSet paL 0 8 a) o 8 b] (atI 1 i) 1 = (bAt (paSet (paSet paL 0 8 a) o 8 b).b i, 0)) := Lib.hid fun i hi => by
    have h1 := load_one (a := paSet (paSet paL 0 8 a) o 8 b) (o := i) (s := 1) (by show (0 : Int) ≤ 1 ∧ (1 : Int) < 2147483648; omega) (by omega) rfl
    have hr : rdA (paSet (paSet paL 0 8 a) o 8 b) i 1 = ([bAt (paSet (paSet paL 0 8 a) o 8 b).b i], 0) := by
      rw [read_byte, if_pos (by rw [show (paSet (paSet paL 0 8 a) o 8 b).b.length = 16 from (putN_len _ _ _).trans l1]; omega), set_bit (by rw [l2, l1]; omega), set_bit (a := paL) (by rw [hbl, hlen]; omega)]
      rw [show (if o ≤ i ∧ i < o + 8 then false else if 0 ≤ i ∧ i < 0 + 8 then false else paL.bl.getD i false) = false by split; rfl; rw [if_pos (by omega)]]
      rw [if_neg Bool.false_ne_true]
    rw [hr, if_pos rfl, leN_one] at h1
    exact h1
  have HOUT : Hid (∀ i : Nat, i < 8 → ¬ (o ≤ i ∧ i < o + 8) → bAt (paSet (paSet paL 0 8 a) o 8 b).b i = a / 256 ^ i % 256) := Lib.hid fun i hi hn => by
    rw [set_byte (by rw [l1]; omega), if_neg hn, set_byte (by rw [hlen]; omega), if_pos (by omega), leB_at _ _ _ (by omega)]
    rfl
  have A0 := Lib.hid fun w' => mm_at 1 0 w' 4294967296 rfl
  have A1 := Lib.hid fun w' => mm_at 1 o w' _ rfl
  have AJ := Lib.hid fun (j : Nat) w' => mm_at 1 (j : Int) w' _ rfl
  have MK := Lib.hid fun g w' B (h : Mm w w' g []) (hb : BytS w' B (List.replicate 16 0)) => mm_Make 1 (List.replicate 16 0) B 16 true false h hb (okB_zeros 16) (by rw [List.length_replicate]; omega) (by unfold maxLen; omega) (by simp)
  rw [show pMake [] 1 (List.replicate 16 0) true false = ([paL], 0) by kernel_rfl] at MK
  have S1 := Lib.hid fun g w' (h : Mm w w' g [paL]) => mm_Store 4294967296 8 a h (by omega) ha
  rw [show (4294967296 : Int) = atI 1 0 from rfl, e1] at S1
  rw [show atI 1 0 = (4294967296 : Int) from rfl] at S1
  have S2 := Lib.hid fun g w' (h : Mm w w' g [paSet paL 0 8 a]) => mm_Store (atI 1 o) 8 b h ⟨b1, b2⟩ hb
  rw [e2] at S2
  have L1 := Lib.hid fun g w' (h : Mm w w' g [paSet (paSet paL 0 8 a) o 8 b]) => mm_Load (atI 1 o) 8 h ⟨b1, b2⟩
  rw [e3] at L1
  have LJ : Hid (∀ (j : Nat) g w', j < 8 → Mm w w' g [paSet (paSet paL 0 8 a) o 8 b] → Calls Try.prog 16 #[.pointer (some ⟨g, 0, none⟩), .int .u64 (atI 1 j), .int .i64 1] w' (Gives (.tuple #[.int .u64 (bAt (paSet (paSet paL 0 8 a) o 8 b).b j), .int .i64 0]) w')) := Lib.hid fun j g w' hj h => by
    obtain ⟨_, _, c1, c2⟩ := at_parts (i := 1) (o := (j : Int)) (by omega) (by omega)
    have := mm_Load (atI 1 j) 1 h ⟨c1, c2⟩
    rw [HLD.out j hj] at this
    exact this
  have hand : bits .and .u64 b 18446744073709551615 = b % 18446744073709551616 := by
    have := and_low (n := b) (k := 64) hb (by omega)
    simpa using this
  have hand8 : bits .and .u64 b (IntKind.u64.wrap (IntKind.u64.wrap 18446744073709551616 - 1)) = b % 18446744073709551616 := hand
  have HAND : Hid (∀ x : Int, 0 ≤ x ∧ x ≤ 18446744073709551615 → bits .and .u64 x 255 = x % 256) := Lib.hid fun x hx => by
    have := and_low (n := x) (k := 8) hx (by omega)
    simpa using this
  clear e1 e2 e3 hlen hbl l1 l2 b1 b2 HLD
  generalize paSet (paSet paL 0 8 a) o 8 b = y at *
  generalize paSet paL 0 8 a = y1 at *
  have o0 : (0 : Int) ≤ o := by omega
  have o7i : (o : Int) ≤ 7 := by omega
  generalize atI 1 (o : Int) = a1 at *
  have o1 : (1 : Int) ≤ o := by omega
  clear hzo
  go_enter Try.func8, Try.ntmps8
  go_wp2_with fail
  refine (SH.out _).mono ?_
  rintro e w0 ⟨rfl, b0⟩
  have V := Lib.hid b0
  clear b0
  go_wp2_with fail
  refine (N.out _ V.out).mono ?_
  rintro e w1 ⟨g, rfl, q1⟩
  have Q := Lib.hid q1
  clear q1 V N SH
  go_wp2_with fail
  generalize w1 = ww at *
  go_region
  replace Q := Lib.hid (Q.out.after (below_alloc (Below.refl _ _) (.cells #[.int .i64 1, .int .i64 2, .int .i64 4, .int .i64 8] 3)).drew)
  generalize (ww.alloc (.cells #[.int .i64 1, .int .i64 2, .int .i64 4, .int .i64 8] 3)).drew = wl at *
  obtain ⟨w2, hmk, hown, hgr⟩ := made_zeros 16 w.heap.size (by omega) wl Q.out.below.size
  have hmk' : (Instr.makeSlice 32 (.int .i64 16) (.int .i64 16)).run Try.prog wl = .ok (.slice (some ⟨wl.heap.size, 0, none⟩) 16 16) w2 := hmk
  replace Q := Lib.hid (Q.out.made hgr)
  have HB := Lib.hid (own_bytS (b := List.replicate 16 0) List.length_replicate.symm hown)
  clear hmk hgr hown
  have MK2 := Lib.hid fun w' B h hb => MK.out g w' B h hb
  rw [List.length_replicate] at MK2
  clear MK
  go_wp2_with fail
  refine (MK2.out _ _ Q.out HB.out).mono ?_
  rintro e w3 ⟨rfl, q⟩
  replace Q := Lib.hid q
  clear q
  go_wp2_with fail
  clear HB MK2
  refine (A0.out _).mono ?_
  rintro e w4 ⟨rfl, b⟩
  replace Q := Lib.hid (Q.out.after b)
  clear b
  go_wp2_with fail
  refine (S1.out _ _ Q.out).mono ?_
  rintro e w5 ⟨rfl, q⟩
  replace Q := Lib.hid q
  clear q
  go_wp2_with fail
  refine (A1.out _).mono ?_
  rintro e w6 ⟨rfl, b⟩
  replace Q := Lib.hid (Q.out.after b)
  clear b
  go_wp2_with fail
  refine (S2.out _ _ Q.out).mono ?_
  rintro e w7 ⟨rfl, q⟩
  replace Q := Lib.hid q
  clear q
  go_wp2_with fail
  refine (A1.out _).mono ?_
  rintro e w8 ⟨rfl, b⟩
  replace Q := Lib.hid (Q.out.after b)
  clear b
  go_wp2_with fail
  refine (L1.out _ _ Q.out).mono ?_
  rintro e w9 ⟨rfl, b⟩
  replace Q := Lib.hid (Q.out.after b)
  clear b
  go_wp2_with fail
  clear A0 A1 S1 S2 L1 hmk' ho ho2 hz hz2 hoff hsz
  go_loopw [72] (fun v wr => ∃ j : Nat, v = .int .i64 j ∧ j ≤ 8 ∧ Hid (Mm w wr g [y])) (fun v wr => 8 - (intOf v).toNat)
  case atStart => exact ⟨0, rfl, by omega, Q⟩
  case round =>
    clear Q
    obtain ⟨j, rfl, hj, Q⟩ := hrel
    have hj8 : j = 0 ∨ j = 1 ∨ j = 2 ∨ j = 3 ∨ j = 4 ∨ j = 5 ∨ j = 6 ∨ j = 7 ∨ j = 8 := by omega
    clear hj
    rcases hj8 with rfl | rfl | rfl | rfl | rfl | rfl | rfl | rfl | rfl
    · have AA := Lib.hid (AJ.out 0)
      have LL := Lib.hid fun g w' h => LJ.out 0 g w' (by omega) h
      have HO := Lib.hid (HOUT.out 0 (by omega))
      have hj := HAND.out a ha
      rw [show ((0 : Nat) : Int) = 0 from rfl] at AA LL ⊢
      generalize bAt y.b 0 = cj at *
      generalize atI 1 (0 : Int) = aj at *
      clear AJ LJ HOUT HAND
      have VC : ∀ (P : Prop), (((0 : Int) < o) → cj = a / 1 % 256 → P) → ((o : Int) + 8 ≤ 0 → ¬ ((0 : Int) < o) → cj = a / 1 % 256 → P) → (¬ ((0 : Int) < o) → ¬ ((o : Int) + 8 ≤ 0) → P) → P := fun P p1 p2 p3 => by
        by_cases c1 : (0 : Int) < o
        · exact p1 c1 (HO.out (by omega))
        · by_cases c2 : (o : Int) + 8 ≤ 0
          · exact p2 c2 c1 (HO.out (by omega))
          · exact p3 c1 c2
      have VH := Lib.hid VC
      clear VC HO
      refine VH.out _ (fun c1 hc => ?_) (fun c2 c1 hc => ?_) (fun c1 c2 => ?_)
      · clear VH
        try simp only [Int.ediv_one] at hc
        subst hc
        go_wp2_with fail
        refine (AA.out _).mono ?_
        rintro e wa ⟨rfl, b⟩
        replace Q := Lib.hid (Q.out.after b)
        clear b
        go_wp2_with fail
        refine (LL.out _ _ Q.out).mono ?_
        rintro e wb ⟨rfl, b⟩
        replace Q := Lib.hid (Q.out.after b)
        clear b
        go_wp2_with fail
        go_round
        case rel => exact ⟨1, rfl, by omega, Q⟩
        case measure => simp [intOf]
      · exact absurd c2 (by omega)
      · exact absurd c1 (by omega)
    · have AA := Lib.hid (AJ.out 1)
      have LL := Lib.hid fun g w' h => LJ.out 1 g w' (by omega) h
      have HO := Lib.hid (HOUT.out 1 (by omega))
      have hj := HAND.out (a / 256) (by omega)
      rw [show ((1 : Nat) : Int) = 1 from rfl] at AA LL ⊢
      generalize bAt y.b 1 = cj at *
      generalize atI 1 (1 : Int) = aj at *
      clear AJ LJ HOUT HAND
      have VC : ∀ (P : Prop), (((1 : Int) < o) → cj = a / 256 % 256 → P) → ((o : Int) + 8 ≤ 1 → ¬ ((1 : Int) < o) → cj = a / 256 % 256 → P) → (¬ ((1 : Int) < o) → ¬ ((o : Int) + 8 ≤ 1) → P) → P := fun P p1 p2 p3 => by
        by_cases c1 : (1 : Int) < o
        · exact p1 c1 (HO.out (by omega))
        · by_cases c2 : (o : Int) + 8 ≤ 1
          · exact p2 c2 c1 (HO.out (by omega))
          · exact p3 c1 c2
      have VH := Lib.hid VC
      clear VC HO
      refine VH.out _ (fun c1 hc => ?_) (fun c2 c1 hc => ?_) (fun c1 c2 => ?_)
      · clear VH
        try simp only [Int.ediv_one] at hc
        subst hc
        go_wp2_with fail
        refine (AA.out _).mono ?_
        rintro e wa ⟨rfl, b⟩
        replace Q := Lib.hid (Q.out.after b)
        clear b
        go_wp2_with fail
        refine (LL.out _ _ Q.out).mono ?_
        rintro e wb ⟨rfl, b⟩
        replace Q := Lib.hid (Q.out.after b)
        clear b
        go_wp2_with fail
        go_round
        case rel => exact ⟨2, rfl, by omega, Q⟩
        case measure => simp [intOf]
      · exact absurd c2 (by omega)
      · clear VH
        go_wp2_with fail
        refine (AA.out _).mono ?_
        rintro e wa ⟨rfl, b⟩
        replace Q := Lib.hid (Q.out.after b)
        clear b
        go_wp2_with fail
        refine (LL.out _ _ Q.out).mono ?_
        rintro e wb ⟨rfl, b⟩
        replace Q := Lib.hid (Q.out.after b)
        clear b
        go_wp2_with fail
        go_round
        case rel => exact ⟨2, rfl, by omega, Q⟩
        case measure => simp [intOf]
    · have AA := Lib.hid (AJ.out 2)
      have LL := Lib.hid fun g w' h => LJ.out 2 g w' (by omega) h
      have HO := Lib.hid (HOUT.out 2 (by omega))
      have hj := HAND.out (a / 65536) (by omega)
      rw [show ((2 : Nat) : Int) = 2 from rfl] at AA LL ⊢
      generalize bAt y.b 2 = cj at *
      generalize atI 1 (2 : Int) = aj at *
      clear AJ LJ HOUT HAND
      have VC : ∀ (P : Prop), (((2 : Int) < o) → cj = a / 65536 % 256 → P) → ((o : Int) + 8 ≤ 2 → ¬ ((2 : Int) < o) → cj = a / 65536 % 256 → P) → (¬ ((2 : Int) < o) → ¬ ((o : Int) + 8 ≤ 2) → P) → P := fun P p1 p2 p3 => by
        by_cases c1 : (2 : Int) < o
        · exact p1 c1 (HO.out (by omega))
        · by_cases c2 : (o : Int) + 8 ≤ 2
          · exact p2 c2 c1 (HO.out (by omega))
          · exact p3 c1 c2
      have VH := Lib.hid VC
      clear VC HO
      refine VH.out _ (fun c1 hc => ?_) (fun c2 c1 hc => ?_) (fun c1 c2 => ?_)
      · clear VH
        try simp only [Int.ediv_one] at hc
        subst hc
        go_wp2_with fail
        refine (AA.out _).mono ?_
        rintro e wa ⟨rfl, b⟩
        replace Q := Lib.hid (Q.out.after b)
        clear b
        go_wp2_with fail
        refine (LL.out _ _ Q.out).mono ?_
        rintro e wb ⟨rfl, b⟩
        replace Q := Lib.hid (Q.out.after b)
        clear b
        go_wp2_with fail
        go_round
        case rel => exact ⟨3, rfl, by omega, Q⟩
        case measure => simp [intOf]
      · exact absurd c2 (by omega)
      · clear VH
        go_wp2_with fail
        refine (AA.out _).mono ?_
        rintro e wa ⟨rfl, b⟩
        replace Q := Lib.hid (Q.out.after b)
        clear b
        go_wp2_with fail
        refine (LL.out _ _ Q.out).mono ?_
        rintro e wb ⟨rfl, b⟩
        replace Q := Lib.hid (Q.out.after b)
        clear b
        go_wp2_with fail
        go_round
        case rel => exact ⟨3, rfl, by omega, Q⟩
        case measure => simp [intOf]
    · have AA := Lib.hid (AJ.out 3)
      have LL := Lib.hid fun g w' h => LJ.out 3 g w' (by omega) h
      have HO := Lib.hid (HOUT.out 3 (by omega))
      have hj := HAND.out (a / 16777216) (by omega)
      rw [show ((3 : Nat) : Int) = 3 from rfl] at AA LL ⊢
      generalize bAt y.b 3 = cj at *
      generalize atI 1 (3 : Int) = aj at *
      clear AJ LJ HOUT HAND
      have VC : ∀ (P : Prop), (((3 : Int) < o) → cj = a / 16777216 % 256 → P) → ((o : Int) + 8 ≤ 3 → ¬ ((3 : Int) < o) → cj = a / 16777216 % 256 → P) → (¬ ((3 : Int) < o) → ¬ ((o : Int) + 8 ≤ 3) → P) → P := fun P p1 p2 p3 => by
        by_cases c1 : (3 : Int) < o
        · exact p1 c1 (HO.out (by omega))
        · by_cases c2 : (o : Int) + 8 ≤ 3
          · exact p2 c2 c1 (HO.out (by omega))
          · exact p3 c1 c2
      have VH := Lib.hid VC
      clear VC HO
      refine VH.out _ (fun c1 hc => ?_) (fun c2 c1 hc => ?_) (fun c1 c2 => ?_)
      · clear VH
        try simp only [Int.ediv_one] at hc
        subst hc
        go_wp2_with fail
        refine (AA.out _).mono ?_
        rintro e wa ⟨rfl, b⟩
        replace Q := Lib.hid (Q.out.after b)
        clear b
        go_wp2_with fail
        refine (LL.out _ _ Q.out).mono ?_
        rintro e wb ⟨rfl, b⟩
        replace Q := Lib.hid (Q.out.after b)
        clear b
        go_wp2_with fail
        go_round
        case rel => exact ⟨4, rfl, by omega, Q⟩
        case measure => simp [intOf]
      · exact absurd c2 (by omega)
      · clear VH
        go_wp2_with fail
        refine (AA.out _).mono ?_
        rintro e wa ⟨rfl, b⟩
        replace Q := Lib.hid (Q.out.after b)
        clear b
        go_wp2_with fail
        refine (LL.out _ _ Q.out).mono ?_
        rintro e wb ⟨rfl, b⟩
        replace Q := Lib.hid (Q.out.after b)
        clear b
        go_wp2_with fail
        go_round
        case rel => exact ⟨4, rfl, by omega, Q⟩
        case measure => simp [intOf]
    · have AA := Lib.hid (AJ.out 4)
      have LL := Lib.hid fun g w' h => LJ.out 4 g w' (by omega) h
      have HO := Lib.hid (HOUT.out 4 (by omega))
      have hj := HAND.out (a / 4294967296) (by omega)
      rw [show ((4 : Nat) : Int) = 4 from rfl] at AA LL ⊢
      generalize bAt y.b 4 = cj at *
      generalize atI 1 (4 : Int) = aj at *
      clear AJ LJ HOUT HAND
      have VC : ∀ (P : Prop), (((4 : Int) < o) → cj = a / 4294967296 % 256 → P) → ((o : Int) + 8 ≤ 4 → ¬ ((4 : Int) < o) → cj = a / 4294967296 % 256 → P) → (¬ ((4 : Int) < o) → ¬ ((o : Int) + 8 ≤ 4) → P) → P := fun P p1 p2 p3 => by
        by_cases c1 : (4 : Int) < o
        · exact p1 c1 (HO.out (by omega))
        · by_cases c2 : (o : Int) + 8 ≤ 4
          · exact p2 c2 c1 (HO.out (by omega))
          · exact p3 c1 c2
      have VH := Lib.hid VC
      clear VC HO
      refine VH.out _ (fun c1 hc => ?_) (fun c2 c1 hc => ?_) (fun c1 c2 => ?_)
      · clear VH
        try simp only [Int.ediv_one] at hc
        subst hc
        go_wp2_with fail
        refine (AA.out _).mono ?_
        rintro e wa ⟨rfl, b⟩
        replace Q := Lib.hid (Q.out.after b)
        clear b
        go_wp2_with fail
        refine (LL.out _ _ Q.out).mono ?_
        rintro e wb ⟨rfl, b⟩
        replace Q := Lib.hid (Q.out.after b)
        clear b
        go_wp2_with fail
        go_round
        case rel => exact ⟨5, rfl, by omega, Q⟩
        case measure => simp [intOf]
      · exact absurd c2 (by omega)
      · clear VH
        go_wp2_with fail
        refine (AA.out _).mono ?_
        rintro e wa ⟨rfl, b⟩
        replace Q := Lib.hid (Q.out.after b)
        clear b
        go_wp2_with fail
        refine (LL.out _ _ Q.out).mono ?_
        rintro e wb ⟨rfl, b⟩
        replace Q := Lib.hid (Q.out.after b)
        clear b
        go_wp2_with fail
        go_round
        case rel => exact ⟨5, rfl, by omega, Q⟩
        case measure => simp [intOf]
    · have AA := Lib.hid (AJ.out 5)
      have LL := Lib.hid fun g w' h => LJ.out 5 g w' (by omega) h
      have HO := Lib.hid (HOUT.out 5 (by omega))
      have hj := HAND.out (a / 1099511627776) (by omega)
      rw [show ((5 : Nat) : Int) = 5 from rfl] at AA LL ⊢
      generalize bAt y.b 5 = cj at *
      generalize atI 1 (5 : Int) = aj at *
      clear AJ LJ HOUT HAND
      have VC : ∀ (P : Prop), (((5 : Int) < o) → cj = a / 1099511627776 % 256 → P) → ((o : Int) + 8 ≤ 5 → ¬ ((5 : Int) < o) → cj = a / 1099511627776 % 256 → P) → (¬ ((5 : Int) < o) → ¬ ((o : Int) + 8 ≤ 5) → P) → P := fun P p1 p2 p3 => by
        by_cases c1 : (5 : Int) < o
        · exact p1 c1 (HO.out (by omega))
        · by_cases c2 : (o : Int) + 8 ≤ 5
          · exact p2 c2 c1 (HO.out (by omega))
          · exact p3 c1 c2
      have VH := Lib.hid VC
      clear VC HO
      refine VH.out _ (fun c1 hc => ?_) (fun c2 c1 hc => ?_) (fun c1 c2 => ?_)
      · clear VH
        try simp only [Int.ediv_one] at hc
        subst hc
        go_wp2_with fail
        refine (AA.out _).mono ?_
        rintro e wa ⟨rfl, b⟩
        replace Q := Lib.hid (Q.out.after b)
        clear b
        go_wp2_with fail
        refine (LL.out _ _ Q.out).mono ?_
        rintro e wb ⟨rfl, b⟩
        replace Q := Lib.hid (Q.out.after b)
        clear b
        go_wp2_with fail
        go_round
        case rel => exact ⟨6, rfl, by omega, Q⟩
        case measure => simp [intOf]
      · exact absurd c2 (by omega)
      · clear VH
        go_wp2_with fail
        refine (AA.out _).mono ?_
        rintro e wa ⟨rfl, b⟩
        replace Q := Lib.hid (Q.out.after b)
        clear b
        go_wp2_with fail
        refine (LL.out _ _ Q.out).mono ?_
        rintro e wb ⟨rfl, b⟩
        replace Q := Lib.hid (Q.out.after b)
        clear b
        go_wp2_with fail
        go_round
        case rel => exact ⟨6, rfl, by omega, Q⟩
        case measure => simp [intOf]
    · have AA := Lib.hid (AJ.out 6)
      have LL := Lib.hid fun g w' h => LJ.out 6 g w' (by omega) h
      have HO := Lib.hid (HOUT.out 6 (by omega))
      have hj := HAND.out (a / 281474976710656) (by omega)
      rw [show ((6 : Nat) : Int) = 6 from rfl] at AA LL ⊢
      generalize bAt y.b 6 = cj at *
      generalize atI 1 (6 : Int) = aj at *
      clear AJ LJ HOUT HAND
      have VC : ∀ (P : Prop), (((6 : Int) < o) → cj = a / 281474976710656 % 256 → P) → ((o : Int) + 8 ≤ 6 → ¬ ((6 : Int) < o) → cj = a / 281474976710656 % 256 → P) → (¬ ((6 : Int) < o) → ¬ ((o : Int) + 8 ≤ 6) → P) → P := fun P p1 p2 p3 => by
        by_cases c1 : (6 : Int) < o
        · exact p1 c1 (HO.out (by omega))
        · by_cases c2 : (o : Int) + 8 ≤ 6
          · exact p2 c2 c1 (HO.out (by omega))
          · exact p3 c1 c2
      have VH := Lib.hid VC
      clear VC HO
      refine VH.out _ (fun c1 hc => ?_) (fun c2 c1 hc => ?_) (fun c1 c2 => ?_)
      · clear VH
        try simp only [Int.ediv_one] at hc
        subst hc
        go_wp2_with fail
        refine (AA.out _).mono ?_
        rintro e wa ⟨rfl, b⟩
        replace Q := Lib.hid (Q.out.after b)
        clear b
        go_wp2_with fail
        refine (LL.out _ _ Q.out).mono ?_
        rintro e wb ⟨rfl, b⟩
        replace Q := Lib.hid (Q.out.after b)
        clear b
        go_wp2_with fail
        go_round
        case rel => exact ⟨7, rfl, by omega, Q⟩
        case measure => simp [intOf]
      · exact absurd c2 (by omega)
      · clear VH
        go_wp2_with fail
        refine (AA.out _).mono ?_
        rintro e wa ⟨rfl, b⟩
        replace Q := Lib.hid (Q.out.after b)
        clear b
        go_wp2_with fail
        refine (LL.out _ _ Q.out).mono ?_
        rintro e wb ⟨rfl, b⟩
        replace Q := Lib.hid (Q.out.after b)
        clear b
        go_wp2_with fail
        go_round
        case rel => exact ⟨7, rfl, by omega, Q⟩
        case measure => simp [intOf]
    · have AA := Lib.hid (AJ.out 7)
      have LL := Lib.hid fun g w' h => LJ.out 7 g w' (by omega) h
      have HO := Lib.hid (HOUT.out 7 (by omega))
      have hj := HAND.out (a / 72057594037927936) (by omega)
      rw [show ((7 : Nat) : Int) = 7 from rfl] at AA LL ⊢
      generalize bAt y.b 7 = cj at *
      generalize atI 1 (7 : Int) = aj at *
      clear AJ LJ HOUT HAND
      have VC : ∀ (P : Prop), (((7 : Int) < o) → cj = a / 72057594037927936 % 256 → P) → ((o : Int) + 8 ≤ 7 → ¬ ((7 : Int) < o) → cj = a / 72057594037927936 % 256 → P) → (¬ ((7 : Int) < o) → ¬ ((o : Int) + 8 ≤ 7) → P) → P := fun P p1 p2 p3 => by
        by_cases c1 : (7 : Int) < o
        · exact p1 c1 (HO.out (by omega))
        · by_cases c2 : (o : Int) + 8 ≤ 7
          · exact p2 c2 c1 (HO.out (by omega))
          · exact p3 c1 c2
      have VH := Lib.hid VC
      clear VC HO
      refine VH.out _ (fun c1 hc => ?_) (fun c2 c1 hc => ?_) (fun c1 c2 => ?_)
      · exact absurd c1 (by omega)
      · exact absurd c2 (by omega)
      · clear VH
        go_wp2_with fail
        refine (AA.out _).mono ?_
        rintro e wa ⟨rfl, b⟩
        replace Q := Lib.hid (Q.out.after b)
        clear b
        go_wp2_with fail
        refine (LL.out _ _ Q.out).mono ?_
        rintro e wb ⟨rfl, b⟩
        replace Q := Lib.hid (Q.out.after b)
        clear b
        go_wp2_with fail
        go_round
        case rel => exact ⟨8, rfl, by omega, Q⟩
        case measure => simp [intOf]
    · rw [show ((8 : Nat) : Int) = 8 from rfl]
      go_wp2_with fail
      go_ret
      exact ⟨rfl, Q.out.below⟩

theorem l8_MemLast (a b off size : Int) (w : World) (ha : 0 ≤ a ∧ a ≤ 18446744073709551615) (hb : 0 ≤ b ∧ b ≤ 18446744073709551615) (hoff : 0 ≤ off ∧ off ≤ 255) (hsz : 0 ≤ size ∧ size ≤ 255) :
    Calls Try.prog 8 #[.int .u64 a, .int .u64 b, .int .u8 off, .int .u8 size] w (Fine w) := by
  obtain ⟨o, ho⟩ : ∃ o : Nat, off % 8 = o := ⟨(off % 8).toNat, by omega⟩
  have hz : size % 4 = 0 ∨ size % 4 = 1 ∨ size % 4 = 2 ∨ size % 4 = 3 := by omega
  by_cases h0 : o = 0
  · rcases hz with hz | hz | hz | hz
    · exact l8_MemLast_1z a b off size w ha hb hoff hsz o ho hz h0
    · exact l8_MemLast_2z a b off size w ha hb hoff hsz o ho hz h0
    · exact l8_MemLast_4z a b off size w ha hb hoff hsz o ho hz h0
    · exact l8_MemLast_8z a b off size w ha hb hoff hsz o ho hz h0
  · have h1 : 0 < o := by omega
    rcases hz with hz | hz | hz | hz
    · exact l8_MemLast_1 a b off size w ha hb hoff hsz o ho hz h1
    · exact l8_MemLast_2 a b off size w ha hb hoff hsz o ho hz h1
    · exact l8_MemLast_4 a b off size w ha hb hoff hsz o ho hz h1
    · exact l8_MemLast_8 a b off size w ha hb hoff hsz o ho hz h1

end Go.Proofs.Ytegmhbflgceecaa
