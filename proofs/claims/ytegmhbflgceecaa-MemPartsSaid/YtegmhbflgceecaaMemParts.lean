/-
  P8.2: a number is its parts, the lowest first: the walk of the statement MemParts.
  Conditions: none beyond the row's own.
-/
import Derived.Test.YtegmhbflgceecaaMemKit
import Derived.LoopTactic
namespace Go.Proofs.Ytegmhbflgceecaa
open Go.RowKit
set_option linter.unusedVariables false
set_option linter.unusedSimpArgs false

def paZ : PA := ⟨1, List.replicate 300 0, List.replicate 300 false, false⟩
set_option maxRecDepth 100000 in
set_option maxHeartbeats 4000000 in
theorem l8_MemParts (n off : Int) (w : World) (hn : 0 ≤ n ∧ n ≤ 18446744073709551615) (ho : 0 ≤ off ∧ off ≤ 255) : Calls Try.prog 5 #[.int .u64 n, .int .u8 off] w (Fine w) := by
  have N := Lib.hid (mm_New w)
  have SH := Lib.hid l8_shown
  obtain ⟨o, rfl⟩ : ∃ o : Nat, off = o := ⟨off.toNat, by omega⟩
  have ol : o ≤ 255 := by omega
  have hlen : paZ.b.length = 300 := List.length_replicate
  have hbl : paZ.bl.length = paZ.b.length := by rw [hlen]; exact List.length_replicate
  have A1 := Lib.hid fun w' => mm_at 1 o w' _ rfl
  have A2 := Lib.hid fun w' => mm_at 1 ((o + 4 : Nat) : Int) w' _ rfl
  obtain ⟨_, _, b1, b2⟩ := at_parts (i := 1) (o := (o : Int)) (by omega) (by omega)
  obtain ⟨_, _, b3, b4⟩ := at_parts (i := 1) (o := ((o + 4 : Nat) : Int)) (by omega) (by omega)
  have e1 : pStore [paZ] (atI 1 o) 8 n = ([paSet paZ o 8 n], 0) := store_in (a := paZ) (s := 8) (by show (0 : Int) ≤ 1 ∧ (1 : Int) < 2147483648; omega) (by omega) (by omega) (by rw [hlen]; omega) rfl
  have e2 : pLoad [paSet paZ o 8 n] (atI 1 o) 4 = (n % 4294967296, 0) := by
    have := load_part (a := paZ) (o := o) (s := 8) (d := 0) (t := 4) (n := n) (by show (0 : Int) ≤ 1 ∧ (1 : Int) < 2147483648; omega) (by omega) (by omega) (by rw [hlen]; omega) hbl (by omega)
    simp at this
    exact this
  have e3 : pLoad [paSet paZ o 8 n] (atI 1 ((o + 4 : Nat) : Int)) 4 = (n / 4294967296, 0) := by
    have := load_part (a := paZ) (o := o) (s := 8) (d := 4) (t := 4) (n := n) (by show (0 : Int) ≤ 1 ∧ (1 : Int) < 2147483648; omega) (by omega) (by omega) (by rw [hlen]; omega) hbl (by omega)
    rw [show n / 256 ^ 4 % 256 ^ 4 = n / 4294967296 by omega] at this
    exact this
  have e4 : pRead [paSet paZ o 8 n] (atI 1 o) 8 = (leB n 8, 0) := by
    have h1 := read_one (a := paSet paZ o 8 n) (o := o) (s := 8) (by show (0 : Int) ≤ 1 ∧ (1 : Int) < 2147483648; omega) (by omega)
    rw [read_stored (by rw [hlen]; omega) hbl (by omega)] at h1
    exact h1
  have MK := Lib.hid fun g w' B (h : Mm w w' g []) (hb : BytS w' B (List.replicate 300 0)) => mm_Make 1 (List.replicate 300 0) B 300 false false h hb (okB_zeros 300) (by rw [List.length_replicate]; omega) (by unfold maxLen; omega) (by simp)
  rw [show pMake [] 1 (List.replicate 300 0) false false = ([paZ], 0) by kernel_rfl] at MK
  have S1 := Lib.hid fun g w' (h : Mm w w' g [paZ]) => mm_Store (atI 1 o) 8 n h ⟨b1, b2⟩ hn
  rw [e1] at S1
  have L1 := Lib.hid fun g w' (h : Mm w w' g [paSet paZ o 8 n]) => mm_Load (atI 1 o) 4 h ⟨b1, b2⟩
  rw [e2] at L1
  have L2 := Lib.hid fun g w' (h : Mm w w' g [paSet paZ o 8 n]) => mm_Load (atI 1 ((o + 4 : Nat) : Int)) 4 h ⟨b3, b4⟩
  rw [e3] at L2
  have R1 := Lib.hid fun g w' (h : Mm w w' g [paSet paZ o 8 n]) => mm_Read (atI 1 o) 8 h ⟨b1, b2⟩
  rw [e4] at R1
  clear e1 e2 e3 e4 hlen hbl b1 b2 b3 b4
  have eo : ((o + 4 : Nat) : Int) = (o : Int) + 4 := by omega
  rw [eo] at A2 L2
  clear eo
  generalize atI 1 (o : Int) = a1 at *
  generalize atI 1 ((o : Int) + 4) = a2 at *
  generalize paSet paZ o 8 n = y at *
  go_enter Try.func5, Try.ntmps5
  go_wp2_with fail
  refine (SH.out _).mono ?_
  rintro e w0 ⟨rfl, b0⟩
  have V := Lib.hid b0
  clear b0
  go_wp2_with fail
  refine (N.out _ V.out).mono ?_
  rintro e w1 ⟨g, rfl, q1⟩
  obtain ⟨w2, hmk, hown, hgr⟩ := made_zeros 300 w.heap.size (by omega) w1 q1.below.size
  have hmk' : (Instr.makeSlice 32 (.int .i64 300) (.int .i64 300)).run Try.prog w1 = .ok (.slice (some ⟨w1.heap.size, 0, none⟩) 300 300) w2 := hmk
  have Q := Lib.hid (q1.made hgr)
  have HB := Lib.hid (own_bytS (b := List.replicate 300 0) List.length_replicate.symm hown)
  clear hmk hgr hown q1 N V
  have MK2 := Lib.hid fun w' B h hb => MK.out g w' B h hb
  rw [List.length_replicate] at MK2
  clear MK
  go_wp2_with fail
  refine (MK2.out _ _ Q.out HB.out).mono ?_
  rintro e w3 ⟨rfl, q⟩
  replace Q := Lib.hid q
  clear q HB MK2 hmk'
  go_wp2_with fail
  refine (A1.out _).mono ?_
  rintro e w4 ⟨rfl, b⟩
  replace Q := Lib.hid (Q.out.after b)
  clear b
  go_wp2_with fail
  refine (S1.out _ _ Q.out).mono ?_
  rintro e w5 ⟨rfl, q⟩
  replace Q := Lib.hid q
  clear q
  go_wp2_with fail
  refine (A1.out _).mono ?_
  rintro e w6 ⟨rfl, b⟩
  replace Q := Lib.hid (Q.out.after b)
  clear b
  go_wp2_with fail
  refine (L1.out _ _ Q.out).mono ?_
  rintro e w7 ⟨rfl, b⟩
  replace Q := Lib.hid (Q.out.after b)
  clear b
  go_wp2_with fail
  refine (A2.out _).mono ?_
  rintro e w8 ⟨rfl, b⟩
  replace Q := Lib.hid (Q.out.after b)
  clear b
  go_wp2_with fail
  refine (L2.out _ _ Q.out).mono ?_
  rintro e w9 ⟨rfl, b⟩
  replace Q := Lib.hid (Q.out.after b)
  clear b
  go_wp2_with fail
  refine (A1.out _).mono ?_
  rintro e w10 ⟨rfl, b⟩
  replace Q := Lib.hid (Q.out.after b)
  clear b
  go_wp2_with fail
  refine (R1.out _ _ Q.out).mono ?_
  rintro e w11 ⟨A, c, rfl, hb, _, _, b⟩
  replace Q := Lib.hid (Q.out.after b)
  simp only [leB_len] at *
  obtain ⟨gr, orr, rfl, hgr, hcell⟩ := hb (by rw [leB_len]; omega)
  have hc : ∀ k, k < 8 → w11.cell? ⟨gr, orr + k, none⟩ = some (.int .u8 (n / 256 ^ k % 256)) := fun k hk => by rw [hcell k (by rw [leB_len]; exact hk), leB_at _ _ _ hk]
  have c0 : w11.cell? ⟨gr, orr, none⟩ = some (.int .u8 (n % 256)) := by have := hc 0 (by omega); simpa using this
  have c1 : w11.cell? ⟨gr, orr + 1, none⟩ = some (.int .u8 (n / 256 % 256)) := hc 1 (by omega)
  have c2 : w11.cell? ⟨gr, orr + 2, none⟩ = some (.int .u8 (n / 65536 % 256)) := hc 2 (by omega)
  have c3 : w11.cell? ⟨gr, orr + 3, none⟩ = some (.int .u8 (n / 16777216 % 256)) := hc 3 (by omega)
  have c4 : w11.cell? ⟨gr, orr + 4, none⟩ = some (.int .u8 (n / 4294967296 % 256)) := hc 4 (by omega)
  have c5 : w11.cell? ⟨gr, orr + 5, none⟩ = some (.int .u8 (n / 1099511627776 % 256)) := hc 5 (by omega)
  have c6 : w11.cell? ⟨gr, orr + 6, none⟩ = some (.int .u8 (n / 281474976710656 % 256)) := hc 6 (by omega)
  have c7 : w11.cell? ⟨gr, orr + 7, none⟩ = some (.int .u8 (n / 72057594037927936 % 256)) := hc 7 (by omega)
  clear b hb hcell hc L1 L2 R1 S1 A1 A2
  go_wp2_with fail
  refine wp_loop_rounds 9 ?_
  rw [rounds_succ]
  go_wp2_with fail
  rw [rounds_succ]
  go_wp2_with fail
  rw [rounds_succ]
  go_wp2_with fail
  rw [rounds_succ]
  go_wp2_with fail
  rw [rounds_succ]
  go_wp2_with fail
  rw [rounds_succ]
  go_wp2_with fail
  rw [rounds_succ]
  go_wp2_with fail
  rw [rounds_succ]
  go_wp2_with fail
  rw [rounds_succ]
  go_wp2_with fail
  go_ret
  exact ⟨end_bool (by rw [or_parts hn, beq_self_eq_true]), Q.out.below⟩

end Go.Proofs.Ytegmhbflgceecaa
