/-
  P1.1, P1.2: an instruction as bytes, its class, whether two are one, and their number: the walk of the statement InsnPuts.
  Conditions: none beyond the row's own.
-/
import Derived.Test.YtkggikcgaalgiaaLong
import Derived.Test.YtkggikcgaalgiaaTakes
import Derived.Deep.RegionHeld3
namespace Go.Proofs.Ytkggikcgaalgiaa
open Go.RowKit
set_option linter.unusedVariables false

theorem str_nil : ∀ wx : World, (convert 25 9 (.slice none 0 0)).run Try.prog wx = .ok (.string ByteArray.empty) wx := fun wx =>
  run_convert_bytes_nil wx 25 5 Try.underlying25 Try.underlying5 0 0 9 Try.underlying9

theorem keepB {w w1 w2 : World} (h : Below w.heap.size w w1) (k : Below w1.heap.size w1 w2) : Below w.heap.size w w2 := h.trans (k.mono h.size)

set_option maxHeartbeats 1000000 in
theorem puts_dst (op dst src off imm op' dst' src' off' imm' : Int) (w : World) (h0 : 0 ≤ op) (hd : 15 < dst) :
    Calls Try.prog 3 #[insnV op dst src off imm, insnV op' dst' src' off' imm'] w
      fun e w' => e = .returned (.bool true) ∧ Below w.heap.size w w' := by
  have sn := str_nil
  have hq : op.tmod 8 = op % 8 := Int.tmod_eq_emod_of_nonneg h0
  go_enter Try.func3, Try.ntmps3
  go_wp2_with fail
  have x1 : Two w op dst src off imm op' dst' src' off' imm' ((w.alloc (.cells #[.int .u8 op, .int .u8 dst, .int .u8 src, .int .i16 off, .int .i32 imm] 24)).alloc (.cells #[.int .u8 op', .int .u8 dst', .int .u8 src', .int .i16 off', .int .i32 imm'] 24)) := Below.refl _ _
  refine (put_dst _ _ _ _ _ _ hd).mono ?_
  rintro e w2 ⟨rfl, hb2⟩
  have x2 := x1.then_ hb2
  clear hb2 x1
  obtain ⟨⟨hz2, hy2⟩, ⟨p0, p1, p2, p3, p4⟩, _⟩ := x2.cells
  go_wp2_with fail
  refine (ref_put_dst _ _ _ _ _ _ hd).mono ?_
  rintro e w3 ⟨rfl, hb3⟩
  have x3 := x2.then_ hb3
  clear p0 p1 p2 p3 p4 hb3 hz2 hy2 x2
  have hB : Below w3.heap.size w3 w3.drew := Below.drew (Below.refl _ _)
  have H := Lib.hid (fun (wx : World) (hx : Below w3.heap.size w3 wx) => (x3.then_ hx).cells)
  have X := Lib.hid x3.below
  clear x3
  go_wp2_with fail
  go_region_held3 (fun w' => (w.heap.size < w'.heap.size ∧ w.heap.size + 1 < w'.heap.size) ∧
    (w'.cell? ⟨w.heap.size, 0, none⟩ = some (.int .u8 op) ∧ w'.cell? ⟨w.heap.size, 1, none⟩ = some (.int .u8 dst) ∧ w'.cell? ⟨w.heap.size, 2, none⟩ = some (.int .u8 src) ∧ w'.cell? ⟨w.heap.size, 3, none⟩ = some (.int .i16 off) ∧ w'.cell? ⟨w.heap.size, 4, none⟩ = some (.int .i32 imm)) ∧
    (w'.cell? ⟨w.heap.size + 1, 0, none⟩ = some (.int .u8 op') ∧ w'.cell? ⟨w.heap.size + 1, 1, none⟩ = some (.int .u8 dst') ∧ w'.cell? ⟨w.heap.size + 1, 2, none⟩ = some (.int .u8 src') ∧ w'.cell? ⟨w.heap.size + 1, 3, none⟩ = some (.int .i16 off') ∧ w'.cell? ⟨w.heap.size + 1, 4, none⟩ = some (.int .i32 imm')))
    (first | exact (Hid.out H) _ (by assumption) | exact (Hid.out H) _ (Below.drew (by assumption)))
    (first | (go_at_call 10; refine (shown_true _).mono ?_; rintro e w4 ⟨rfl, hb4⟩; replace hB := keepB hB hb4; clear hb4) | (go_at_call 11; refine (insn_class _ _ _ _ _ h0 _).mono ?_; rintro e w5 ⟨rfl, hb5⟩; replace hB := keepB hB hb5; clear hb5) | (go_at_call 12; refine (insn_wide _ _ _ _ _ _).mono ?_; rintro e w6 ⟨rfl, hb6⟩; replace hB := keepB hB hb6; clear hb6) | (go_at_call 13; refine (insn_long _ _ _ _ _ _ _ _ _ _ _).mono ?_; rintro e w7 ⟨rfl, hb7⟩; replace hB := keepB hB hb7; clear hb7) | (go_at_call 14; refine (ref_long _ _ _ _ _ _ _ _ _ _ _).mono ?_; rintro e w8 ⟨rfl, hb8⟩; replace hB := keepB hB hb8; clear hb8))
  all_goals
    go_wp2
    go_ret
    exact ⟨rfl, keepB (Hid.out X) hB⟩

set_option maxHeartbeats 1000000 in
theorem puts_src (op dst src off imm op' dst' src' off' imm' : Int) (w : World) (h0 : 0 ≤ op) (h1 : dst ≤ 15) (hd : 15 < src) :
    Calls Try.prog 3 #[insnV op dst src off imm, insnV op' dst' src' off' imm'] w
      fun e w' => e = .returned (.bool true) ∧ Below w.heap.size w w' := by
  have sn := str_nil
  have hq : op.tmod 8 = op % 8 := Int.tmod_eq_emod_of_nonneg h0
  go_enter Try.func3, Try.ntmps3
  go_wp2_with fail
  have x1 : Two w op dst src off imm op' dst' src' off' imm' ((w.alloc (.cells #[.int .u8 op, .int .u8 dst, .int .u8 src, .int .i16 off, .int .i32 imm] 24)).alloc (.cells #[.int .u8 op', .int .u8 dst', .int .u8 src', .int .i16 off', .int .i32 imm'] 24)) := Below.refl _ _
  refine (put_src _ _ _ _ _ _ h1 hd).mono ?_
  rintro e w2 ⟨rfl, hb2⟩
  have x2 := x1.then_ hb2
  clear hb2 x1
  obtain ⟨⟨hz2, hy2⟩, ⟨p0, p1, p2, p3, p4⟩, _⟩ := x2.cells
  go_wp2_with fail
  refine (ref_put_src _ _ _ _ _ _ h1 hd).mono ?_
  rintro e w3 ⟨rfl, hb3⟩
  have x3 := x2.then_ hb3
  clear p0 p1 p2 p3 p4 hb3 hz2 hy2 x2
  have hB : Below w3.heap.size w3 w3.drew := Below.drew (Below.refl _ _)
  have H := Lib.hid (fun (wx : World) (hx : Below w3.heap.size w3 wx) => (x3.then_ hx).cells)
  have X := Lib.hid x3.below
  clear x3
  go_wp2_with fail
  go_region_held3 (fun w' => (w.heap.size < w'.heap.size ∧ w.heap.size + 1 < w'.heap.size) ∧
    (w'.cell? ⟨w.heap.size, 0, none⟩ = some (.int .u8 op) ∧ w'.cell? ⟨w.heap.size, 1, none⟩ = some (.int .u8 dst) ∧ w'.cell? ⟨w.heap.size, 2, none⟩ = some (.int .u8 src) ∧ w'.cell? ⟨w.heap.size, 3, none⟩ = some (.int .i16 off) ∧ w'.cell? ⟨w.heap.size, 4, none⟩ = some (.int .i32 imm)) ∧
    (w'.cell? ⟨w.heap.size + 1, 0, none⟩ = some (.int .u8 op') ∧ w'.cell? ⟨w.heap.size + 1, 1, none⟩ = some (.int .u8 dst') ∧ w'.cell? ⟨w.heap.size + 1, 2, none⟩ = some (.int .u8 src') ∧ w'.cell? ⟨w.heap.size + 1, 3, none⟩ = some (.int .i16 off') ∧ w'.cell? ⟨w.heap.size + 1, 4, none⟩ = some (.int .i32 imm')))
    (first | exact (Hid.out H) _ (by assumption) | exact (Hid.out H) _ (Below.drew (by assumption)))
    (first | (go_at_call 10; refine (shown_true _).mono ?_; rintro e w4 ⟨rfl, hb4⟩; replace hB := keepB hB hb4; clear hb4) | (go_at_call 11; refine (insn_class _ _ _ _ _ h0 _).mono ?_; rintro e w5 ⟨rfl, hb5⟩; replace hB := keepB hB hb5; clear hb5) | (go_at_call 12; refine (insn_wide _ _ _ _ _ _).mono ?_; rintro e w6 ⟨rfl, hb6⟩; replace hB := keepB hB hb6; clear hb6) | (go_at_call 13; refine (insn_long _ _ _ _ _ _ _ _ _ _ _).mono ?_; rintro e w7 ⟨rfl, hb7⟩; replace hB := keepB hB hb7; clear hb7) | (go_at_call 14; refine (ref_long _ _ _ _ _ _ _ _ _ _ _).mono ?_; rintro e w8 ⟨rfl, hb8⟩; replace hB := keepB hB hb8; clear hb8))
  all_goals
    go_wp2
    go_ret
    exact ⟨rfl, keepB (Hid.out X) hB⟩

set_option maxHeartbeats 1000000 in
theorem puts_ok (op dst src off imm op' dst' src' off' imm' : Int) (w : World) (h0 : 0 ≤ op) (d0 : 0 ≤ dst) (h1 : dst ≤ 15) (d1 : 0 ≤ src) (hd : src ≤ 15) :
    Calls Try.prog 3 #[insnV op dst src off imm, insnV op' dst' src' off' imm'] w
      fun e w' => e = .returned (.bool true) ∧ Below w.heap.size w w' := by
  have hq : op.tmod 8 = op % 8 := Int.tmod_eq_emod_of_nonneg h0
  go_enter Try.func3, Try.ntmps3
  go_wp2_with fail
  have x1 : Two w op dst src off imm op' dst' src' off' imm' ((w.alloc (.cells #[.int .u8 op, .int .u8 dst, .int .u8 src, .int .i16 off, .int .i32 imm] 24)).alloc (.cells #[.int .u8 op', .int .u8 dst', .int .u8 src', .int .i16 off', .int .i32 imm'] 24)) := Below.refl _ _
  refine (put_ok _ _ _ _ _ _ d0 h1 d1 hd).mono ?_
  rintro e w2 ⟨g2, rfl, hg2, hb2, hk2⟩
  have x2 := x1.then_ hb2
  have k2 := Lib.hid hk2
  clear hb2 x1 hg2 hk2
  obtain ⟨⟨hz2, hy2⟩, ⟨p0, p1, p2, p3, p4⟩, _⟩ := x2.cells
  go_wp2_with fail
  refine (ref_put_ok _ _ _ _ _ _ d0 h1 d1 hd).mono ?_
  rintro e w3 ⟨g3, rfl, hg3, hb3, hk3⟩
  have x3 := x2.then_ hb3
  have k4 := Lib.hid ((hb3.block g2 (lt_of_heap (Hid.out k2))).trans (Hid.out k2))
  have k3 := Lib.hid hk3
  clear hg3 hk3 k2
  clear p0 p1 p2 p3 p4 hb3 hz2 hy2 x2
  have hB : Below w3.heap.size w3 w3.drew := Below.drew (Below.refl _ _)
  have H := Lib.hid (fun (wx : World) (hx : Below w3.heap.size w3 wx) => And.intro (eight_str (Hid.out k4) wx (hx.mono (lt_of_heap (Hid.out k4)))) (And.intro (eight_str (Hid.out k3) wx (hx.mono (lt_of_heap (Hid.out k3)))) (x3.then_ hx).cells))
  have X := Lib.hid x3.below
  clear x3
  go_wp2_with fail
  go_region_held3 (fun w' => (convert 25 9 (.slice (some ⟨g2, 0, none⟩) 8 8)).run Try.prog w' = .ok (.string (strOfNums [op, dst + 16 * src, off % 256, off / 256 % 256, imm % 256, imm / 256 % 256, imm / 65536 % 256, imm / 16777216 % 256])) w' ∧ (convert 25 9 (.slice (some ⟨g3, 0, none⟩) 8 8)).run Try.prog w' = .ok (.string (strOfNums [op, dst + 16 * src, off % 256, off / 256 % 256, imm % 256, imm / 256 % 256, imm / 65536 % 256, imm / 16777216 % 256])) w' ∧ (w.heap.size < w'.heap.size ∧ w.heap.size + 1 < w'.heap.size) ∧
    (w'.cell? ⟨w.heap.size, 0, none⟩ = some (.int .u8 op) ∧ w'.cell? ⟨w.heap.size, 1, none⟩ = some (.int .u8 dst) ∧ w'.cell? ⟨w.heap.size, 2, none⟩ = some (.int .u8 src) ∧ w'.cell? ⟨w.heap.size, 3, none⟩ = some (.int .i16 off) ∧ w'.cell? ⟨w.heap.size, 4, none⟩ = some (.int .i32 imm)) ∧
    (w'.cell? ⟨w.heap.size + 1, 0, none⟩ = some (.int .u8 op') ∧ w'.cell? ⟨w.heap.size + 1, 1, none⟩ = some (.int .u8 dst') ∧ w'.cell? ⟨w.heap.size + 1, 2, none⟩ = some (.int .u8 src') ∧ w'.cell? ⟨w.heap.size + 1, 3, none⟩ = some (.int .i16 off') ∧ w'.cell? ⟨w.heap.size + 1, 4, none⟩ = some (.int .i32 imm')))
    (first | exact (Hid.out H) _ (by assumption) | exact (Hid.out H) _ (Below.drew (by assumption)))
    (first | (go_at_call 10; refine (shown_true _).mono ?_; rintro e w4 ⟨rfl, hb4⟩; replace hB := keepB hB hb4; clear hb4) | (go_at_call 11; refine (insn_class _ _ _ _ _ h0 _).mono ?_; rintro e w5 ⟨rfl, hb5⟩; replace hB := keepB hB hb5; clear hb5) | (go_at_call 12; refine (insn_wide _ _ _ _ _ _).mono ?_; rintro e w6 ⟨rfl, hb6⟩; replace hB := keepB hB hb6; clear hb6) | (go_at_call 13; refine (insn_long _ _ _ _ _ _ _ _ _ _ _).mono ?_; rintro e w7 ⟨rfl, hb7⟩; replace hB := keepB hB hb7; clear hb7) | (go_at_call 14; refine (ref_long _ _ _ _ _ _ _ _ _ _ _).mono ?_; rintro e w8 ⟨rfl, hb8⟩; replace hB := keepB hB hb8; clear hb8))
  all_goals
    go_wp2
    go_ret
    exact ⟨rfl, keepB (Hid.out X) hB⟩

end Go.Proofs.Ytkggikcgaalgiaa
