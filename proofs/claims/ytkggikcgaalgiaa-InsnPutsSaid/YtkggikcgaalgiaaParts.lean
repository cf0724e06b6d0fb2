/-
  P1.1: each of an instruction's parts has its own bytes.
  Conditions: none beyond the row's own.
-/
import Derived.Test.YtkggikcgaalgiaaBack
namespace Go.Proofs.Ytkggikcgaalgiaa
open Go.RowKit
set_option linter.unusedVariables false

/-- Two instructions in boxes, in whatever world has come of them. -/
def Two (w : World) (op dst src off imm op' dst' src' off' imm' : Int) (w1 : World) : Prop :=
  Below (w.heap.size + 1 + 1) ((w.alloc (.cells #[.int .u8 op, .int .u8 dst, .int .u8 src, .int .i16 off, .int .i32 imm] 24)).alloc
      (.cells #[.int .u8 op', .int .u8 dst', .int .u8 src', .int .i16 off', .int .i32 imm'] 24)) w1
section
variable {w w1 w2 : World} {op dst src off imm op' dst' src' off' imm' : Int}
theorem Two.size (hb : Two w op dst src off imm op' dst' src' off' imm' w1) : w.heap.size + 1 + 1 ≤ w1.heap.size := by
  have hz := Below.size hb
  simpa using hz
theorem Two.then_ (hb : Two w op dst src off imm op' dst' src' off' imm' w1) (h : Below w1.heap.size w1 w2) : Two w op dst src off imm op' dst' src' off' imm' w2 :=
  Below.trans hb (h.mono hb.size)
theorem Two.below (hb : Two w op dst src off imm op' dst' src' off' imm' w1) : Below w.heap.size w w1 :=
  (((Below.refl _ _).alloc (Nat.le_refl _) _).alloc (by simp) _).trans (Below.mono hb (by omega))
theorem Two.cells (hb : Two w op dst src off imm op' dst' src' off' imm' w1) :
    (w.heap.size < w1.heap.size ∧ w.heap.size + 1 < w1.heap.size) ∧
    (w1.cell? ⟨w.heap.size, 0, none⟩ = some (.int .u8 op) ∧ w1.cell? ⟨w.heap.size, 1, none⟩ = some (.int .u8 dst) ∧ w1.cell? ⟨w.heap.size, 2, none⟩ = some (.int .u8 src) ∧ w1.cell? ⟨w.heap.size, 3, none⟩ = some (.int .i16 off) ∧ w1.cell? ⟨w.heap.size, 4, none⟩ = some (.int .i32 imm)) ∧
    (w1.cell? ⟨w.heap.size + 1, 0, none⟩ = some (.int .u8 op') ∧ w1.cell? ⟨w.heap.size + 1, 1, none⟩ = some (.int .u8 dst') ∧ w1.cell? ⟨w.heap.size + 1, 2, none⟩ = some (.int .u8 src') ∧ w1.cell? ⟨w.heap.size + 1, 3, none⟩ = some (.int .i16 off') ∧ w1.cell? ⟨w.heap.size + 1, 4, none⟩ = some (.int .i32 imm')) := by
  have h0 : ∀ o, w1.cell? ⟨w.heap.size, o, none⟩ = _ := fun o => Below.cell hb (p := ⟨w.heap.size, o, none⟩) (by show w.heap.size < _; omega)
  have h1 : ∀ o, w1.cell? ⟨w.heap.size + 1, o, none⟩ = _ := fun o => Below.cell hb (p := ⟨w.heap.size + 1, o, none⟩) (by show w.heap.size + 1 < _; omega)
  have hz := hb.size
  simp only [h0, h1]
  refine ⟨⟨by omega, by omega⟩, ⟨?_, ?_, ?_, ?_, ?_⟩, ⟨?_, ?_, ?_, ?_, ?_⟩⟩ <;> go_simp
end

/-- A cut of eight bytes of a block, as a string. -/
theorem cut_str {w : World} {g : Nat} {t : TypeId} {b0 b1 b2 b3 b4 b5 b6 b7 : Int}
    (hh : w.heap[g]? = some (.cells #[.int .u8 b0, .int .u8 b1, .int .u8 b2, .int .u8 b3, .int .u8 b4, .int .u8 b5, .int .u8 b6, .int .u8 b7] t (0, 0))) (o len cap : Nat) (hl : o + len ≤ 8) (nq : Nat) :
    (convert 25 9 (.slice (some ⟨g, o, none⟩) len cap)).run Try.prog (w.drewN nq) = .ok (.string (strOfNums (([b0, b1, b2, b3, b4, b5, b6, b7].drop o).take len))) (w.drewN nq) := by
  refine run_convert_bytes_arg (w.drewN nq) 25 5 Try.underlying25 Try.underlying5 g o len cap _ (by simp; omega) ?_ 9 Try.underlying9
  intro i hi
  show w.cell? ⟨g, o + i, none⟩ = _
  have hk : w.cell? ⟨g, o + i, none⟩ = (#[Value.int .u8 b0, .int .u8 b1, .int .u8 b2, .int .u8 b3, .int .u8 b4, .int .u8 b5, .int .u8 b6, .int .u8 b7])[o + i]? := cell_of_row w g (o + i) _ t (0, 0) hh
  rw [hk]
  have hlist : ((([b0, b1, b2, b3, b4, b5, b6, b7].drop o).take len).getD i 0) = [b0, b1, b2, b3, b4, b5, b6, b7].getD (o + i) 0 := by
    simp only [List.getD_eq_getElem?_getD, List.getElem?_take, if_pos hi, List.getElem?_drop]
  rw [hlist]
  have hoi : o + i < 8 := by omega
  generalize o + i = j at hoi
  match j, hoi with
  | 0, _ => rfl
  | 1, _ => rfl
  | 2, _ => rfl
  | 3, _ => rfl
  | 4, _ => rfl
  | 5, _ => rfl
  | 6, _ => rfl
  | 7, _ => rfl

/-- Strings of different bytes are different. -/
theorem str_ne {xs ys : List Int} (hx : ∀ x ∈ xs, 0 ≤ x ∧ x ≤ 255) (hy : ∀ y ∈ ys, 0 ≤ y ∧ y ≤ 255) (h : xs ≠ ys) : ((strOfNums xs).toList == (strOfNums ys).toList) = false := by
  rw [beq_eq_false_iff_ne]
  intro e
  apply h
  rw [ByteArray.toList_eq, ByteArray.toList_eq, strOfNums_data, strOfNums_data] at e
  have inj : ∀ (xs ys : List Int), (∀ x ∈ xs, 0 ≤ x ∧ x ≤ 255) → (∀ y ∈ ys, 0 ≤ y ∧ y ≤ 255) → (xs.map fun n => UInt8.ofNat n.toNat) = (ys.map fun n => UInt8.ofNat n.toNat) → xs = ys := by
    intro xs
    induction xs with
    | nil => intro ys _ _ e; cases ys with
      | nil => rfl
      | cons y ys => simp at e
    | cons x xs ih =>
      intro ys hx hy e
      cases ys with
      | nil => simp at e
      | cons y ys =>
        simp only [List.map_cons, List.cons.injEq] at e
        have h1 := hx x (by simp)
        have h2 := hy y (by simp)
        have e1 := congrArg UInt8.toNat e.1
        simp only [UInt8.toNat_ofNat'] at e1
        have e3 : x = y := by omega
        rw [e3, ih ys (fun a ha => hx a (by simp [ha])) (fun a ha => hy a (by simp [ha])) e.2]
  exact inj xs ys hx hy e

set_option maxHeartbeats 1000000 in
theorem parts_dst (op dst src off imm op' dst' src' off' imm' : Int) (w : World) (hd : 15 < dst) :
    Calls Try.prog 7 #[insnV op dst src off imm, insnV op' dst' src' off' imm'] w
      fun e w' => e = .returned (.bool true) ∧ Below w.heap.size w w' := by
  go_enter Try.func7, Try.ntmps7
  go_wp2_with fail
  refine (shown_true _).mono ?_
  rintro e w2 ⟨rfl, hb2⟩
  have x2 : Two w op dst src off imm op' dst' src' off' imm' w2 := by simpa [Two] using hb2
  clear hb2
  obtain ⟨⟨hz2, hy2⟩, ⟨p0, p1, p2, p3, p4⟩, _⟩ := x2.cells
  go_wp2_with fail
  refine (put_dst _ _ _ _ _ _ hd).mono ?_
  rintro e w3 ⟨rfl, hb3⟩
  have x3 := (x2.then_ hb3).below
  clear p0 p1 p2 p3 p4 hb3 hz2 x2
  go_wp2_with fail
  go_ret
  exact ⟨rfl, x3⟩

set_option maxHeartbeats 1000000 in
theorem parts_src (op dst src off imm op' dst' src' off' imm' : Int) (w : World) (h0 : dst ≤ 15) (hd : 15 < src) :
    Calls Try.prog 7 #[insnV op dst src off imm, insnV op' dst' src' off' imm'] w
      fun e w' => e = .returned (.bool true) ∧ Below w.heap.size w w' := by
  go_enter Try.func7, Try.ntmps7
  go_wp2_with fail
  refine (shown_true _).mono ?_
  rintro e w2 ⟨rfl, hb2⟩
  have x2 : Two w op dst src off imm op' dst' src' off' imm' w2 := by simpa [Two] using hb2
  clear hb2
  obtain ⟨⟨hz2, hy2⟩, ⟨p0, p1, p2, p3, p4⟩, _⟩ := x2.cells
  go_wp2_with fail
  refine (put_src _ _ _ _ _ _ h0 hd).mono ?_
  rintro e w3 ⟨rfl, hb3⟩
  have x3 := (x2.then_ hb3).below
  clear p0 p1 p2 p3 p4 hb3 hz2 x2
  go_wp2_with fail
  go_ret
  exact ⟨rfl, x3⟩

/-- What a round may lean on behind its call of Put: the boxes, the first bytes, the new instruction. -/
theorem round_facts {w wr w5 : World} {g3 : Nat} {A : Obj} {op dst src off imm op' dst' src' off' imm' zo zd zs zf zi : Int} (x : Two w op dst src off imm op' dst' src' off' imm' wr) (hA : wr.heap[g3]? = some A)
    (hb : Below (wr.alloc (.cells #[.int .u8 zo, .int .u8 zd, .int .u8 zs, .int .i16 zf, .int .i32 zi] 24)).heap.size (wr.alloc (.cells #[.int .u8 zo, .int .u8 zd, .int .u8 zs, .int .i16 zf, .int .i32 zi] 24)) w5) :
    Two w op dst src off imm op' dst' src' off' imm' w5 ∧ w5.heap[g3]? = some A ∧
    (w5.cell? ⟨wr.heap.size, 0, none⟩ = some (.int .u8 zo) ∧ w5.cell? ⟨wr.heap.size, 1, none⟩ = some (.int .u8 zd) ∧ w5.cell? ⟨wr.heap.size, 2, none⟩ = some (.int .u8 zs) ∧ w5.cell? ⟨wr.heap.size, 3, none⟩ = some (.int .i16 zf) ∧ w5.cell? ⟨wr.heap.size, 4, none⟩ = some (.int .i32 zi)) := by
  have hg : g3 < wr.heap.size := by
    rcases Nat.lt_or_ge g3 wr.heap.size with h | h
    · exact h
    · rw [Array.getElem?_eq_none h] at hA; cases hA
  have h1 : ∀ o, w5.cell? ⟨wr.heap.size, o, none⟩ = _ := fun o => hb.cell (p := ⟨wr.heap.size, o, none⟩) (by simp)
  refine ⟨Below.trans (Below.alloc x x.size _) (hb.mono (by have := x.size; simp; omega)), ?_, ?_⟩
  · rw [hb.block g3 (by simp; omega), Below.heap_alloc _ _ _ hg]; exact hA
  · simp only [h1]
    refine ⟨?_, ?_, ?_, ?_, ?_⟩ <;> go_simp

set_option maxRecDepth 100000 in
set_option maxHeartbeats 2000000 in
theorem parts_ok (op dst src off imm op' dst' src' off' imm' : Int) (w : World) (hF : Fits op dst src off imm) (hF' : Fits op' dst' src' off' imm') (h0 : dst ≤ 15) (hd : src ≤ 15) :
    Calls Try.prog 7 #[insnV op dst src off imm, insnV op' dst' src' off' imm'] w
      fun e w' => e = .returned (.bool true) ∧ Below w.heap.size w w' := by
  have hf := Lib.hid hF
  have hf' := Lib.hid hF'
  have d0 : 0 ≤ dst := hF.2.1.1
  have d1 : 0 ≤ src := hF.2.2.1.1
  have d2 : 0 ≤ dst' := hF'.2.1.1
  have d3 : 0 ≤ src' := hF'.2.2.1.1
  clear hF hF'
  go_enter Try.func7, Try.ntmps7
  go_wp2_with fail
  refine (shown_true _).mono ?_
  rintro e w2 ⟨rfl, hb2⟩
  have x2 : Two w op dst src off imm op' dst' src' off' imm' w2 := by simpa [Two] using hb2
  clear hb2
  obtain ⟨⟨hz2, hy2⟩, ⟨p0, p1, p2, p3, p4⟩, _⟩ := x2.cells
  go_wp2_with fail
  refine (put_ok _ _ _ _ _ _ d0 h0 d1 hd).mono ?_
  rintro e w3 ⟨g3, rfl, hg3, hb3, hx3⟩
  have x3 := x2.then_ hb3
  have hx3 := Lib.hid hx3
  clear p0 p1 p2 p3 p4 hb3 hz2 x2 hg3
  go_wp2_with fail
  go_loopw [28] (fun i wr => ∃ k : Int, 0 ≤ k ∧ k ≤ 5 ∧ i = .int .i64 k ∧ Two w op dst src off imm op' dst' src' off' imm' wr ∧ Hid (wr.heap[g3]? = some (.cells #[.int .u8 op, .int .u8 (dst + 16 * src), .int .u8 (off % 256), .int .u8 (off / 256 % 256), .int .u8 (imm % 256), .int .u8 (imm / 256 % 256), .int .u8 (imm / 65536 % 256), .int .u8 (imm / 16777216 % 256)] 5 (0, 0)))) (fun i _ => 5 - (intOf i).toNat)
  case atStart => exact ⟨0, by omega, by omega, rfl, x3, hx3⟩
  case round =>
    obtain ⟨k, hk0, hk, rfl, x4, hx4⟩ := hrel
    obtain ⟨⟨hz4, hy4⟩, ⟨p0, p1, p2, p3, p4⟩, ⟨q0, q1, q2, q3, q4⟩⟩ := x4.cells
    have hcase : k = 0 ∨ k = 1 ∨ k = 2 ∨ k = 3 ∨ k = 4 ∨ k = 5 := by omega
    clear hk0 hk x3 hx3
    rcases hcase with rfl | rfl | rfl | rfl | rfl | rfl
    · go_wp2_with fail
      refine (put_ok _ _ _ _ _ _ d0 h0 d1 hd).mono ?_
      rintro e w5 ⟨g5, rfl, hg5, hb5, h5⟩
      obtain ⟨x5, hA, r0, r1, r2, r3, r4⟩ := round_facts x4 (Hid.out hx4) hb5
      obtain ⟨⟨hz5, hy5⟩, ⟨c0, c1, c2, c3, c4⟩, _⟩ := x5.cells
      have a0 := fun nq => cut_str hA 0 0 8 (by omega) nq
      have b0 := fun nq => cut_str h5 0 0 8 (by omega) nq
      have a1 := fun nq => cut_str hA 1 7 7 (by omega) nq
      have b1 := fun nq => cut_str h5 1 7 7 (by omega) nq
      have a2 := fun nq => cut_str hA 0 8 8 (by omega) nq
      have b2 := fun nq => cut_str h5 0 8 8 (by omega) nq
      simp at a0 b0 a1 b1 a2 b2
      have hA5 := Lib.hid hA
      clear hb5 h5 hA hx4 p0 p1 p2 p3 p4 q0 q1 q2 q3 q4 hg5 hz4 hy4 hy2
      by_cases he : op' = op
      · subst he
        go_wp2_with fail
        go_quiet (fail)
        go_wp2
        go_roundw
        case rel => exact ⟨_, by omega, by omega, rfl, below_drewN x5 _, Hid.out hA5⟩
        case measure => simp [intOf]
      · have hne : ((strOfNums [op, dst + 16 * src, off % 256, off / 256 % 256, imm % 256, imm / 256 % 256, imm / 65536 % 256, imm / 16777216 % 256]).toList == (strOfNums [op', dst + 16 * src, off % 256, off / 256 % 256, imm % 256, imm / 256 % 256, imm / 65536 % 256, imm / 16777216 % 256]).toList) = false := by
          obtain ⟨f0, f1, f2, f3, f4⟩ := Hid.out hf
          obtain ⟨k0, k1, k2, k3, k4⟩ := Hid.out hf'
          refine str_ne ?_ ?_ ?_
          · simp only [List.mem_cons, List.not_mem_nil, or_false, forall_eq_or_imp, forall_eq]; omega
          · simp only [List.mem_cons, List.not_mem_nil, or_false, forall_eq_or_imp, forall_eq]; omega
          · intro e; simp only [List.cons.injEq] at e; omega
        go_wp2_with fail
        go_quiet (fail)
        go_wp2
        go_roundw
        case rel => exact ⟨_, by omega, by omega, rfl, below_drewN x5 _, Hid.out hA5⟩
        case measure => simp [intOf]
    · go_wp2_with fail
      refine (put_ok _ _ _ _ _ _ (by omega) (by omega) d1 hd).mono ?_
      rintro e w5 ⟨g5, rfl, hg5, hb5, h5⟩
      obtain ⟨x5, hA, r0, r1, r2, r3, r4⟩ := round_facts x4 (Hid.out hx4) hb5
      obtain ⟨⟨hz5, hy5⟩, ⟨c0, c1, c2, c3, c4⟩, _⟩ := x5.cells
      have a0 := fun nq => cut_str hA 0 1 8 (by omega) nq
      have b0 := fun nq => cut_str h5 0 1 8 (by omega) nq
      have a1 := fun nq => cut_str hA 2 6 6 (by omega) nq
      have b1 := fun nq => cut_str h5 2 6 6 (by omega) nq
      have a2 := fun nq => cut_str hA 0 8 8 (by omega) nq
      have b2 := fun nq => cut_str h5 0 8 8 (by omega) nq
      simp at a0 b0 a1 b1 a2 b2
      have hA5 := Lib.hid hA
      clear hb5 h5 hA hx4 p0 p1 p2 p3 p4 q0 q1 q2 q3 q4 hg5 hz4 hy4 hy2
      by_cases he : dst' % 16 = dst
      · rw [he] at r1 b2
        clear he
        go_wp2_with fail
        go_quiet (fail)
        go_wp2
        go_roundw
        case rel => exact ⟨_, by omega, by omega, rfl, below_drewN x5 _, Hid.out hA5⟩
        case measure => simp [intOf]
      · have hne : ((strOfNums [op, dst + 16 * src, off % 256, off / 256 % 256, imm % 256, imm / 256 % 256, imm / 65536 % 256, imm / 16777216 % 256]).toList == (strOfNums [op, dst' % 16 + 16 * src, off % 256, off / 256 % 256, imm % 256, imm / 256 % 256, imm / 65536 % 256, imm / 16777216 % 256]).toList) = false := by
          obtain ⟨f0, f1, f2, f3, f4⟩ := Hid.out hf
          obtain ⟨k0, k1, k2, k3, k4⟩ := Hid.out hf'
          refine str_ne ?_ ?_ ?_
          · simp only [List.mem_cons, List.not_mem_nil, or_false, forall_eq_or_imp, forall_eq]; omega
          · simp only [List.mem_cons, List.not_mem_nil, or_false, forall_eq_or_imp, forall_eq]; omega
          · intro e; simp only [List.cons.injEq] at e; omega
        go_wp2_with fail
        go_quiet (fail)
        go_wp2
        go_roundw
        case rel => exact ⟨_, by omega, by omega, rfl, below_drewN x5 _, Hid.out hA5⟩
        case measure => simp [intOf]
    · go_wp2_with fail
      refine (put_ok _ _ _ _ _ _ d0 h0 (by omega) (by omega)).mono ?_
      rintro e w5 ⟨g5, rfl, hg5, hb5, h5⟩
      obtain ⟨x5, hA, r0, r1, r2, r3, r4⟩ := round_facts x4 (Hid.out hx4) hb5
      obtain ⟨⟨hz5, hy5⟩, ⟨c0, c1, c2, c3, c4⟩, _⟩ := x5.cells
      have a0 := fun nq => cut_str hA 0 1 8 (by omega) nq
      have b0 := fun nq => cut_str h5 0 1 8 (by omega) nq
      have a1 := fun nq => cut_str hA 2 6 6 (by omega) nq
      have b1 := fun nq => cut_str h5 2 6 6 (by omega) nq
      have a2 := fun nq => cut_str hA 0 8 8 (by omega) nq
      have b2 := fun nq => cut_str h5 0 8 8 (by omega) nq
      simp at a0 b0 a1 b1 a2 b2
      have hA5 := Lib.hid hA
      clear hb5 h5 hA hx4 p0 p1 p2 p3 p4 q0 q1 q2 q3 q4 hg5 hz4 hy4 hy2
      by_cases he : src' % 16 = src
      · rw [he] at r2 b2
        clear he
        go_wp2_with fail
        go_quiet (fail)
        go_wp2
        go_roundw
        case rel => exact ⟨_, by omega, by omega, rfl, below_drewN x5 _, Hid.out hA5⟩
        case measure => simp [intOf]
      · have hne : ((strOfNums [op, dst + 16 * src, off % 256, off / 256 % 256, imm % 256, imm / 256 % 256, imm / 65536 % 256, imm / 16777216 % 256]).toList == (strOfNums [op, dst + 16 * (src' % 16), off % 256, off / 256 % 256, imm % 256, imm / 256 % 256, imm / 65536 % 256, imm / 16777216 % 256]).toList) = false := by
          obtain ⟨f0, f1, f2, f3, f4⟩ := Hid.out hf
          obtain ⟨k0, k1, k2, k3, k4⟩ := Hid.out hf'
          refine str_ne ?_ ?_ ?_
          · simp only [List.mem_cons, List.not_mem_nil, or_false, forall_eq_or_imp, forall_eq]; omega
          · simp only [List.mem_cons, List.not_mem_nil, or_false, forall_eq_or_imp, forall_eq]; omega
          · intro e; simp only [List.cons.injEq] at e; omega
        go_wp2_with fail
        go_quiet (fail)
        go_wp2
        go_roundw
        case rel => exact ⟨_, by omega, by omega, rfl, below_drewN x5 _, Hid.out hA5⟩
        case measure => simp [intOf]
    · go_wp2_with fail
      refine (put_ok _ _ _ _ _ _ d0 h0 d1 hd).mono ?_
      rintro e w5 ⟨g5, rfl, hg5, hb5, h5⟩
      obtain ⟨x5, hA, r0, r1, r2, r3, r4⟩ := round_facts x4 (Hid.out hx4) hb5
      obtain ⟨⟨hz5, hy5⟩, ⟨c0, c1, c2, c3, c4⟩, _⟩ := x5.cells
      have a0 := fun nq => cut_str hA 0 2 8 (by omega) nq
      have b0 := fun nq => cut_str h5 0 2 8 (by omega) nq
      have a1 := fun nq => cut_str hA 4 4 4 (by omega) nq
      have b1 := fun nq => cut_str h5 4 4 4 (by omega) nq
      have a2 := fun nq => cut_str hA 0 8 8 (by omega) nq
      have b2 := fun nq => cut_str h5 0 8 8 (by omega) nq
      simp at a0 b0 a1 b1 a2 b2
      have hA5 := Lib.hid hA
      clear hb5 h5 hA hx4 p0 p1 p2 p3 p4 q0 q1 q2 q3 q4 hg5 hz4 hy4 hy2
      by_cases he : off' = off
      · subst he
        go_wp2_with fail
        go_quiet (fail)
        go_wp2
        go_roundw
        case rel => exact ⟨_, by omega, by omega, rfl, below_drewN x5 _, Hid.out hA5⟩
        case measure => simp [intOf]
      · have hne : ((strOfNums [op, dst + 16 * src, off % 256, off / 256 % 256, imm % 256, imm / 256 % 256, imm / 65536 % 256, imm / 16777216 % 256]).toList == (strOfNums [op, dst + 16 * src, off' % 256, off' / 256 % 256, imm % 256, imm / 256 % 256, imm / 65536 % 256, imm / 16777216 % 256]).toList) = false := by
          obtain ⟨f0, f1, f2, f3, f4⟩ := Hid.out hf
          obtain ⟨k0, k1, k2, k3, k4⟩ := Hid.out hf'
          refine str_ne ?_ ?_ ?_
          · simp only [List.mem_cons, List.not_mem_nil, or_false, forall_eq_or_imp, forall_eq]; omega
          · simp only [List.mem_cons, List.not_mem_nil, or_false, forall_eq_or_imp, forall_eq]; omega
          · intro e; simp only [List.cons.injEq] at e; omega
        go_wp2_with fail
        go_quiet (fail)
        go_wp2
        go_roundw
        case rel => exact ⟨_, by omega, by omega, rfl, below_drewN x5 _, Hid.out hA5⟩
        case measure => simp [intOf]
    · go_wp2_with fail
      refine (put_ok _ _ _ _ _ _ d0 h0 d1 hd).mono ?_
      rintro e w5 ⟨g5, rfl, hg5, hb5, h5⟩
      obtain ⟨x5, hA, r0, r1, r2, r3, r4⟩ := round_facts x4 (Hid.out hx4) hb5
      obtain ⟨⟨hz5, hy5⟩, ⟨c0, c1, c2, c3, c4⟩, _⟩ := x5.cells
      have a0 := fun nq => cut_str hA 0 4 8 (by omega) nq
      have b0 := fun nq => cut_str h5 0 4 8 (by omega) nq
      have a1 := fun nq => cut_str hA 0 0 0 (by omega) nq
      have b1 := fun nq => cut_str h5 0 0 0 (by omega) nq
      have a2 := fun nq => cut_str hA 8 0 0 (by omega) nq
      have b2 := fun nq => cut_str h5 8 0 0 (by omega) nq
      have a3 := fun nq => cut_str hA 0 8 8 (by omega) nq
      have b3 := fun nq => cut_str h5 0 8 8 (by omega) nq
      simp at a0 b0 a1 b1 a2 b2 a3 b3
      have hA5 := Lib.hid hA
      clear hb5 h5 hA hx4 p0 p1 p2 p3 p4 q0 q1 q2 q3 q4 hg5 hz4 hy4 hy2
      by_cases he : imm' = imm
      · subst he
        go_wp2_with fail
        go_quiet (fail)
        go_wp2
        go_roundw
        case rel => exact ⟨_, by omega, by omega, rfl, below_drewN x5 _, Hid.out hA5⟩
        case measure => simp [intOf]
      · have hne : ((strOfNums [op, dst + 16 * src, off % 256, off / 256 % 256, imm % 256, imm / 256 % 256, imm / 65536 % 256, imm / 16777216 % 256]).toList == (strOfNums [op, dst + 16 * src, off % 256, off / 256 % 256, imm' % 256, imm' / 256 % 256, imm' / 65536 % 256, imm' / 16777216 % 256]).toList) = false := by
          obtain ⟨f0, f1, f2, f3, f4⟩ := Hid.out hf
          obtain ⟨k0, k1, k2, k3, k4⟩ := Hid.out hf'
          refine str_ne ?_ ?_ ?_
          · simp only [List.mem_cons, List.not_mem_nil, or_false, forall_eq_or_imp, forall_eq]; omega
          · simp only [List.mem_cons, List.not_mem_nil, or_false, forall_eq_or_imp, forall_eq]; omega
          · intro e; simp only [List.cons.injEq] at e; omega
        go_wp2_with fail
        go_quiet (fail)
        go_wp2
        go_roundw
        case rel => exact ⟨_, by omega, by omega, rfl, below_drewN x5 _, Hid.out hA5⟩
        case measure => simp [intOf]
    · go_wp2_with fail
      go_ret
      exact ⟨rfl, x4.below⟩

end Go.Proofs.Ytkggikcgaalgiaa
