/-
  P1.3: what was put is taken, and of all eight bytes what is taken was put so.
  Conditions: none beyond the row's own.
-/
import Derived.Test.YtkggikcgaalgiaaShown
import Derived.Test.YtkggikcgaalgiaaFrame
namespace Go.Proofs.Ytkggikcgaalgiaa
open Go.RowKit
set_option linter.unusedVariables false

abbrev eightV (b0 b1 b2 b3 b4 b5 b6 b7 : Int) : Value := .agg #[.int .u8 b0, .int .u8 b1, .int .u8 b2, .int .u8 b3, .int .u8 b4, .int .u8 b5, .int .u8 b6, .int .u8 b7]
def AllBytes (b0 b1 b2 b3 b4 b5 b6 b7 : Int) : Prop := (0 ≤ b0 ∧ b0 ≤ 255) ∧ (0 ≤ b1 ∧ b1 ≤ 255) ∧ (0 ≤ b2 ∧ b2 ≤ 255) ∧ (0 ≤ b3 ∧ b3 ≤ 255) ∧ (0 ≤ b4 ∧ b4 ≤ 255) ∧ (0 ≤ b5 ∧ b5 ≤ 255) ∧ (0 ≤ b6 ∧ b6 ≤ 255) ∧ (0 ≤ b7 ∧ b7 ≤ 255)
def Fits (op dst src off imm : Int) : Prop := (0 ≤ op ∧ op ≤ 255) ∧ (0 ≤ dst ∧ dst ≤ 255) ∧ (0 ≤ src ∧ src ≤ 255) ∧ (-32768 ≤ off ∧ off ≤ 32767) ∧ (-2147483648 ≤ imm ∧ imm ≤ 2147483647)

/-- Take of eight bytes that a block holds. -/
theorem take_block {w : World} {g c : Nat} {b0 b1 b2 b3 b4 b5 b6 b7 : Int} (hB : AllBytes b0 b1 b2 b3 b4 b5 b6 b7) (t : TypeId)
    (hh : w.heap[g]? = some (.cells #[.int .u8 b0, .int .u8 b1, .int .u8 b2, .int .u8 b3, .int .u8 b4, .int .u8 b5, .int .u8 b6, .int .u8 b7] t (0, 0))) :
    Calls Try.prog 15 #[.slice (some ⟨g, 0, none⟩) 8 c] w (TheInsn b0 (b1 % 16) (b1 / 16) (IntKind.i16.wrap (b2 + 256 * b3)) (wrap32 (b4 + 256 * b5 + 65536 * b6 + 16777216 * b7)) w) := by
  obtain ⟨l0, l1, l2, l3, l4, l5, l6, l7⟩ := hB
  have hk : ∀ k : Nat, w.cell? ⟨g, k, none⟩ = (#[Value.int .u8 b0, .int .u8 b1, .int .u8 b2, .int .u8 b3, .int .u8 b4, .int .u8 b5, .int .u8 b6, .int .u8 b7])[k]? := fun k => cell_of_row w g k _ t (0, 0) hh
  have hg : g < w.heap.size := by
    rcases Nat.lt_or_ge g w.heap.size with h | h
    · exact h
    · rw [Array.getElem?_eq_none h] at hh; cases hh
  exact take_ok g 0 c b0 b1 b2 b3 b4 b5 b6 b7 w (hk 0) (hk 1) (hk 2) (hk 3) (hk 4) (hk 5) (hk 6) (hk 7) l0 l1 l2 l3 l4 l5 l6 l7 hg

/-- Take of what Put made. -/
theorem take_of_put {w : World} {g : Nat} {op dst src off imm : Int} (hf : Fits op dst src off imm) (hd : dst ≤ 15) (hs : src ≤ 15)
    (hh : w.heap[g]? = some (.cells #[.int .u8 op, .int .u8 (dst + 16 * src), .int .u8 (off % 256), .int .u8 (off / 256 % 256), .int .u8 (imm % 256), .int .u8 (imm / 256 % 256), .int .u8 (imm / 65536 % 256), .int .u8 (imm / 16777216 % 256)] 5 (0, 0))) :
    Calls Try.prog 15 #[.slice (some ⟨g, 0, none⟩) 8 8] w (TheInsn op dst src off imm w) := by
  obtain ⟨f0, f1, f2, f3, f4⟩ := hf
  have h := take_block (c := 8) (w := w) ⟨f0, ⟨by omega, by omega⟩, ⟨by omega, by omega⟩, ⟨by omega, by omega⟩, ⟨by omega, by omega⟩, ⟨by omega, by omega⟩, ⟨by omega, by omega⟩, ⟨by omega, by omega⟩⟩ _ hh
  rw [i16_bytes off f3.1 f3.2, i32_bytes imm f4.1 f4.2, show (dst + 16 * src) % 16 = dst by omega, show (dst + 16 * src) / 16 = src by omega] at h
  exact h

/-- Put of what Take read. -/
theorem put_of_take {b0 b1 b2 b3 b4 b5 b6 b7 : Int} (hB : AllBytes b0 b1 b2 b3 b4 b5 b6 b7) (w : World) :
    Calls Try.prog 8 #[insnV b0 (b1 % 16) (b1 / 16) (IntKind.i16.wrap (b2 + 256 * b3)) (wrap32 (b4 + 256 * b5 + 65536 * b6 + 16777216 * b7))] w (EightOf b0 b1 b2 b3 b4 b5 b6 b7 w) := by
  obtain ⟨l0, l1, l2, l3, l4, l5, l6, l7⟩ := hB
  have h := put_ok b0 (b1 % 16) (b1 / 16) (IntKind.i16.wrap (b2 + 256 * b3)) (wrap32 (b4 + 256 * b5 + 65536 * b6 + 16777216 * b7)) w (by omega) (by omega) (by omega) (by omega)
  rw [i16_low, i16_high, i32_b0, i32_b1, i32_b2, i32_b3, show b1 % 16 + 16 * (b1 / 16) = b1 by omega, show (b2 + 256 * b3) % 256 = b2 by omega, show (b2 + 256 * b3) / 256 % 256 = b3 by omega,
    show (b4 + 256 * b5 + 65536 * b6 + 16777216 * b7) % 256 = b4 by omega, show (b4 + 256 * b5 + 65536 * b6 + 16777216 * b7) / 256 % 256 = b5 by omega,
    show (b4 + 256 * b5 + 65536 * b6 + 16777216 * b7) / 65536 % 256 = b6 by omega, show (b4 + 256 * b5 + 65536 * b6 + 16777216 * b7) / 16777216 % 256 = b7 by omega] at h
  exact h

/-- The two boxes of InsnBack's arguments, in whatever world has come of them. -/
def Boxed (w : World) (op dst src off imm b0 b1 b2 b3 b4 b5 b6 b7 : Int) (w1 : World) : Prop :=
  Below (w.heap.size + 1 + 1) ((w.alloc (.cells #[.int .u8 op, .int .u8 dst, .int .u8 src, .int .i16 off, .int .i32 imm] 24)).alloc
      (.cells #[.int .u8 b0, .int .u8 b1, .int .u8 b2, .int .u8 b3, .int .u8 b4, .int .u8 b5, .int .u8 b6, .int .u8 b7] 38)) w1
section
variable {w w1 w2 : World} {op dst src off imm b0 b1 b2 b3 b4 b5 b6 b7 : Int}
theorem Boxed.size (hb : Boxed w op dst src off imm b0 b1 b2 b3 b4 b5 b6 b7 w1) : w.heap.size + 1 + 1 ≤ w1.heap.size := by
  have hz := Below.size hb
  simpa using hz
theorem Boxed.then_ (hb : Boxed w op dst src off imm b0 b1 b2 b3 b4 b5 b6 b7 w1) (h : Below w1.heap.size w1 w2) : Boxed w op dst src off imm b0 b1 b2 b3 b4 b5 b6 b7 w2 :=
  Below.trans hb (h.mono hb.size)
theorem Boxed.new_ (hb : Boxed w op dst src off imm b0 b1 b2 b3 b4 b5 b6 b7 w1) (o : Obj) (h : Below (w1.alloc o).heap.size (w1.alloc o) w2) : Boxed w op dst src off imm b0 b1 b2 b3 b4 b5 b6 b7 w2 :=
  Below.trans (Below.alloc hb hb.size o) (h.mono (by have := hb.size; simp; omega))
theorem Boxed.below (hb : Boxed w op dst src off imm b0 b1 b2 b3 b4 b5 b6 b7 w1) : Below w.heap.size w w1 :=
  (((Below.refl _ _).alloc (Nat.le_refl _) _).alloc (by simp) _).trans (Below.mono hb (by omega))
theorem Boxed.insn (hb : Boxed w op dst src off imm b0 b1 b2 b3 b4 b5 b6 b7 w1) :
    w.heap.size < w1.heap.size ∧ w1.cell? ⟨w.heap.size, 0, none⟩ = some (.int .u8 op) ∧ w1.cell? ⟨w.heap.size, 1, none⟩ = some (.int .u8 dst) ∧ w1.cell? ⟨w.heap.size, 2, none⟩ = some (.int .u8 src) ∧ w1.cell? ⟨w.heap.size, 3, none⟩ = some (.int .i16 off) ∧ w1.cell? ⟨w.heap.size, 4, none⟩ = some (.int .i32 imm) := by
  have h0 : ∀ o, w1.cell? ⟨w.heap.size, o, none⟩ = _ := fun o => Below.cell hb (p := ⟨w.heap.size, o, none⟩) (by show w.heap.size < _; omega)
  have hz := hb.size
  simp only [h0]
  refine ⟨by omega, ?_, ?_, ?_, ?_, ?_⟩ <;> go_simp
theorem Boxed.eight (hb : Boxed w op dst src off imm b0 b1 b2 b3 b4 b5 b6 b7 w1) :
    w1.heap[w.heap.size + 1]? = some (.cells #[.int .u8 b0, .int .u8 b1, .int .u8 b2, .int .u8 b3, .int .u8 b4, .int .u8 b5, .int .u8 b6, .int .u8 b7] 38 (0, 0)) := by
  rw [Below.block hb (w.heap.size + 1) (by omega)]
  exact heap_at_last _ _ _ (by simp)
end

set_option maxHeartbeats 1000000 in
theorem back_dst (op dst src off imm b0 b1 b2 b3 b4 b5 b6 b7 : Int) (w : World) (hB : AllBytes b0 b1 b2 b3 b4 b5 b6 b7) (hd : 15 < dst) :
    Calls Try.prog 5 #[insnV op dst src off imm, eightV b0 b1 b2 b3 b4 b5 b6 b7] w
      fun e w' => e = .returned (.bool true) ∧ Below w.heap.size w w' := by
  have hh := Lib.hid hB
  clear hB
  go_enter Try.func5, Try.ntmps5
  go_wp2_with fail
  refine (shown_true _).mono ?_
  rintro e w2 ⟨rfl, hb2⟩
  have x2 : Boxed w op dst src off imm b0 b1 b2 b3 b4 b5 b6 b7 w2 := by simpa [Boxed] using hb2
  clear hb2
  obtain ⟨hz2, p0, p1, p2, p3, p4⟩ := x2.insn
  go_wp2_with fail
  refine (put_dst _ _ _ _ _ _ hd).mono ?_
  rintro e w3 ⟨rfl, hb3⟩
  have x3 := x2.then_ hb3
  clear p0 p1 p2 p3 p4 hb3 hz2 x2
  go_wp2_with fail
  refine (take_bad none 0 0 _ (by decide)).mono ?_
  rintro e w4 ⟨rfl, hb4⟩
  have x4 := x3.then_ hb4
  clear hb4 x3
  obtain ⟨hz4, p0, p1, p2, p3, p4⟩ := x4.insn
  go_wp2_with fail
  clear hz4 p0 p1 p2 p3 p4
  have hm := (Below.alloc x4 x4.size (.cells #[.int .u8 0, .int .u8 0, .int .u8 0, .int .i16 0, .int .i32 0] 24))
  refine (take_block (c := 8) (Hid.out hh) 38 (Boxed.eight hm)).mono ?_
  rintro e w5 ⟨rfl, hb5⟩
  have x5 := Boxed.then_ hm hb5
  clear hb5 hm x4
  go_wp2_with fail
  refine (put_of_take (Hid.out hh) _).mono ?_
  rintro e w6 ⟨g, rfl, hg, hb6, h6⟩
  have x6 := x5.new_ _ hb6
  have s1 := fun nq : Nat => eight_str h6 (w6.drewN nq) (below_drewN (Below.refl _ _) nq)
  have s2 := fun nq : Nat => eight_str x6.eight (w6.drewN nq) (below_drewN (Below.refl _ _) nq)
  have hz := x6.below
  clear hg hb6 h6 x6 x5
  go_wp2_with fail
  go_quiet (fail)
  go_wp2
  go_ret
  exact ⟨rfl, below_drewN hz _⟩

set_option maxHeartbeats 1000000 in
theorem back_src (op dst src off imm b0 b1 b2 b3 b4 b5 b6 b7 : Int) (w : World) (hB : AllBytes b0 b1 b2 b3 b4 b5 b6 b7) (h0 : dst ≤ 15) (hd : 15 < src) :
    Calls Try.prog 5 #[insnV op dst src off imm, eightV b0 b1 b2 b3 b4 b5 b6 b7] w
      fun e w' => e = .returned (.bool true) ∧ Below w.heap.size w w' := by
  have hh := Lib.hid hB
  clear hB
  go_enter Try.func5, Try.ntmps5
  go_wp2_with fail
  refine (shown_true _).mono ?_
  rintro e w2 ⟨rfl, hb2⟩
  have x2 : Boxed w op dst src off imm b0 b1 b2 b3 b4 b5 b6 b7 w2 := by simpa [Boxed] using hb2
  clear hb2
  obtain ⟨hz2, p0, p1, p2, p3, p4⟩ := x2.insn
  go_wp2_with fail
  refine (put_src _ _ _ _ _ _ h0 hd).mono ?_
  rintro e w3 ⟨rfl, hb3⟩
  have x3 := x2.then_ hb3
  clear p0 p1 p2 p3 p4 hb3 hz2 x2
  go_wp2_with fail
  refine (take_bad none 0 0 _ (by decide)).mono ?_
  rintro e w4 ⟨rfl, hb4⟩
  have x4 := x3.then_ hb4
  clear hb4 x3
  obtain ⟨hz4, p0, p1, p2, p3, p4⟩ := x4.insn
  go_wp2_with fail
  clear hz4 p0 p1 p2 p3 p4
  have hm := (Below.alloc x4 x4.size (.cells #[.int .u8 0, .int .u8 0, .int .u8 0, .int .i16 0, .int .i32 0] 24))
  refine (take_block (c := 8) (Hid.out hh) 38 (Boxed.eight hm)).mono ?_
  rintro e w5 ⟨rfl, hb5⟩
  have x5 := Boxed.then_ hm hb5
  clear hb5 hm x4
  go_wp2_with fail
  refine (put_of_take (Hid.out hh) _).mono ?_
  rintro e w6 ⟨g, rfl, hg, hb6, h6⟩
  have x6 := x5.new_ _ hb6
  have s1 := fun nq : Nat => eight_str h6 (w6.drewN nq) (below_drewN (Below.refl _ _) nq)
  have s2 := fun nq : Nat => eight_str x6.eight (w6.drewN nq) (below_drewN (Below.refl _ _) nq)
  have hz := x6.below
  clear hg hb6 h6 x6 x5
  go_wp2_with fail
  go_quiet (fail)
  go_wp2
  go_ret
  exact ⟨rfl, below_drewN hz _⟩

set_option maxHeartbeats 1000000 in
theorem back_ok (op dst src off imm b0 b1 b2 b3 b4 b5 b6 b7 : Int) (w : World) (hB : AllBytes b0 b1 b2 b3 b4 b5 b6 b7) (hF : Fits op dst src off imm) (h0 : dst ≤ 15) (hd : src ≤ 15) :
    Calls Try.prog 5 #[insnV op dst src off imm, eightV b0 b1 b2 b3 b4 b5 b6 b7] w
      fun e w' => e = .returned (.bool true) ∧ Below w.heap.size w w' := by
  have hh := Lib.hid hB
  have hf := Lib.hid hF
  have d0 : 0 ≤ dst := hF.2.1.1
  have d1 : 0 ≤ src := hF.2.2.1.1
  clear hB hF
  go_enter Try.func5, Try.ntmps5
  go_wp2_with fail
  refine (shown_true _).mono ?_
  rintro e w2 ⟨rfl, hb2⟩
  have x2 : Boxed w op dst src off imm b0 b1 b2 b3 b4 b5 b6 b7 w2 := by simpa [Boxed] using hb2
  clear hb2
  obtain ⟨hz2, p0, p1, p2, p3, p4⟩ := x2.insn
  go_wp2_with fail
  refine (put_ok _ _ _ _ _ _ d0 h0 d1 hd).mono ?_
  rintro e w3 ⟨g3, rfl, hg3, hb3, hx3⟩
  have x3 := x2.then_ hb3
  have hx3 := Lib.hid hx3
  clear p0 p1 p2 p3 p4 hb3 hz2 x2 hg3
  go_wp2_with fail
  refine (take_of_put (Hid.out hf) h0 hd (Hid.out hx3)).mono ?_
  rintro e w4 ⟨rfl, hb4⟩
  have x4 := x3.then_ hb4
  clear hb4 x3
  obtain ⟨hz4, p0, p1, p2, p3, p4⟩ := x4.insn
  go_wp2_with fail
  clear hz4 p0 p1 p2 p3 p4
  have hm := (Below.alloc x4 x4.size (.cells #[.int .u8 op, .int .u8 dst, .int .u8 src, .int .i16 off, .int .i32 imm] 24))
  refine (take_block (c := 8) (Hid.out hh) 38 (Boxed.eight hm)).mono ?_
  rintro e w5 ⟨rfl, hb5⟩
  have x5 := Boxed.then_ hm hb5
  clear hb5 hm x4
  go_wp2_with fail
  refine (put_of_take (Hid.out hh) _).mono ?_
  rintro e w6 ⟨g, rfl, hg, hb6, h6⟩
  have x6 := x5.new_ _ hb6
  have s1 := fun nq : Nat => eight_str h6 (w6.drewN nq) (below_drewN (Below.refl _ _) nq)
  have s2 := fun nq : Nat => eight_str x6.eight (w6.drewN nq) (below_drewN (Below.refl _ _) nq)
  have hz := x6.below
  clear hg hb6 h6 x6 x5
  go_wp2_with fail
  go_quiet (fail)
  go_wp2
  go_ret
  exact ⟨rfl, below_drewN hz _⟩

end Go.Proofs.Ytkggikcgaalgiaa
