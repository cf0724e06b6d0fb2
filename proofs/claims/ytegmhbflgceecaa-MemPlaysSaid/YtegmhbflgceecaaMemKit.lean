/-
  Layer 8: the program's calls over memory that a law made itself: whatever is done, nothing that was there ahead of the law turns.
  Conditions: the numbers fit their kinds.
-/
import Derived.Test.YtegmhbflgceecaaMem8
import Derived.Test.YtegmhbflgceecaaMemMath
namespace Go.Proofs.Ytegmhbflgceecaa
open Go.RowKit
set_option linter.unusedVariables false

/-- Memory of the law's own. -/
def Mm (w0 w : World) (g : Nat) (M : PM) : Prop := Below w0.heap.size w0 w ∧ ∃ F, RepP w g M F ∧ ∀ x, F x → w0.heap.size ≤ x
theorem Mm.below {w0 w : World} {g : Nat} {M : PM} (h : Mm w0 w g M) : Below w0.heap.size w0 w := h.1
theorem Mm.after {w0 w w' : World} {g : Nat} {M : PM} (h : Mm w0 w g M) (b : Below w.heap.size w w') : Mm w0 w' g M := by
  obtain ⟨h1, F, h2, h3⟩ := h
  exact ⟨below_next' h1 b, F, h2.turn (Turn.of_below (F := fun _ => False) b) (fun _ _ x => x), h3⟩
theorem Mm.ok {w0 w : World} {g : Nat} {M : PM} (h : Mm w0 w g M) : PMok M := by
  obtain ⟨_, F, h2, _⟩ := h
  exact h2.ok
theorem Mm.done {w0 w w' : World} {g : Nat} {M' : PM} {F : Nat → Prop} {v : Value} {e : Ending} (h1 : Below w0.heap.size w0 w) (h2 : ∀ x, F x → w0.heap.size ≤ x) (h : MemW RepP g F M' v w e w') : e = .returned v ∧ Mm w0 w' g M' := by
  obtain ⟨he, F', h3, h4, h5⟩ := h
  refine ⟨he, Turn.on h1 h4 h1.size h2, F', h3, fun x hx => ?_⟩
  rcases h5 x hx with c | c
  · exact h2 x c
  · have := h1.size; omega
theorem mm_New (w0 w : World) (h : Below w0.heap.size w0 w) : Calls Try.prog 10 #[] w (fun e w' => ∃ g, e = .returned (.pointer (some ⟨g, 0, none⟩)) ∧ Mm w0 w' g []) :=
  (c8_New w).mono fun e w' ⟨g, F, he, h1, h2, h3⟩ => ⟨g, he, below_next' h h2, F, h1, fun x hx => by have := h3 x hx; have := h.size; omega⟩
theorem mm_Make {w0 w : World} {g : Nat} {M : PM} (i : Int) (b : List Int) (B : Option Addr) (d : Nat) (bl fx : Bool) (h : Mm w0 w g M) (hb : BytS w B b) (hob : OkB b) (hd : b.length ≤ d) (hmd : d ≤ maxLen) (hM : M.length ≤ 100000) (hi : -9223372036854775808 ≤ i ∧ i ≤ 9223372036854775807 := by omega) :
    Calls Try.prog 14 #[.pointer (some ⟨g, 0, none⟩), .int .i64 i, .slice B b.length d, .bool bl, .bool fx] w (fun e w' => e = .returned (.int .i64 (pMake M i b bl fx).2) ∧ Mm w0 w' g (pMake M i b bl fx).1) := by
  obtain ⟨h1, F, h2, h3⟩ := h
  exact (c8_Make w g M F i b B d bl fx h2 hi hb hob hd hmd hM).mono fun e w' hw => Mm.done h1 h3 hw
theorem mm_Store {w0 w : World} {g : Nat} {M : PM} (at_ s n : Int) (h : Mm w0 w g M) (ha : 0 ≤ at_ ∧ at_ ≤ 18446744073709551615) (hn : 0 ≤ n ∧ n ≤ 18446744073709551615) :
    Calls Try.prog 20 #[.pointer (some ⟨g, 0, none⟩), .int .u64 at_, .int .i64 s, .int .u64 n] w (fun e w' => e = .returned (.int .i64 (pStore M at_ s n).2) ∧ Mm w0 w' g (pStore M at_ s n).1) := by
  obtain ⟨h1, F, h2, h3⟩ := h
  exact (c8_Store w g M F at_ s n h2 ha hn).mono fun e w' hw => Mm.done h1 h3 hw
theorem mm_Load {w0 w : World} {g : Nat} {M : PM} (at_ s : Int) (h : Mm w0 w g M) (ha : 0 ≤ at_ ∧ at_ ≤ 18446744073709551615) :
    Calls Try.prog 16 #[.pointer (some ⟨g, 0, none⟩), .int .u64 at_, .int .i64 s] w (Gives (.tuple #[.int .u64 (pLoad M at_ s).1, .int .i64 (pLoad M at_ s).2]) w) := by
  obtain ⟨h1, F, h2, h3⟩ := h
  exact c8_Load w g M F at_ s h2 ha
theorem mm_Read {w0 w : World} {g : Nat} {M : PM} (at_ s : Int) (h : Mm w0 w g M) (ha : 0 ≤ at_ ∧ at_ ≤ 18446744073709551615) :
    Calls Try.prog 18 #[.pointer (some ⟨g, 0, none⟩), .int .u64 at_, .int .i64 s] w (ByteW (pRead M at_ s) w) := by
  obtain ⟨h1, F, h2, h3⟩ := h
  exact c8_Read w g M F at_ s h2 ha
theorem mm_Area {w0 w : World} {g : Nat} {M : PM} (i : Int) (h : Mm w0 w g M) (hi : -9223372036854775808 ≤ i ∧ i ≤ 9223372036854775807 := by omega) :
    Calls Try.prog 22 #[.pointer (some ⟨g, 0, none⟩), .int .i64 i] w
      (fun e w' => ∃ A c, e = .returned (.tuple #[.slice A (pArea M i).1.length c, .bool (pArea M i).2]) ∧ BytS w' A (pArea M i).1 ∧ (pArea M i).1.length ≤ c ∧ c ≤ maxLen ∧ Below w.heap.size w w') := by
  obtain ⟨h1, F, h2, h3⟩ := h
  exact c8_Area w g M F i h2 hi
/-- Zero bytes, made. -/
theorem made_zeros (n base : Nat) (hn : n ≤ 100000) (w : World) (hb : base ≤ w.heap.size) :
    ∃ w', (Instr.makeSlice 32 (.int .i64 (n : Int)) (.int .i64 (n : Int))).run Try.prog w = .ok (.slice (some ⟨w.heap.size, 0, none⟩) n n) w' ∧
      w'.ownsRow base 5 1 (.slice (some ⟨w.heap.size, 0, none⟩) n n) n (byC (List.replicate n 0)) ∧ w.grownBy w' none := by
  obtain ⟨i, hi, hz, h1, h2⟩ := info_parts (show (Try.prog.info? 5).map (fun i => (i.zero, i.size, i.bytes)) = some (some (.int .u8 0), 1, 1) by kernel_rfl)
  obtain ⟨w', hr, ho, hg⟩ := run_make_full (P := Try.prog) w base 32 5 i (.int .u8 0) 1 Try.underlying32 hi hz h1 .i64 .i64 n (by rw [h2]; omega) (by simp only [maxLen]; omega) hb
  refine ⟨w', hr, ?_, hg⟩
  have e : (madeCells (Value.int .u8 0).cells (n * 1)).toList = byC (List.replicate n 0) := by
    rw [byC_zeros, Nat.mul_one]
    exact toList_madeCells_one _ _
  rw [e] at ho
  exact ho
theorem mm_at (a o : Int) (w : World) (v : Int) (h : atI a o = v) : Calls Try.prog 12 #[.int .i64 a, .int .i64 o] w (Gives (.int .u64 v) w) := by rw [← h]; exact c8_At a o w
theorem Mm.made {w0 w w' : World} {g : Nat} {M : PM} (h : Mm w0 w g M) (hg : w.grownBy w' none) : Mm w0 w' g M := h.after ((Below.refl _ _).grown hg (Nat.le_refl _) (fun k hk => by cases hk))
theorem ok_zeros (n : Nat) : OkB (List.replicate n 0) := okB_zeros n

def shM0 : PM := [⟨2, List.replicate 8 0, List.replicate 8 true, false⟩]
def shM1 : PM := [⟨2, [0, 0, 0, 0, 0, 0, 2, 1], [true, true, true, true, true, true, false, false], false⟩]
set_option maxRecDepth 100000 in
set_option maxHeartbeats 2000000 in
theorem l8_shown (w : World) : Calls Try.prog 9 #[] w (Gives (.bool true) w) := by
  have N := Lib.hid (mm_New w)
  go_enter Try.func9, Try.ntmps9
  go_wp2_with fail
  refine (N.out _ (Below.refl _ _)).mono ?_
  rintro e w1 ⟨g, rfl, q1⟩
  obtain ⟨w2, hmk, hown, hgr⟩ := made_zeros 8 w.heap.size (by omega) w1 q1.below.size
  have hmk' : (Instr.makeSlice 32 (.int .i64 8) (.int .i64 8)).run Try.prog w1 = .ok (.slice (some ⟨w1.heap.size, 0, none⟩) 8 8) w2 := hmk
  have Q := Lib.hid (q1.made hgr)
  have HB := Lib.hid (own_bytS (b := List.replicate 8 0) rfl hown)
  have A1 := Lib.hid fun w' => mm_at 2 6 w' 8589934598 rfl
  have A2 := Lib.hid fun w' => mm_at 2 5 w' 8589934597 rfl
  have M1 := Lib.hid fun w' B (h : Mm w w' g []) (hb : BytS w' B (List.replicate 8 0)) => mm_Make 2 (List.replicate 8 0) B 8 true false h hb (okB_zeros 8) (Nat.le_refl 8) (by unfold maxLen; omega) (by simp)
  rw [show pMake [] 2 (List.replicate 8 0) true false = (shM0, 0) from rfl] at M1
  have S1 := Lib.hid fun w' (h : Mm w w' g shM0) => mm_Store 8589934598 2 258 h (by omega) (by omega)
  rw [show pStore shM0 8589934598 2 258 = (shM1, 0) by kernel_rfl] at S1
  have S2 := Lib.hid fun w' (h : Mm w w' g shM1) => mm_Store 8589934598 4 258 h (by omega) (by omega)
  rw [show pStore shM1 8589934598 4 258 = (shM1, 80) by kernel_rfl] at S2
  have L1 := Lib.hid fun w' (h : Mm w w' g shM1) => mm_Load 8589934598 1 h (by omega)
  rw [show pLoad shM1 8589934598 1 = (2, 0) by kernel_rfl] at L1
  have L2 := Lib.hid fun w' (h : Mm w w' g shM1) => mm_Load 8589934597 1 h (by omega)
  rw [show pLoad shM1 8589934597 1 = (0, 81) by kernel_rfl] at L2
  clear hmk hgr hown q1 N
  go_wp2_with fail
  refine (M1.out _ _ Q.out HB.out).mono ?_
  rintro e w3 ⟨rfl, q⟩
  replace Q := Lib.hid q
  clear q HB M1
  go_wp2_with fail
  refine (A1.out _).mono ?_
  rintro e w4 ⟨rfl, b⟩
  replace Q := Lib.hid (Q.out.after b)
  clear b
  go_wp2_with fail
  refine (S1.out _ Q.out).mono ?_
  rintro e w5 ⟨rfl, q⟩
  replace Q := Lib.hid q
  clear q
  go_wp2_with fail
  refine (A1.out _).mono ?_
  rintro e w6 ⟨rfl, b⟩
  replace Q := Lib.hid (Q.out.after b)
  clear b
  go_wp2_with fail
  refine (S2.out _ Q.out).mono ?_
  rintro e w7 ⟨rfl, q⟩
  replace Q := Lib.hid q
  clear q
  go_wp2_with fail
  refine (A1.out _).mono ?_
  rintro e w8 ⟨rfl, b⟩
  replace Q := Lib.hid (Q.out.after b)
  clear b
  go_wp2_with fail
  refine (L1.out _ Q.out).mono ?_
  rintro e w9 ⟨rfl, b⟩
  replace Q := Lib.hid (Q.out.after b)
  clear b
  go_wp2_with fail
  refine (A2.out _).mono ?_
  rintro e w10 ⟨rfl, b⟩
  replace Q := Lib.hid (Q.out.after b)
  clear b
  go_wp2_with fail
  refine (L2.out _ Q.out).mono ?_
  rintro e w11 ⟨rfl, b⟩
  replace Q := Lib.hid (Q.out.after b)
  clear b
  go_wp2_with fail
  go_ret
  exact ⟨rfl, Q.out.below⟩

end Go.Proofs.Ytegmhbflgceecaa
