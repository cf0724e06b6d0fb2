/-
  The document's examples of layer 4, as the statements' head holds them: 'shown' answers true; and the statements' own 'made'.
  Conditions: none.
-/
import Derived.Test.YtkiekbkjhlbnhaaTnumAnd
import Derived.Test.YtkiekbkjhlbnhaaTnumLaws
namespace Go.Proofs.Ytkiekbkjhlbnhaa
open Go.RowKit
set_option linter.unusedVariables false

/-- True, and nothing that was there has turned. -/
def Fine (w : World) (e : Ending) (w' : World) : Prop := e = .returned (.bool true) ∧ Below w.heap.size w w'

theorem do_to {op : Int} {a b t : Tn} {ok : Bool} (h1 : tDo op a b = t) (h2 : tDok op a b = ok) (w : World) : Calls Try.prog 24 #[.int .u8 op, tV a, tV b] w (Gives (tBV t ok) w) := by
  rw [← h1, ← h2]; exact do_says op a b w
theorem meet_to {a b t : Tn} {ok : Bool} (h1 : tM a b = t) (h2 : tMok a b = ok) (w : World) : Calls Try.prog 10 #[tV a, tV b] w (Gives (tBV t ok) w) := by
  rw [← h1, ← h2]; exact meet_says a b w

set_option maxHeartbeats 1000000 in
theorem tnum_shown (w : World) : Calls Try.prog 12 #[] w (Fine w) := by
  have o1 : ∀ w, Calls Try.prog 15 #[.int .u64 1] w (Gives (.agg #[.int .u64 1, .int .u64 0]) w) := fun w => of_says 1#64 w
  have o2 : ∀ w, Calls Try.prog 15 #[.int .u64 2] w (Gives (.agg #[.int .u64 2, .int .u64 0]) w) := fun w => of_says 2#64 w
  have d1 : ∀ w, Calls Try.prog 24 #[.int .u8 0, .agg #[.int .u64 1, .int .u64 0], .agg #[.int .u64 0, .int .u64 2]] w (Gives (.tuple #[.agg #[.int .u64 1, .int .u64 2], .bool true]) w) :=
    do_to (op := 0) (a := (1#64, 0#64)) (b := (0#64, 2#64)) (t := (1#64, 2#64)) (ok := true) (by decide +kernel) (by decide +kernel)
  have d2 : ∀ w, Calls Try.prog 24 #[.int .u8 80, .agg #[.int .u64 0, .int .u64 3], .agg #[.int .u64 1, .int .u64 0]] w (Gives (.tuple #[.agg #[.int .u64 0, .int .u64 1], .bool true]) w) :=
    do_to (op := 80) (a := (0#64, 3#64)) (b := (1#64, 0#64)) (t := (0#64, 1#64)) (ok := true) (by decide +kernel) (by decide +kernel)
  have m1 : ∀ w, Calls Try.prog 10 #[.agg #[.int .u64 1, .int .u64 0], .agg #[.int .u64 2, .int .u64 0]] w (Gives (.tuple #[.agg #[.int .u64 0, .int .u64 0], .bool false]) w) :=
    meet_to (a := (1#64, 0#64)) (b := (2#64, 0#64)) (t := (0#64, 0#64)) (ok := false) (by decide +kernel) (by decide +kernel)
  have O1 := Lib.hid o1
  have O2 := Lib.hid o2
  have D1 := Lib.hid d1
  have D2 := Lib.hid d2
  have M1 := Lib.hid m1
  clear o1 o2 d1 d2 m1
  go_enter Try.func12, Try.ntmps12
  go_wp2_with fail
  refine (O1.out _).mono ?_; rintro e w1 ⟨rfl, b1⟩
  go_wp2_with fail
  refine (D1.out _).mono ?_; rintro e w2 ⟨rfl, b2⟩
  have A0 := Lib.hid (Box.new w2 (1#64, 2#64) (g := w2.heap.size) rfl)
  have b12 := below_next' b1 b2
  go_wp2_with fail
  refine (O1.out _).mono ?_; rintro e w3 ⟨rfl, b3⟩
  go_wp2_with fail
  refine (D2.out _).mono ?_; rintro e w4 ⟨rfl, b4⟩
  have A1 := Lib.hid ((A0.out.after b3).after b4)
  have B0 := Lib.hid (Box.new w4 (0#64, 1#64) (g := w4.heap.size) rfl)
  have b14 := below_next' (below_next' (below_alloc b12 _) b3) b4
  clear b1 b2 b12 A0 b3 b4
  go_wp2_with fail
  refine (O1.out _).mono ?_; rintro e w5 ⟨rfl, b5⟩
  go_wp2_with fail
  refine (O2.out _).mono ?_; rintro e w6 ⟨rfl, b6⟩
  go_wp2_with fail
  refine (M1.out _).mono ?_; rintro e w7 ⟨rfl, b7⟩
  have A2 := (((A1.out.alloc _).after b5).after b6).after b7
  have B2 := ((B0.out.after b5).after b6).after b7
  have bb := below_next' (below_next' (below_next' (below_alloc b14 _) b5) b6) b7
  clear b14 b5 b6 b7 A1 B0
  have p0 : w7.cell? ⟨w2.heap.size, 0, none⟩ = some (.int .u64 1) := A2.cells.1
  have p1 : w7.cell? ⟨w2.heap.size, 1, none⟩ = some (.int .u64 2) := A2.cells.2
  have p2 : w7.cell? ⟨w4.heap.size, 0, none⟩ = some (.int .u64 0) := B2.cells.1
  have p3 : w7.cell? ⟨w4.heap.size, 1, none⟩ = some (.int .u64 1) := B2.cells.2
  have z1 := A2.lt
  have z2 := B2.lt
  clear A2 B2
  go_wp2_with fail
  go_ret
  exact ⟨rfl, below_alloc bb _⟩

set_option maxHeartbeats 1000000 in
theorem made_pick (v m n : BitVec 64) (w : World) : Calls Try.prog 26 #[uV v, uV m, uV n] w (Gives (.tuple #[tV (tMade v m), uV (pick v m n)]) w) := by
  go_enter Try.func26, Try.ntmps26
  go_wp2_with fail
  simp only [bv_and, bv_or, bv_andNot]
  have e1 : tMade v m = (v &&& ~~~m, m) := rfl
  have e2 : pick v m n = (v &&& ~~~m) ||| (n &&& m) := rfl
  rw [e1, e2]
  generalize (v &&& ~~~m) ||| (n &&& m) = q at *
  generalize v &&& ~~~m = p at *
  exact bodyPost_ret (v := .tuple #[tV (p, m), uV q]) (by simp [results, Try.results26, go_sem]) rfl ⟨rfl, below_alloc (Below.refl _ _) _⟩

end Go.Proofs.Ytkiekbkjhlbnhaa
