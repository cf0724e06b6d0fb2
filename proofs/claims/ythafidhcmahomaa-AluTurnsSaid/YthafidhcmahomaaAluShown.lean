/-
  The document's examples of layer 2, as the statements' head holds them: 'shown' answers true.
  Conditions: none.
-/
import Derived.Test.YthafidhcmahomaaAluDo
import Derived.Test.YthafidhcmahomaaAluMath
import Derived.Below
import Derived.WalkSmall
namespace Go.Proofs.Ythafidhcmahomaa
open Go.RowKit
set_option linter.unusedVariables false

/-- True, and draws. -/
def Yes (w : World) (e : Ending) (w' : World) : Prop := e = .returned (.bool true) ∧ ∃ n, w' = w.drewN n

theorem did_to {op off a b v k : Int} {wide : Bool} (w : World) (ha : 0 ≤ a) (hb : 0 ≤ b) (hv : aluV wide op off a b = v) (hk : aluE wide op off = k) :
    Calls Try.prog 10 #[.int .u8 op, .bool wide, .int .i16 off, .int .u64 a, .int .u64 b] w (Did v k w) := by
  have h := did_any op off a b wide w ha hb
  rw [hv, hk] at h
  exact h

set_option maxHeartbeats 1000000 in
theorem shown_true (w : World) : Calls Try.prog 12 #[] w (Yes w) := by
  have h1 := Lib.hid fun w => did_to (op := 48) (off := 0) (a := 7) (b := 0) (v := 0) (k := 0) (wide := true) w (by decide) (by decide) (by decide +kernel) (by decide +kernel)
  have h2 := Lib.hid fun w => did_to (op := 144) (off := 0) (a := 7) (b := 0) (v := 7) (k := 0) (wide := true) w (by decide) (by decide) (by decide +kernel) (by decide +kernel)
  have h3 := Lib.hid fun w => did_to (op := 16) (off := 0) (a := 0) (b := 1) (v := 4294967295) (k := 0) (wide := false) w (by decide) (by decide) (by decide +kernel) (by decide +kernel)
  have h4 := Lib.hid fun w => did_to (op := 192) (off := 0) (a := 9223372036854775808) (b := 65) (v := 13835058055282163712) (k := 0) (wide := true) w (by decide) (by decide) (by decide +kernel) (by decide +kernel)
  go_enter Try.func12, Try.ntmps12
  go_wp2_with fail
  refine (h1.out _).mono ?_; rintro e w' ⟨rfl, n1, rfl⟩
  go_wp2_with fail
  refine (h2.out _).mono ?_; rintro e w' ⟨rfl, n2, rfl⟩
  go_wp2_with fail
  refine (h3.out _).mono ?_; rintro e w' ⟨rfl, n3, rfl⟩
  go_wp2_with fail
  refine (h4.out _).mono ?_; rintro e w' ⟨rfl, n4, rfl⟩
  go_wp2_with fail
  go_ret
  exact ⟨rfl, _, rfl⟩

theorem Yes.below {w w' : World} {e : Ending} (h : Yes w e w') : e = .returned (.bool true) ∧ Below w.heap.size w w' := by
  obtain ⟨rfl, n, rfl⟩ := h
  exact ⟨rfl, below_drewN (Below.refl _ _) _⟩

end Go.Proofs.Ythafidhcmahomaa
