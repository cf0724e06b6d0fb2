/-
  The document's examples of layer 3, as the statements' head holds them: 'shown' answers true.
  Conditions: none.
-/
import Derived.Test.YtpgjheiobjgcdaaCondSays
namespace Go.Proofs.Ytpgjheiobjgcdaa
open Go.RowKit
set_option linter.unusedVariables false

/-- True, and nothing that was there has turned. -/
def Fine (w : World) (e : Ending) (w' : World) : Prop := e = .returned (.bool true) ∧ Below w.heap.size w w'

set_option maxHeartbeats 1000000 in
theorem cond_shown (w : World) : Calls Try.prog 11 #[] w (Fine w) := by
  have h1 := Lib.hid fun w => is_to (op := 32) (wide := true) (a := 9223372036854775808) (b := 1) (v := true) (k := 0) w (by decide) (by decide) (by decide +kernel) (by decide +kernel)
  have h2 := Lib.hid fun w => is_to (op := 96) (wide := true) (a := 9223372036854775808) (b := 1) (v := false) (k := 0) w (by decide) (by decide) (by decide +kernel) (by decide +kernel)
  have h3 : ∀ w, Calls Try.prog 12 #[.int .u8 32] w fun e w' => e = .returned (.tuple #[.int .u8 176, .bool true]) ∧ Below w.heap.size w w' := fun w => not_any 32 w
  have H3 := Lib.hid h3
  clear h3
  go_enter Try.func11, Try.ntmps11
  go_wp2_with fail
  refine (h1.out _).mono ?_; rintro e w1 ⟨rfl, b1⟩
  go_wp2_with fail
  refine (h2.out _).mono ?_; rintro e w2 ⟨rfl, b2⟩
  go_wp2_with fail
  refine (H3.out _).mono ?_; rintro e w3 ⟨rfl, b3⟩
  go_wp2_with fail
  go_ret
  exact ⟨rfl, below_next' (below_next' b1 b2) b3⟩

end Go.Proofs.Ytpgjheiobjgcdaa
