/-
  The document's examples, as the statements' head holds them: 'shown' answers true.
  Conditions: none.
-/
import Derived.Test.YtkggikcgaalgiaaInsn
import Derived.Laws.BytesArg
import Derived.Lib.Hide
namespace Go.Proofs.Ytkggikcgaalgiaa
open Go.RowKit

/-- Eight bytes of a block, as a string. -/
theorem eight_str {w : World} {g : Nat} {t : TypeId} {b0 b1 b2 b3 b4 b5 b6 b7 : Int}
    (hh : w.heap[g]? = some (.cells #[.int .u8 b0, .int .u8 b1, .int .u8 b2, .int .u8 b3, .int .u8 b4, .int .u8 b5, .int .u8 b6, .int .u8 b7] t (0, 0))) (wx : World) (hx : Below (g + 1) w wx) :
    (convert 25 9 (.slice (some ⟨g, 0, none⟩) 8 8)).run Try.prog wx = .ok (.string (strOfNums [b0, b1, b2, b3, b4, b5, b6, b7])) wx := by
  refine run_convert_bytes_arg wx 25 5 Try.underlying25 Try.underlying5 g 0 8 8 _ rfl ?_ 9 Try.underlying9
  intro i hi
  rw [hx.cell (p := ⟨g, 0 + i, none⟩) (by simp)]
  have hk : ∀ k : Nat, w.cell? ⟨g, k, none⟩ = (#[Value.int .u8 b0, .int .u8 b1, .int .u8 b2, .int .u8 b3, .int .u8 b4, .int .u8 b5, .int .u8 b6, .int .u8 b7])[k]? := fun k => cell_of_row w g k _ t (0, 0) hh
  rw [hk]
  match i, hi with
  | 0, _ => rfl
  | 1, _ => rfl
  | 2, _ => rfl
  | 3, _ => rfl
  | 4, _ => rfl
  | 5, _ => rfl
  | 6, _ => rfl
  | 7, _ => rfl

set_option maxHeartbeats 400000 in
theorem shown_true (w : World) : Calls Try.prog 10 #[] w fun e w' => e = .returned (.bool true) ∧ Below w.heap.size w w' := by
  have hp : ∀ wx : World, Calls Try.prog 8 #[insnV 183 1 0 0 (-1)] wx (EightOf 183 1 0 0 255 255 255 255 wx) := fun wx => by
    simpa using put_ok 183 1 0 0 (-1) wx (by decide) (by decide) (by decide) (by decide)
  have hq : (strOfNums [183, 1, 0, 0, 255, 255, 255, 255]).toList = [183, 1, 0, 0, 255, 255, 255, 255] := by decide +kernel
  have H := Lib.hid hp
  clear hp
  go_enter Try.func10, Try.ntmps10
  go_wp2_with (go_at_call 8; refine (H.out _).mono ?_; rintro e w' ⟨g, rfl, hg, hb, hh⟩; have hs := eight_str hh w' (Below.refl _ _); clear hh)
  go_ret
  exact ⟨rfl, hb⟩

end Go.Proofs.Ytkggikcgaalgiaa
