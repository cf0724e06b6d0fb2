/-
  A slice of bytes as a string.
  Conditions: none.
-/
import Derived.Test.YtempkpfcjonaaaaStrEq
import Derived.Laws.BytesArg
import Derived.Laws.BytesString
namespace Go.Proofs.Ytempkpfcjonaaaa
open Go Go.RowKit
set_option linter.unusedVariables false
set_option linter.unusedSimpArgs false

theorem str_zero (w : World) (A : Option Addr) (c : Nat) : (convert 40 9 (.slice A 0 c)).run Try.prog w = .ok (.string (strOfNums [])) w := by
  rw [run_convert_bytes_string w 40 9 5 A 0 c Try.underlying40 Try.underlying5 Try.underlying9]
  cases A with
  | none => rfl
  | some a => rfl
theorem str_bytS {w : World} {A : Option Addr} {b : List Int} (h : BytS w A b) (c : Nat) : (convert 40 9 (.slice A b.length c)).run Try.prog w = .ok (.string (strOfNums b)) w := by
  by_cases hb : 0 < b.length
  · obtain ⟨g, o, rfl, hg, hc⟩ := h hb
    exact run_convert_bytes_arg w 40 5 Try.underlying40 Try.underlying5 g o b.length c b rfl (fun i hi => hc i hi) 9 Try.underlying9
  · have e : b = [] := List.eq_nil_of_length_eq_zero (by omega)
    subst e
    exact str_zero w A c
/-- Two strings of bytes, held against each other. -/
theorem eql_str (a b : List Int) (ha : OkB a) (hb : OkB b) (u : World) : (binOp BinOp.eql 9 (.string (strOfNums a)) (.string (strOfNums b))).run Try.prog u = .ok (.bool (a == b)) u := by
  rw [← eq_str ha hb]
  rfl
theorem neq_str (a b : List Int) (ha : OkB a) (hb : OkB b) (u : World) : (binOp BinOp.neq 9 (.string (strOfNums a)) (.string (strOfNums b))).run Try.prog u = .ok (.bool (!(a == b))) u := by
  rw [← eq_str ha hb]
  rfl

end Go.Proofs.Ytempkpfcjonaaaa
