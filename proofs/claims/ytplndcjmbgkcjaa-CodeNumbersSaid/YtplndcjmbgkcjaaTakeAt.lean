/-
  Layer 7: an instruction out of eight bytes of a row; what Decode and Encode tell.
  Conditions: the numbers fit their kinds.
-/
import Derived.Test.YtplndcjmbgkcjaaBytRow
import Derived.Test.YtplndcjmbgkcjaaInsn
import Derived.Test.YtplndcjmbgkcjaaRef01
namespace Go.Proofs.Ytplndcjmbgkcjaa
open Go.RowKit
set_option linter.unusedVariables false
set_option linter.unusedSimpArgs false

/-- Bytes of a row, in a world. -/
def BytAt (w : World) (g o : Nat) (b : List Int) : Prop := g < w.heap.size ∧ ∀ k, k < b.length → w.cell? ⟨g, o + k, none⟩ = some (.int .u8 (bAt b k))
theorem BytAt.after {w w' : World} {g o : Nat} {b : List Int} (h : BytAt w g o b) (k : Below w.heap.size w w') : BytAt w' g o b :=
  ⟨Nat.lt_of_lt_of_le h.1 k.size, fun j hj => (k.cell (p := ⟨g, o + j, none⟩) h.1).trans (h.2 j hj)⟩
/-- What Decode answers. -/
def DecW (r : List Ins × Int × Int) (w : World) (e : Ending) (w' : World) : Prop :=
  ∃ A c, e = .returned (.tuple #[.slice A r.1.length c, .int .i64 r.2.1, .int .i64 r.2.2]) ∧ InsS w' A r.1 ∧ r.1.length ≤ c ∧ c ≤ maxLen ∧ Below w.heap.size w w'
/-- What Encode answers. -/
def EncW (r : List Int × Int × Int) (w : World) (e : Ending) (w' : World) : Prop :=
  ∃ A c, e = .returned (.tuple #[.slice A r.1.length c, .int .i64 r.2.1, .int .i64 r.2.2]) ∧ BytS w' A r.1 ∧ r.1.length ≤ c ∧ c ≤ maxLen ∧ Below w.heap.size w w'

theorem c7_Take (b : List Int) (g o c j : Nat) (w : World) (hb : OkB b) (hj : j < b.length / 8) (h : BytAt w g o b) :
    Calls Try.prog 42 #[.slice (some ⟨g, o + j * 8, none⟩) 8 c] w (Gives (.tuple #[iV (decI b j), .int .i64 0]) w) := by
  have hc : ∀ r, r < 8 → w.cell? ⟨g, o + j * 8 + r, none⟩ = some (.int .u8 (bAt b (j * 8 + r))) := fun r hr => by
    rw [Nat.add_assoc]
    exact h.2 (j * 8 + r) (by omega)
  have hk : ∀ r, r < 8 → 0 ≤ bAt b (j * 8 + r) ∧ bAt b (j * 8 + r) ≤ 255 := fun r hr => hb _ (by omega)
  exact take_ok g (o + j * 8) c _ _ _ _ _ _ _ _ w (hc 0 (by omega)) (hc 1 (by omega)) (hc 2 (by omega)) (hc 3 (by omega)) (hc 4 (by omega)) (hc 5 (by omega)) (hc 6 (by omega)) (hc 7 (by omega))
    (hk 0 (by omega)) (hk 1 (by omega)) (hk 2 (by omega)) (hk 3 (by omega)) (hk 4 (by omega)) (hk 5 (by omega)) (hk 6 (by omega)) (hk 7 (by omega)) h.1

theorem r7_Take (b : List Int) (g o c j : Nat) (w : World) (hb : OkB b) (hj : j < b.length / 8) (h : BytAt w g o b) :
    Calls Try.prog 43 #[.slice (some ⟨g, o + j * 8, none⟩) 8 c] w (Gives (.tuple #[iV (decI b j), .int .i64 0]) w) := by
  have hc : ∀ r, r < 8 → w.cell? ⟨g, o + j * 8 + r, none⟩ = some (.int .u8 (bAt b (j * 8 + r))) := fun r hr => by
    rw [Nat.add_assoc]
    exact h.2 (j * 8 + r) (by omega)
  have hk : ∀ r, r < 8 → 0 ≤ bAt b (j * 8 + r) ∧ bAt b (j * 8 + r) ≤ 255 := fun r hr => hb _ (by omega)
  exact ref_take_ok g (o + j * 8) c _ _ _ _ _ _ _ _ w (hc 0 (by omega)) (hc 1 (by omega)) (hc 2 (by omega)) (hc 3 (by omega)) (hc 4 (by omega)) (hc 5 (by omega)) (hc 6 (by omega)) (hc 7 (by omega))
    (hk 0 (by omega)) (hk 1 (by omega)) (hk 2 (by omega)) (hk 3 (by omega)) (hk 4 (by omega)) (hk 5 (by omega)) (hk 6 (by omega)) (hk 7 (by omega)) h.1

end Go.Proofs.Ytplndcjmbgkcjaa
