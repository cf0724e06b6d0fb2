/-
  cond.Not and cond.Turned: what the pairs say.
  Conditions: none.
-/
import Derived.Test.YtpnobkaeoiaelaaCondPair
namespace Go.Proofs.Ytpnobkaeoiaelaa
open Go.RowKit
set_option linter.unusedVariables false

def notPairs : List (Int × Int) := [(16, 80), (32, 176), (48, 160), (96, 208), (112, 192)]
def turnPairs : List (Int × Int) := [(16, 16), (80, 80), (64, 64), (32, 160), (48, 176), (96, 192), (112, 208)]

/-- A condition and whether there is one, and nothing that was there has turned. -/
def Paired (l : List (Int × Int)) (op : Int) (w : World) (e : Ending) (w' : World) : Prop := e = .returned (.tuple #[.int .u8 (pairOf l op).1, .bool (pairOf l op).2]) ∧ Below w.heap.size w w'

theorem cells_at (w : World) (l : List (Int × Int)) (cs : Array Value) (t : TypeId) (h : ∀ k, k < l.length → cs[k * 2]? = some (.int .u8 (l.getD k (0, 0)).1) ∧ cs[k * 2 + 1]? = some (.int .u8 (l.getD k (0, 0)).2)) :
    ∀ k, k < l.length → (w.alloc (.cells cs t)).cell? ⟨w.heap.size, k * 2, none⟩ = some (.int .u8 (l.getD k (0, 0)).1) ∧ (w.alloc (.cells cs t)).cell? ⟨w.heap.size, k * 2 + 1, none⟩ = some (.int .u8 (l.getD k (0, 0)).2) := by
  intro k hk
  rw [World.cell?_alloc_new, World.cell?_alloc_new]
  exact h k hk

theorem turned_any (op : Int) (w : World) : Calls Try.prog 48 #[.int .u8 op] w (Paired turnPairs op w) := by
  have hp := Lib.hid (partner_any turnPairs w.heap.size op (w.alloc (.cells #[.int .u8 16, .int .u8 16, .int .u8 80, .int .u8 80, .int .u8 64, .int .u8 64, .int .u8 32, .int .u8 160, .int .u8 48, .int .u8 176, .int .u8 96, .int .u8 192, .int .u8 112, .int .u8 208] 64)) (by decide)
    (cells_at w turnPairs _ _ (by
      intro k hk
      change k < 7 at hk
      have h : k = 0 ∨ k = 1 ∨ k = 2 ∨ k = 3 ∨ k = 4 ∨ k = 5 ∨ k = 6 := by omega
      rcases h with rfl | rfl | rfl | rfl | rfl | rfl | rfl <;> exact ⟨rfl, rfl⟩)) (by simp))
  go_enter Try.func48, Try.ntmps48
  go_wp2_with fail
  refine (hp.out).mono ?_
  rintro e w1 ⟨rfl, hb⟩
  go_wp2_with fail
  go_ret2
  exact ⟨rfl, below_next ((Below.refl _ _).alloc (Nat.le_refl _) _) (by simp) hb⟩

end Go.Proofs.Ytpnobkaeoiaelaa
