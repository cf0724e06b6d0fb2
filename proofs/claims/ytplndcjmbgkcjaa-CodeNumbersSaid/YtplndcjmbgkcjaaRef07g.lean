/-
  The document's own answers of layer 7: what an instruction does, of whatever instruction.
  Conditions: the numbers fit their kinds.
-/
import Derived.Test.YtplndcjmbgkcjaaRef07e
import Derived.Test.YtplndcjmbgkcjaaRef07f
namespace Go.Proofs.Ytplndcjmbgkcjaa
open Go.RowKit
set_option linter.unusedVariables false

theorem r7_in_new (l : List Int) (n : Int) (hl : l.length ≤ 100) (w : World) (g : Nat) (hg : g = w.heap.size) :
    Calls Try.prog 58 #[.slice (some ⟨g, 0, none⟩) l.length l.length, .int .u8 n] (w.alloc (.cells (byteCells l) 5)) (Gives (.bool (inB l n)) w) :=
  (r7_in l g l.length 5 n (w.alloc (.cells (byteCells l) 5)) hl (Blk.new w _ _ hg)).mono (by
    rintro e w' ⟨rfl, h⟩
    exact ⟨rfl, below_next' (below_alloc (Below.refl _ _) _) h⟩)

theorem r7_what (x : Ins) (hx : x.ok) : ∃ v, (wOk x = true → v = waW x) ∧ ∀ w, Calls Try.prog 32 #[iV x] w (Gives (.tuple #[whV v, .bool (wOk x)]) w) := by
  obtain ⟨⟨o1, o2⟩, _⟩ := id hx
  cases l1 : decide (10 < x.dst)
  rotate_left 1
  · have e : wOk x = false := by unfold wOk; rw [l1]; rfl
    exact ⟨Wh.zero, (fun h => by rw [e] at h; cases h), fun w => by rw [e]; exact r7_what_out x (Or.inl l1) w⟩
  cases l2 : decide (10 < x.src)
  rotate_left 1
  · have e : wOk x = false := by unfold wOk; rw [l1, l2]; rfl
    exact ⟨Wh.zero, (fun h => by rw [e] at h; cases h), fun w => by rw [e]; exact r7_what_out x (Or.inr ⟨l1, l2⟩) w⟩
  have K := fun w g hg => r7_in_new others x.op (by decide) w g hg
  have e0 : ∀ (b : Bool), inB others x.op = b → wOk x = if b then otOk x else (if x.op % 8 == 4 || x.op % 8 == 7 then arOk x else if x.op % 8 == 5 || x.op % 8 == 6 then brOk x else meOk x) := fun b h => by
    unfold wOk
    rw [l1, l2, h]
    rfl
  have e1 : ∀ (b : Bool), inB others x.op = b → waW x = if b then otW x else (if x.op % 8 == 4 || x.op % 8 == 7 then arW x else if x.op % 8 == 5 || x.op % 8 == 6 then brW x else meW x) := fun b h => by
    unfold waW
    rw [l1, l2, h]
    rfl
  cases ho : inB others x.op
  rotate_left 1
  · rw [ho] at K
    rw [e0 _ ho, e1 _ ho, if_pos rfl, if_pos rfl]
    exact ⟨otW x, fun _ => rfl, fun w => r7_what_other x l1 l2 o1 o2 (otW x) (otOk x) w (Lib.hid K) (Lib.hid (r7_other x hx ho))⟩
  rw [ho] at K
  rw [e0 _ ho, e1 _ ho, if_neg Bool.false_ne_true, if_neg Bool.false_ne_true]
  have cls : ∀ k : Int, (x.op % 8 == k) = true → ∀ j : Int, j ≠ k → (x.op % 8 == j) = false := fun k hk j hj => by
    have := beq_iff_eq.mp hk
    rw [this]
    exact beq_false_of_ne (fun h => hj h.symm)
  cases c4 : (x.op % 8 == 4)
  rotate_left 1
  · obtain ⟨v, hv, C⟩ := r7_arith x hx
    rw [Bool.true_or, if_pos rfl, if_pos rfl]
    exact ⟨v, hv, fun w => r7_what_arith4 x l1 l2 o1 o2 v (arOk x) c4 (cls 4 c4 7 (by decide)) (cls 4 c4 5 (by decide)) (cls 4 c4 6 (by decide)) w (Lib.hid K) (Lib.hid C)⟩
  cases c7 : (x.op % 8 == 7)
  rotate_left 1
  · obtain ⟨v, hv, C⟩ := r7_arith x hx
    rw [Bool.or_true, if_pos rfl, if_pos rfl]
    exact ⟨v, hv, fun w => r7_what_arith7 x l1 l2 o1 o2 v (arOk x) c4 c7 (cls 7 c7 5 (by decide)) (cls 7 c7 6 (by decide)) w (Lib.hid K) (Lib.hid C)⟩
  rw [Bool.or_self, if_neg Bool.false_ne_true, if_neg Bool.false_ne_true]
  have J := fun w g hg => r7_in_new jumps (x.op / 16 * 16) (by decide) w g hg
  have C := fun w => r7_only x (x.op / 8 % 2 == 1) true (!(x.op / 8 % 2 == 1)) w
  have eb : brOk x = (inB jumps (x.op / 16 * 16) && onlyB x (x.op / 8 % 2 == 1) true (!(x.op / 8 % 2 == 1))) := rfl
  cases c5 : (x.op % 8 == 5)
  rotate_left 1
  · rw [Bool.true_or, if_pos rfl, if_pos rfl, eb]
    refine ⟨brW x, fun _ => rfl, fun w => ?_⟩
    cases hj : inB jumps (x.op / 16 * 16)
    · rw [hj] at J
      exact r7_what_branch5_no x l1 l2 o1 o2 true c4 c7 c5 (cls 5 c5 6 (by decide)) _ _ _ rfl rfl rfl w (Lib.hid K) (Lib.hid J)
    · rw [hj] at J
      exact r7_what_branch5_yes x l1 l2 o1 o2 _ c4 c7 c5 (cls 5 c5 6 (by decide)) _ _ _ rfl rfl rfl w (Lib.hid K) (Lib.hid J) (Lib.hid C)
  cases c6 : (x.op % 8 == 6)
  rotate_left 1
  · rw [Bool.or_true, if_pos rfl, if_pos rfl, eb]
    refine ⟨brW x, fun _ => rfl, fun w => ?_⟩
    cases hj : inB jumps (x.op / 16 * 16)
    · rw [hj] at J
      exact r7_what_branch6_no x l1 l2 o1 o2 true c4 c7 c5 c6 _ _ _ rfl rfl rfl w (Lib.hid K) (Lib.hid J)
    · rw [hj] at J
      exact r7_what_branch6_yes x l1 l2 o1 o2 _ c4 c7 c5 c6 _ _ _ rfl rfl rfl w (Lib.hid K) (Lib.hid J) (Lib.hid C)
  rw [Bool.or_self, if_neg Bool.false_ne_true, if_neg Bool.false_ne_true]
  exact ⟨meW x, fun _ => rfl, fun w => r7_what_memory x l1 l2 o1 o2 (meW x) (meOk x) c4 c7 c5 c6 w (Lib.hid K) (Lib.hid (r7_memory x))⟩

/-- What an instruction does, and whether it is one. -/
theorem r7_What (x : Ins) (hx : x.ok) (w : World) : Calls Try.prog 13 #[iV x] w (Gives (.tuple #[whV (wOf x), .bool (wOk x)]) w) := by
  obtain ⟨v, hv, C⟩ := r7_what x hx
  unfold wOf
  cases h : wOk x
  · rw [h] at C
    exact r7_What_no x v w (Lib.hid C)
  · rw [h] at C
    rw [if_pos rfl, ← hv h]
    exact r7_What_yes x v w (Lib.hid C)

end Go.Proofs.Ytplndcjmbgkcjaa
