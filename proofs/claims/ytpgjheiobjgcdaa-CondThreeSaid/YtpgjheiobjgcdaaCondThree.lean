/-
  P3.1, P3.3: what is not more goes on from number to number, signed or not.
  Conditions: none beyond the row's own.
-/
import Derived.Test.YtpgjheiobjgcdaaCondShown
import Derived.Test.YtpgjheiobjgcdaaCondMath
namespace Go.Proofs.Ytpgjheiobjgcdaa
open Go.RowKit
set_option linter.unusedVariables false

set_option maxHeartbeats 1000000 in
theorem three_go (op : Int) (wide signed : Bool) (a b c : Int) (w : World) (ha : 0 ≤ a ∧ a ≤ 18446744073709551615) (hb : 0 ≤ b ∧ b ≤ 18446744073709551615) (hc : 0 ≤ c ∧ c ≤ 18446744073709551615)
    (ho : (signed = false ∧ op = 176) ∨ (signed = true ∧ op = 208)) (x y z : Bool) (hx : condV op wide a b = x) (hy : condV op wide b c = y) (hz : condV op wide a c = z)
    (h : x = false ∨ (x = true ∧ y = false) ∨ (x = true ∧ y = true ∧ z = true)) :
    Calls Try.prog 6 #[.bool wide, .bool signed, .int .u64 a, .int .u64 b, .int .u64 c] w (Fine w) := by
  have hk : condE op = 0 := by rcases ho with ⟨_, rfl⟩ | ⟨_, rfl⟩ <;> rfl
  have h1 := Lib.hid fun w => is_to w ha hb hx hk
  have h2 := Lib.hid fun w => is_to w hb hc hy hk
  have h3 := Lib.hid fun w => is_to w ha hc hz hk
  clear hx hy hz hk ha hb hc
  rcases ho with ⟨rfl, rfl⟩ | ⟨rfl, rfl⟩
  all_goals
    rcases h with rfl | ⟨rfl, rfl⟩ | ⟨rfl, rfl, rfl⟩
    all_goals
      go_enter Try.func6, Try.ntmps6
      go_wp2_with fail
      refine (cond_shown _).mono ?_; rintro e w0 ⟨rfl, b0⟩
      go_wp2_with fail
      refine (h1.out _).mono ?_; rintro e w1 ⟨rfl, b1⟩
      go_wp2_with fail
      refine (h2.out _).mono ?_; rintro e w2 ⟨rfl, b2⟩
      go_wp2_with fail
      refine (h3.out _).mono ?_; rintro e w3 ⟨rfl, b3⟩
      go_wp2_with fail
      go_ret
      exact ⟨rfl, below_next' (below_next' (below_next' b0 b1) b2) b3⟩

theorem three_walk (wide signed : Bool) (a b c : Int) (w : World) (ha : 0 ≤ a ∧ a ≤ 18446744073709551615) (hb : 0 ≤ b ∧ b ≤ 18446744073709551615) (hc : 0 ≤ c ∧ c ≤ 18446744073709551615) :
    Calls Try.prog 6 #[.bool wide, .bool signed, .int .u64 a, .int .u64 b, .int .u64 c] w (Fine w) := by
  have key : ∀ op, (signed = false ∧ op = 176) ∨ (signed = true ∧ op = 208) → (condV op wide a b = true → condV op wide b c = true → condV op wide a c = true) →
      Calls Try.prog 6 #[.bool wide, .bool signed, .int .u64 a, .int .u64 b, .int .u64 c] w (Fine w) := by
    intro op ho h
    refine three_go op wide signed a b c w ha hb hc ho _ _ _ rfl rfl rfl ?_
    cases hx : condV op wide a b
    · exact .inl rfl
    · cases hy : condV op wide b c
      · exact .inr (.inl ⟨rfl, rfl⟩)
      · exact .inr (.inr ⟨rfl, rfl, h hx hy⟩)
  cases signed
  · exact key 176 (.inl ⟨rfl, rfl⟩) (le_on wide a b c)
  · exact key 208 (.inr ⟨rfl, rfl⟩) (sle_on wide a b c)

end Go.Proofs.Ytpgjheiobjgcdaa
