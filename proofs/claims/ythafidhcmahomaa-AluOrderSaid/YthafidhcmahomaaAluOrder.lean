/-
  P2.2: of Add, Mul, Or, And and Xor the order of numbers does not count.
  Conditions: none beyond the row's own.
-/
import Derived.Test.YthafidhcmahomaaAluShown
namespace Go.Proofs.Ythafidhcmahomaa
open Go.RowKit
set_option linter.unusedVariables false

set_option maxHeartbeats 1000000 in
theorem order_go (op which : Int) (wide : Bool) (a b c : Int) (w : World) (ha : 0 ≤ a ∧ a ≤ 18446744073709551615) (hb : 0 ≤ b ∧ b ≤ 18446744073709551615) (hc : 0 ≤ c ∧ c ≤ 18446744073709551615) (hw : 0 ≤ which)
    (hop : (which % 5 = 0 ∧ op = 0) ∨ (which % 5 = 1 ∧ op = 32) ∨ (which % 5 = 2 ∧ op = 64) ∨ (which % 5 = 3 ∧ op = 80) ∨ (which % 5 = 4 ∧ op = 160))
    (hl : aluV wide op 0 a b = aluV wide op 0 b a ∧ aluV wide op 0 (aluV wide op 0 a b) c = aluV wide op 0 a (aluV wide op 0 b c)) :
    Calls Try.prog 8 #[.int .u8 which, .bool wide, .int .u64 a, .int .u64 b, .int .u64 c] w fun e w' => e = .returned (.bool true) ∧ Below w.heap.size w w' := by
  obtain ⟨l1, l2⟩ := hl
  generalize hx : aluV wide op 0 a b = x at l1 l2
  generalize hq : aluV wide op 0 b c = q at l2
  generalize hp : aluV wide op 0 x c = p at l2
  have x0 : 0 ≤ x := by rw [← hx]; exact (aluV_range _ _ _ _ _).1
  have q0 : 0 ≤ q := by rw [← hq]; exact (aluV_range _ _ _ _ _).1
  rcases hop with ⟨e, rfl⟩ | ⟨e, rfl⟩ | ⟨e, rfl⟩ | ⟨e, rfl⟩ | ⟨e, rfl⟩
  all_goals
    have h1 := Lib.hid fun w => did_to w ha.1 hb.1 hx (k := 0) (by cases wide <;> rfl)
    have h2 := Lib.hid fun w => did_to w hb.1 ha.1 l1.symm (k := 0) (by cases wide <;> rfl)
    have h3 := Lib.hid fun w => did_to w x0 hc.1 hp (k := 0) (by cases wide <;> rfl)
    have h4 := Lib.hid fun w => did_to w hb.1 hc.1 hq (k := 0) (by cases wide <;> rfl)
    have h5 := Lib.hid fun w => did_to w ha.1 q0 l2.symm (k := 0) (by cases wide <;> rfl)
    clear hx hq hp l1 l2
    have hcell : ∀ (n k : Nat), ((w.drewN n).alloc (.cells #[.int .u8 0, .int .u8 32, .int .u8 64, .int .u8 80, .int .u8 160] 5)).cell? ⟨w.heap.size, k, none⟩ = (#[Value.int .u8 0, .int .u8 32, .int .u8 64, .int .u8 80, .int .u8 160])[k]? :=
      fun n k => World.cell?_alloc_new (w.drewN n) _ _ k
    go_enter Try.func8, Try.ntmps8
    go_wp2_with fail
    refine (shown_true _).mono ?_; rintro e w' ⟨rfl, n0, rfl⟩
    go_wp2_with fail
    refine (h1.out _).mono ?_; rintro e w' ⟨rfl, n1, rfl⟩
    go_wp2_with fail
    refine (h2.out _).mono ?_; rintro e w' ⟨rfl, n2, rfl⟩
    go_wp2_with fail
    refine (h3.out _).mono ?_; rintro e w' ⟨rfl, n3, rfl⟩
    go_wp2_with fail
    refine (h4.out _).mono ?_; rintro e w' ⟨rfl, n4, rfl⟩
    go_wp2_with fail
    refine (h5.out _).mono ?_; rintro e w' ⟨rfl, n5, rfl⟩
    go_wp2_with fail
    go_ret
    exact ⟨rfl, below_drewN ((below_drewN (Below.refl _ _) _).alloc (Nat.le_refl _) _) _⟩

theorem order_walk (which : Int) (wide : Bool) (a b c : Int) (w : World) (ha : 0 ≤ a ∧ a ≤ 18446744073709551615) (hb : 0 ≤ b ∧ b ≤ 18446744073709551615) (hc : 0 ≤ c ∧ c ≤ 18446744073709551615) (hw : 0 ≤ which) :
    Calls Try.prog 8 #[.int .u8 which, .bool wide, .int .u64 a, .int .u64 b, .int .u64 c] w fun e w' => e = .returned (.bool true) ∧ Below w.heap.size w w' := by
  have h5 : which % 5 = 0 ∨ which % 5 = 1 ∨ which % 5 = 2 ∨ which % 5 = 3 ∨ which % 5 = 4 := by omega
  rcases h5 with h | h | h | h | h
  · exact order_go 0 which wide a b c w ha hb hc hw (.inl ⟨h, rfl⟩) (add_law wide a b c)
  · exact order_go 32 which wide a b c w ha hb hc hw (.inr (.inl ⟨h, rfl⟩)) (mul_law wide a b c)
  · exact order_go 64 which wide a b c w ha hb hc hw (.inr (.inr (.inl ⟨h, rfl⟩))) (or_law wide a b c)
  · exact order_go 80 which wide a b c w ha hb hc hw (.inr (.inr (.inr (.inl ⟨h, rfl⟩)))) (and_law wide a b c)
  · exact order_go 160 which wide a b c w ha hb hc hw (.inr (.inr (.inr (.inr ⟨h, rfl⟩)))) (xor_law wide a b c)

end Go.Proofs.Ythafidhcmahomaa
