/-
  P2.1, P2.2: bytes that are turned about twice are as they were; what is taken off what was added is as it was.
  Conditions: none beyond the row's own.
-/
import Derived.Test.YthafidhcmahomaaAluSwap
namespace Go.Proofs.Ythafidhcmahomaa
open Go.RowKit
set_option linter.unusedVariables false

set_option maxRecDepth 100000 in
set_option maxHeartbeats 1000000 in
theorem turns_go (k : Int) (a b which : Int) (w : World) (ha : 0 ≤ a ∧ a ≤ 18446744073709551615) (hb : 0 ≤ b ∧ b ≤ 18446744073709551615) (hw : 0 ≤ which)
    (hk : (which % 3 = 0 ∧ k = 16) ∨ (which % 3 = 1 ∧ k = 32) ∨ (which % 3 = 2 ∧ k = 64)) (hz : swapW k (swapW k a) = a % 2 ^ k.toNat) :
    Calls Try.prog 7 #[.int .u64 a, .int .u64 b, .int .u8 which] w fun e w' => e = .returned (.bool true) ∧ Below w.heap.size w w' := by
  have hr := swapW_range k a
  obtain ⟨l1, l2⟩ := add_sub a b ha.1 ha.2
  generalize hx : swapW k a = x at hz hr
  generalize hz2 : a % 2 ^ k.toNat = z at hz
  generalize hp : aluV true 0 0 a b = p at l1 l2
  generalize hn : aluV true 128 0 b 0 = n at l2
  have p0 : 0 ≤ p := by rw [← hp]; exact (aluV_range _ _ _ _ _).1
  have n0 : 0 ≤ n := by rw [← hn]; exact (aluV_range _ _ _ _ _).1
  have hk2 : k = 16 ∨ k = 32 ∨ k = 64 := by omega
  have s1 : ∀ w, Calls Try.prog 13 #[.bool true, .int .i64 k, .int .u64 a] w (Swapped x 0 w) := fun w => by rw [← hx]; exact swap_yes k a w ha.1 ha.2 hk2
  have s2 : ∀ w, Calls Try.prog 13 #[.bool true, .int .i64 k, .int .u64 x] w (Swapped z 0 w) := fun w => by rw [← hz]; exact swap_yes k x w hr.1 hr.2 hk2
  have s3 : ∀ w, Calls Try.prog 13 #[.bool false, .int .i64 k, .int .u64 a] w (Swapped z 0 w) := fun w => by rw [← hz2]; exact swap_cut k a w ha.1 ha.2 hk2
  have h4 := Lib.hid fun w => did_to w ha.1 hb.1 hp (k := 0) rfl
  have h5 := Lib.hid fun w => did_to w p0 hb.1 l1 (k := 0) rfl
  have h6 := Lib.hid fun w => did_to w hb.1 (Int.le_refl 0) hn (k := 0) rfl
  have h7 := Lib.hid fun w => did_to w p0 n0 l2 (k := 0) rfl
  have hcell : ∀ (n k : Nat), ((w.drewN n).alloc (.cells #[.int .i64 16, .int .i64 32, .int .i64 64] 3)).cell? ⟨w.heap.size, k, none⟩ = (#[Value.int .i64 16, .int .i64 32, .int .i64 64])[k]? :=
    fun n k => World.cell?_alloc_new (w.drewN n) _ _ k
  clear hx hz2 hz hp hn l1 l2 hk2
  rcases hk with ⟨e, rfl⟩ | ⟨e, rfl⟩ | ⟨e, rfl⟩
  all_goals
    have h1 := Lib.hid s1
    have h2 := Lib.hid s2
    have h3 := Lib.hid s3
    clear s1 s2 s3
    go_enter Try.func7, Try.ntmps7
    go_wp2_with fail
    refine (shown_true _).mono ?_; rintro e w' ⟨rfl, n0, rfl⟩
    go_wp2_with fail
    refine (h1.out _).mono ?_; rintro e w' ⟨rfl, rfl⟩
    go_wp2_with fail
    refine (h2.out _).mono ?_; rintro e w' ⟨rfl, rfl⟩
    go_wp2_with fail
    refine (h3.out _).mono ?_; rintro e w' ⟨rfl, rfl⟩
    go_wp2_with fail
    refine (h4.out _).mono ?_; rintro e w' ⟨rfl, n4, rfl⟩
    go_wp2_with fail
    refine (h5.out _).mono ?_; rintro e w' ⟨rfl, n5, rfl⟩
    go_wp2_with fail
    refine (h6.out _).mono ?_; rintro e w' ⟨rfl, n6, rfl⟩
    go_wp2_with fail
    refine (h7.out _).mono ?_; rintro e w' ⟨rfl, n7, rfl⟩
    go_wp2_with fail
    go_ret
    exact ⟨rfl, below_drewN ((below_drewN (Below.refl _ _) _).alloc (Nat.le_refl _) _) _⟩

theorem turns_walk (a b which : Int) (w : World) (ha : 0 ≤ a ∧ a ≤ 18446744073709551615) (hb : 0 ≤ b ∧ b ≤ 18446744073709551615) (hw : 0 ≤ which) :
    Calls Try.prog 7 #[.int .u64 a, .int .u64 b, .int .u8 which] w fun e w' => e = .returned (.bool true) ∧ Below w.heap.size w w' := by
  obtain ⟨t1, t2, t3⟩ := swap_twice a ha.1 ha.2
  have h3 : which % 3 = 0 ∨ which % 3 = 1 ∨ which % 3 = 2 := by omega
  rcases h3 with h | h | h
  · exact turns_go 16 a b which w ha hb hw (.inl ⟨h, rfl⟩) t1
  · exact turns_go 32 a b which w ha hb hw (.inr (.inl ⟨h, rfl⟩)) t2
  · exact turns_go 64 a b which w ha hb hw (.inr (.inr ⟨h, rfl⟩)) (t3.trans (Int.emod_eq_of_lt ha.1 (by show a < 18446744073709551616; omega)).symm)

end Go.Proofs.Ythafidhcmahomaa
