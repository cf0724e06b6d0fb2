/-
  What alu.Do makes of two numbers: aluV, and the error aluE.
  Conditions: the numbers fit their kinds.
-/
import Derived.Test.YthafidhcmahomaaAluMade
import Derived.Test.YthafidhcmahomaaAluFits
namespace Go.Proofs.Ythafidhcmahomaa
open Go.RowKit
set_option linter.unusedVariables false

/-- One number, and draws. -/
def Made (v : Int) (w : World) (e : Ending) (w' : World) : Prop := e = .returned (.int .u64 v) ∧ ∃ n, w' = w.drewN n
theorem made_of {P : Program} {f : FuncId} {args : Array Value} {w : World} {v : Int} (h : Calls P f args w fun e w' => e = .returned (.int .u64 v) ∧ w = w') : Calls P f args w (Made v w) :=
  h.mono fun _ _ ⟨he, hw⟩ => ⟨he, 0, hw.symm⟩

theorem made_64 (op off x y : Int) (w : World) (hf : aluFits op true off = true) (hx : 0 ≤ x) (hx' : x ≤ 18446744073709551615) (hy : 0 ≤ y) (hy' : y ≤ 18446744073709551615) :
    Calls Try.prog 18 #[.int .u8 op, .int .i64 64, .int .i64 off, .int .u64 x, .int .u64 y] w (Made (aluZ true op off x y % 18446744073709551616) w) := by
  rcases fits_ops hf with ⟨rfl, rfl⟩ | ⟨rfl, rfl⟩ | ⟨rfl, rfl⟩ | ⟨rfl, rfl⟩ | ⟨rfl, rfl⟩ | ⟨rfl, rfl⟩ | ⟨rfl, rfl⟩ | ⟨rfl, rfl⟩ | ⟨rfl, rfl⟩ | ⟨rfl, rfl⟩ | ⟨rfl, _⟩ | ⟨rfl, rfl | rfl⟩ | ⟨rfl, rfl | rfl⟩
  · exact made_of (made_add_64 x y w hx hx' hy hy')
  · exact made_of (made_sub_64 x y w hx hx' hy hy')
  · exact made_of (made_mul_64 x y w hx hx' hy hy')
  · exact made_of (made_or_64 x y w hx hx' hy hy')
  · exact made_of (made_and_64 x y w hx hx' hy hy')
  · exact made_of (made_xor_64 x y w hx hx' hy hy')
  · exact made_of (made_lsh_64 x y w hx hx' hy hy')
  · exact made_of (made_rsh_64 x y w hx hx' hy hy')
  · exact made_of (made_arsh_64 x y w hx hx' hy hy')
  · exact made_of (made_neg_64 x y w hx hx' hy hy')
  · exact made_of (made_mov_64 x y off w hx hx' hy hy')
  · exact made_div0_64 x y w hx hx' hy hy'
  · exact made_div1_64 x y w hx hx' hy hy'
  · exact made_mod0_64 x y w hx hx' hy hy'
  · exact made_mod1_64 x y w hx hx' hy hy'

theorem made_32 (op off x y : Int) (w : World) (hf : aluFits op false off = true) (hx : 0 ≤ x) (hx' : x ≤ 4294967295) (hy : 0 ≤ y) (hy' : y ≤ 4294967295) :
    Calls Try.prog 18 #[.int .u8 op, .int .i64 32, .int .i64 off, .int .u64 x, .int .u64 y] w (Made (aluZ false op off x y % 18446744073709551616) w) := by
  rcases fits_ops hf with ⟨rfl, rfl⟩ | ⟨rfl, rfl⟩ | ⟨rfl, rfl⟩ | ⟨rfl, rfl⟩ | ⟨rfl, rfl⟩ | ⟨rfl, rfl⟩ | ⟨rfl, rfl⟩ | ⟨rfl, rfl⟩ | ⟨rfl, rfl⟩ | ⟨rfl, rfl⟩ | ⟨rfl, _⟩ | ⟨rfl, rfl | rfl⟩ | ⟨rfl, rfl | rfl⟩
  · exact made_of (made_add_32 x y w hx hx' hy hy')
  · exact made_of (made_sub_32 x y w hx hx' hy hy')
  · exact made_of (made_mul_32 x y w hx hx' hy hy')
  · exact made_of (made_or_32 x y w hx hx' hy hy')
  · exact made_of (made_and_32 x y w hx hx' hy hy')
  · exact made_of (made_xor_32 x y w hx hx' hy hy')
  · exact made_of (made_lsh_32 x y w hx hx' hy hy')
  · exact made_of (made_rsh_32 x y w hx hx' hy hy')
  · exact made_of (made_arsh_32 x y w hx hx' hy hy')
  · exact made_of (made_neg_32 x y w hx hx' hy hy')
  · exact made_of (made_mov_32 x y off w hx hx' hy hy')
  · exact made_div0_32 x y w hx hx' hy hy'
  · exact made_div1_32 x y w hx hx' hy hy'
  · exact made_mod0_32 x y w hx hx' hy hy'
  · exact made_mod1_32 x y w hx hx' hy hy'

/-- A number and an error's number, and draws. -/
def Did (v k : Int) (w : World) (e : Ending) (w' : World) : Prop := e = .returned (.tuple #[.int .u64 v, .int .i64 k]) ∧ ∃ n, w' = w.drewN n

theorem did_none (op off a b : Int) (wide : Bool) (w : World) (hf : aluFits op wide off = false) :
    Calls Try.prog 10 #[.int .u8 op, .bool wide, .int .i16 off, .int .u64 a, .int .u64 b] w (Did (aluV wide op off a b) (aluE wide op off) w) := by
  have hc : ∀ w, Calls Try.prog 17 #[.int .u8 op, .bool wide, .int .i16 off] w fun e w' => e = .returned (.bool false) ∧ w = w' := fun w => by have h := fits_any op off wide w; rw [hf] at h; exact h
  have e1 : aluV wide op off a b = 0 := by unfold aluV; rw [hf]; rfl
  have e2 : aluE wide op off = 1 := by unfold aluE; rw [hf]; rfl
  rw [e1, e2]
  have HC := Lib.hid hc
  clear hc e1 e2 hf
  go_enter Try.func10, Try.ntmps10
  go_wp2_with (go_at_call 17; refine (HC.out _).mono ?_; rintro e w' ⟨rfl, rfl⟩)
  go_ret2
  exact ⟨rfl, 0, rfl⟩

set_option maxHeartbeats 1000000 in
theorem did_64 (op off a b : Int) (w : World) (ha : 0 ≤ a) (hb : 0 ≤ b) (hf : aluFits op true off = true) :
    Calls Try.prog 10 #[.int .u8 op, .bool true, .int .i16 off, .int .u64 a, .int .u64 b] w (Did (aluV true op off a b) (aluE true op off) w) := by
  have hc : ∀ w, Calls Try.prog 17 #[.int .u8 op, .bool true, .int .i16 off] w fun e w' => e = .returned (.bool true) ∧ w = w' := fun w => by have h := fits_any op off true w; rw [hf] at h; exact h
  have hm : ∀ w, Calls Try.prog 18 #[.int .u8 op, .int .i64 64, .int .i64 off, .int .u64 (a % 18446744073709551616), .int .u64 (b % 18446744073709551616)] w
      (Made (aluZ true op off (a % 18446744073709551616) (b % 18446744073709551616) % 18446744073709551616) w) := fun w => made_64 _ _ _ _ w hf (by omega) (by omega) (by omega) (by omega)
  have e1 : aluV true op off a b = aluZ true op off (a % 18446744073709551616) (b % 18446744073709551616) % 18446744073709551616 := by
    unfold aluV; rw [hf, if_pos rfl]; rfl
  have e2 : aluE true op off = 0 := by unfold aluE; rw [hf]; rfl
  rw [e1, e2]
  obtain ⟨ho, ho'⟩ := fits_off hf
  clear e1 e2 hf
  generalize aluZ _ op off _ _ = z at *
  have HC := Lib.hid hc
  have HM := Lib.hid hm
  clear hc hm
  go_enter Try.func10, Try.ntmps10
  go_wp2_with (first | (go_at_call 17; refine (HC.out _).mono ?_; rintro e w' ⟨rfl, rfl⟩) | (go_at_call 19; refine (cut_64 _ _ (by omega)).mono ?_; rintro e w' ⟨rfl, rfl⟩) | (go_at_call 18; refine (HM.out _).mono ?_; rintro e w' ⟨rfl, n, rfl⟩))
  go_ret2
  exact ⟨rfl, _, rfl⟩

set_option maxHeartbeats 1000000 in
theorem did_32 (op off a b : Int) (w : World) (ha : 0 ≤ a) (hb : 0 ≤ b) (hf : aluFits op false off = true) :
    Calls Try.prog 10 #[.int .u8 op, .bool false, .int .i16 off, .int .u64 a, .int .u64 b] w (Did (aluV false op off a b) (aluE false op off) w) := by
  have hc : ∀ w, Calls Try.prog 17 #[.int .u8 op, .bool false, .int .i16 off] w fun e w' => e = .returned (.bool true) ∧ w = w' := fun w => by have h := fits_any op off false w; rw [hf] at h; exact h
  have hm : ∀ w, Calls Try.prog 18 #[.int .u8 op, .int .i64 32, .int .i64 off, .int .u64 (a % 4294967296), .int .u64 (b % 4294967296)] w
      (Made (aluZ false op off (a % 4294967296) (b % 4294967296) % 18446744073709551616) w) := fun w => made_32 _ _ _ _ w hf (by omega) (by omega) (by omega) (by omega)
  have e1 : aluV false op off a b = aluZ false op off (a % 4294967296) (b % 4294967296) % 4294967296 := by
    unfold aluV; rw [hf, if_pos rfl]; rfl
  have e2 : aluE false op off = 0 := by unfold aluE; rw [hf]; rfl
  rw [e1, e2]
  obtain ⟨ho, ho'⟩ := fits_off hf
  clear e1 e2 hf
  generalize aluZ _ op off _ _ = z at *
  have HC := Lib.hid hc
  have HM := Lib.hid hm
  clear hc hm
  go_enter Try.func10, Try.ntmps10
  go_wp2_with (first | (go_at_call 17; refine (HC.out _).mono ?_; rintro e w' ⟨rfl, rfl⟩) | (go_at_call 19; refine (cut_32 _ _ (by omega)).mono ?_; rintro e w' ⟨rfl, rfl⟩) | (go_at_call 18; refine (HM.out _).mono ?_; rintro e w' ⟨rfl, n, rfl⟩))
  go_ret2
  exact ⟨rfl, _, rfl⟩

/-- Do, of whatever op and numbers. -/
theorem did_any (op off a b : Int) (wide : Bool) (w : World) (ha : 0 ≤ a) (hb : 0 ≤ b) :
    Calls Try.prog 10 #[.int .u8 op, .bool wide, .int .i16 off, .int .u64 a, .int .u64 b] w (Did (aluV wide op off a b) (aluE wide op off) w) := by
  cases hf : aluFits op wide off
  · exact did_none op off a b wide w hf
  · cases wide
    · exact did_32 op off a b w ha hb hf
    · exact did_64 op off a b w ha hb hf

end Go.Proofs.Ythafidhcmahomaa
