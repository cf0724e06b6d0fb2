/-
  cond.Is, of whatever condition and numbers: condV, and the error condE.
  Conditions: the numbers fit their kinds.
-/
import Derived.Test.YtpnobkaeoiaelaaCondIs32
namespace Go.Proofs.Ytpnobkaeoiaelaa
open Go.RowKit
set_option linter.unusedVariables false

theorem is_plain (op a b : Int) (wide : Bool) (w : World) (ha : 0 ≤ a ∧ a ≤ 18446744073709551615) (hb : 0 ≤ b ∧ b ≤ 18446744073709551615)
    (ho : op = 0 ∨ op = 16 ∨ op = 80 ∨ op = 64 ∨ op = 32 ∨ op = 48 ∨ op = 96 ∨ op = 112) :
    Calls Try.prog 46 #[.int .u8 op, .bool wide, .int .u64 a, .int .u64 b] w (Told (condV op wide a b) 0 w) := by
  unfold condV
  cases wide
  · show Calls _ _ _ _ (Told (condXY false op (a % 4294967296) (b % 4294967296)) 0 w)
    by_cases h : a % 4294967296 = b % 4294967296
    · exact is_32_same op a b w ha hb h ho
    · exact is_32_not op a b w ha hb h ho
  · have ea : a % aM true = a := Int.emod_eq_of_lt ha.1 (by show a < 18446744073709551616; omega)
    have eb : b % aM true = b := Int.emod_eq_of_lt hb.1 (by show b < 18446744073709551616; omega)
    rw [ea, eb]
    by_cases h : a = b
    · exact is_64_same op a b w ha hb h ho
    · exact is_64_not op a b w ha hb h ho

theorem turned_to {op k : Int} (h : pairOf turnPairs op = (k, true)) (w : World) :
    Calls Try.prog 48 #[.int .u8 op] w fun e w' => e = .returned (.tuple #[.int .u8 k, .bool true]) ∧ Below w.heap.size w w' := by
  have h1 := turned_any op w
  unfold Paired at h1
  rw [h] at h1
  exact h1

set_option maxHeartbeats 1000000 in
theorem is_less_64 (op k a b : Int) (w : World) (ha : 0 ≤ a ∧ a ≤ 18446744073709551615) (hb : 0 ≤ b ∧ b ≤ 18446744073709551615)
    (ho : (op = 160 ∧ k = 32) ∨ (op = 176 ∧ k = 48) ∨ (op = 192 ∧ k = 96) ∨ (op = 208 ∧ k = 112)) :
    Calls Try.prog 46 #[.int .u8 op, .bool true, .int .u64 a, .int .u64 b] w (Told (condV k true b a) 0 w) := by
  have hi := Lib.hid fun w => is_plain k b a true w hb ha (by omega)
  obtain ⟨a1, a2⟩ := ha
  obtain ⟨b1, b2⟩ := hb
  have hs1 := Lib.hid fun w => sign_says a 64 w a1 a2
  have hs2 := Lib.hid fun w => sign_says b 64 w b1 b2
  generalize condV k true b a = v at *
  have ht : ∀ w, Calls Try.prog 48 #[.int .u8 op] w fun e w' => e = .returned (.tuple #[.int .u8 k, .bool true]) ∧ Below w.heap.size w w' := fun w => turned_to (by rcases ho with ⟨rfl, rfl⟩ | ⟨rfl, rfl⟩ | ⟨rfl, rfl⟩ | ⟨rfl, rfl⟩ <;> decide) w
  have HT := Lib.hid ht
  clear ht
  rcases ho with ⟨rfl, rfl⟩ | ⟨rfl, rfl⟩ | ⟨rfl, rfl⟩ | ⟨rfl, rfl⟩
  all_goals
    go_enter Try.func46, Try.ntmps46
    go_wp2_with fail
    refine (hs1.out _).mono ?_; rintro e w' ⟨rfl, rfl⟩
    go_wp2_with fail
    refine (hs2.out _).mono ?_; rintro e w' ⟨rfl, rfl⟩
    go_wp2_with fail
    refine (HT.out _).mono ?_; rintro e w1 ⟨rfl, hb1⟩
    go_wp2_with fail
    refine (hi.out _).mono ?_; rintro e w2 ⟨rfl, hb2⟩
    go_wp2_with fail
    go_ret2
    exact ⟨rfl, below_next' hb1 hb2⟩

set_option maxHeartbeats 1000000 in
theorem is_less_32 (op k a b : Int) (w : World) (ha : 0 ≤ a ∧ a ≤ 18446744073709551615) (hb : 0 ≤ b ∧ b ≤ 18446744073709551615)
    (ho : (op = 160 ∧ k = 32) ∨ (op = 176 ∧ k = 48) ∨ (op = 192 ∧ k = 96) ∨ (op = 208 ∧ k = 112)) :
    Calls Try.prog 46 #[.int .u8 op, .bool false, .int .u64 a, .int .u64 b] w (Told (condV k false b a) 0 w) := by
  have hi := Lib.hid fun w => is_plain k b a false w hb ha (by omega)
  obtain ⟨a1, a2⟩ := ha
  obtain ⟨b1, b2⟩ := hb
  have f1 : IntKind.u32.wrap a = a % 4294967296 := IntKind.wrap_u32 _
  have f2 : IntKind.u32.wrap b = b % 4294967296 := IntKind.wrap_u32 _
  have hs1 := Lib.hid fun w => sign_says (a % 4294967296) 32 w (by omega) (by omega)
  have hs2 := Lib.hid fun w => sign_says (b % 4294967296) 32 w (by omega) (by omega)
  generalize condV k false b a = v at *
  have ht : ∀ w, Calls Try.prog 48 #[.int .u8 op] w fun e w' => e = .returned (.tuple #[.int .u8 k, .bool true]) ∧ Below w.heap.size w w' := fun w => turned_to (by rcases ho with ⟨rfl, rfl⟩ | ⟨rfl, rfl⟩ | ⟨rfl, rfl⟩ | ⟨rfl, rfl⟩ <;> decide) w
  have HT := Lib.hid ht
  clear ht
  rcases ho with ⟨rfl, rfl⟩ | ⟨rfl, rfl⟩ | ⟨rfl, rfl⟩ | ⟨rfl, rfl⟩
  all_goals
    go_enter Try.func46, Try.ntmps46
    go_wp2_with fail
    refine (hs1.out _).mono ?_; rintro e w' ⟨rfl, rfl⟩
    go_wp2_with fail
    refine (hs2.out _).mono ?_; rintro e w' ⟨rfl, rfl⟩
    go_wp2_with fail
    refine (HT.out _).mono ?_; rintro e w1 ⟨rfl, hb1⟩
    go_wp2_with fail
    refine (hi.out _).mono ?_; rintro e w2 ⟨rfl, hb2⟩
    go_wp2_with fail
    go_ret2
    exact ⟨rfl, below_next' hb1 hb2⟩

set_option maxHeartbeats 1000000 in
theorem is_none_64 (op a b : Int) (w : World) (ha : 0 ≤ a ∧ a ≤ 18446744073709551615) (hb : 0 ≤ b ∧ b ≤ 18446744073709551615) (ho : condFits op = false) :
    Calls Try.prog 46 #[.int .u8 op, .bool true, .int .u64 a, .int .u64 b] w (Told false 1 w) := by
  obtain ⟨h1, h2, h3, h4, h5, h6, h7, h8, h9, h10, h11, h12⟩ := fits_not ho
  have k1 : (op == 0) = false := beq_eq_false_iff_ne.mpr h1
  have k2 : (op == 16) = false := beq_eq_false_iff_ne.mpr h2
  have k3 : (op == 80) = false := beq_eq_false_iff_ne.mpr h3
  have k4 : (op == 64) = false := beq_eq_false_iff_ne.mpr h4
  have k5 : (op == 32) = false := beq_eq_false_iff_ne.mpr h5
  have k6 : (op == 48) = false := beq_eq_false_iff_ne.mpr h6
  have k7 : (op == 160) = false := beq_eq_false_iff_ne.mpr h7
  have k8 : (op == 176) = false := beq_eq_false_iff_ne.mpr h8
  have k9 : (op == 96) = false := beq_eq_false_iff_ne.mpr h9
  have k10 : (op == 112) = false := beq_eq_false_iff_ne.mpr h10
  have k11 : (op == 192) = false := beq_eq_false_iff_ne.mpr h11
  have k12 : (op == 208) = false := beq_eq_false_iff_ne.mpr h12
  clear h1 h2 h3 h4 h5 h6 h7 h8 h9 h10 h11 h12 ho
  obtain ⟨a1, a2⟩ := ha
  obtain ⟨b1, b2⟩ := hb
  have hs1 := Lib.hid fun w => sign_says a 64 w a1 a2
  have hs2 := Lib.hid fun w => sign_says b 64 w b1 b2
  go_enter Try.func46, Try.ntmps46
  go_wp2_with fail
  refine (hs1.out _).mono ?_; rintro e w' ⟨rfl, rfl⟩
  go_wp2_with fail
  refine (hs2.out _).mono ?_; rintro e w' ⟨rfl, rfl⟩
  go_wp2_with fail
  go_ret2
  exact ⟨rfl, Below.refl _ _⟩

set_option maxHeartbeats 1000000 in
theorem is_none_32 (op a b : Int) (w : World) (ha : 0 ≤ a ∧ a ≤ 18446744073709551615) (hb : 0 ≤ b ∧ b ≤ 18446744073709551615) (ho : condFits op = false) :
    Calls Try.prog 46 #[.int .u8 op, .bool false, .int .u64 a, .int .u64 b] w (Told false 1 w) := by
  obtain ⟨h1, h2, h3, h4, h5, h6, h7, h8, h9, h10, h11, h12⟩ := fits_not ho
  have k1 : (op == 0) = false := beq_eq_false_iff_ne.mpr h1
  have k2 : (op == 16) = false := beq_eq_false_iff_ne.mpr h2
  have k3 : (op == 80) = false := beq_eq_false_iff_ne.mpr h3
  have k4 : (op == 64) = false := beq_eq_false_iff_ne.mpr h4
  have k5 : (op == 32) = false := beq_eq_false_iff_ne.mpr h5
  have k6 : (op == 48) = false := beq_eq_false_iff_ne.mpr h6
  have k7 : (op == 160) = false := beq_eq_false_iff_ne.mpr h7
  have k8 : (op == 176) = false := beq_eq_false_iff_ne.mpr h8
  have k9 : (op == 96) = false := beq_eq_false_iff_ne.mpr h9
  have k10 : (op == 112) = false := beq_eq_false_iff_ne.mpr h10
  have k11 : (op == 192) = false := beq_eq_false_iff_ne.mpr h11
  have k12 : (op == 208) = false := beq_eq_false_iff_ne.mpr h12
  clear h1 h2 h3 h4 h5 h6 h7 h8 h9 h10 h11 h12 ho
  obtain ⟨a1, a2⟩ := ha
  obtain ⟨b1, b2⟩ := hb
  have f1 : IntKind.u32.wrap a = a % 4294967296 := IntKind.wrap_u32 _
  have f2 : IntKind.u32.wrap b = b % 4294967296 := IntKind.wrap_u32 _
  have hs1 := Lib.hid fun w => sign_says (a % 4294967296) 32 w (by omega) (by omega)
  have hs2 := Lib.hid fun w => sign_says (b % 4294967296) 32 w (by omega) (by omega)
  go_enter Try.func46, Try.ntmps46
  go_wp2_with fail
  refine (hs1.out _).mono ?_; rintro e w' ⟨rfl, rfl⟩
  go_wp2_with fail
  refine (hs2.out _).mono ?_; rintro e w' ⟨rfl, rfl⟩
  go_wp2_with fail
  go_ret2
  exact ⟨rfl, Below.refl _ _⟩

/-- Is, of whatever op and numbers. -/
theorem is_any (op : Int) (wide : Bool) (a b : Int) (w : World) (ha : 0 ≤ a ∧ a ≤ 18446744073709551615) (hb : 0 ≤ b ∧ b ≤ 18446744073709551615) :
    Calls Try.prog 46 #[.int .u8 op, .bool wide, .int .u64 a, .int .u64 b] w (Told (condV op wide a b) (condE op) w) := by
  cases hf : condFits op
  · have e : condE op = 1 := by unfold condE; rw [hf]; rfl
    rw [e, condV_none hf]
    cases wide
    · exact is_none_32 op a b w ha hb hf
    · exact is_none_64 op a b w ha hb hf
  · have e : condE op = 0 := by unfold condE; rw [hf]; rfl
    rw [e]
    by_cases hl : op = 160 ∨ op = 176 ∨ op = 192 ∨ op = 208
    · cases wide
      · rcases hl with rfl | rfl | rfl | rfl
        · exact is_less_32 160 32 a b w ha hb (by omega)
        · exact is_less_32 176 48 a b w ha hb (by omega)
        · exact is_less_32 192 96 a b w ha hb (by omega)
        · exact is_less_32 208 112 a b w ha hb (by omega)
      · rcases hl with rfl | rfl | rfl | rfl
        · exact is_less_64 160 32 a b w ha hb (by omega)
        · exact is_less_64 176 48 a b w ha hb (by omega)
        · exact is_less_64 192 96 a b w ha hb (by omega)
        · exact is_less_64 208 112 a b w ha hb (by omega)
    · exact is_plain op a b wide w ha hb (by have h := fits_is hf; omega)

theorem is_to {op a b k : Int} {wide v : Bool} (w : World) (ha : 0 ≤ a ∧ a ≤ 18446744073709551615) (hb : 0 ≤ b ∧ b ≤ 18446744073709551615) (hv : condV op wide a b = v) (hk : condE op = k) :
    Calls Try.prog 46 #[.int .u8 op, .bool wide, .int .u64 a, .int .u64 b] w (Told v k w) := by
  have h := is_any op wide a b w ha hb
  rw [hv, hk] at h
  exact h

end Go.Proofs.Ytpnobkaeoiaelaa
