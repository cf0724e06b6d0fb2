/-
  The program's If.
  Conditions: those that each theorem states.
-/
import Derived.Test.YtfepokiibdkoeaaAllA3
import Derived.LoopTactic
import Derived.BigRegion

/-
  cond.partner: the condition that stands in a pair with another one.
  Conditions: the pairs lie in one block of memory.
-/
namespace Go.Proofs.Ytfepokiibdkoeaa
open Go.RowKit
set_option linter.unusedVariables false

/-- Of pairs, one behind the other, the other one of the first that has op. -/
def pairOf : List (Int × Int) → Int → Int × Bool
  | [], _ => (0, false)
  | p :: l, op => if p.1 = op then (p.2, true) else if p.2 = op then (p.1, true) else pairOf l op
/-- The cells that pairs lie in. -/
def pairCells : List (Int × Int) → List Value
  | [] => []
  | p :: l => .int .u8 p.1 :: .int .u8 p.2 :: pairCells l

theorem pairOf_step (l : List (Int × Int)) (op : Int) (j : Nat) (h : j < l.length) :
    pairOf (l.drop j) op = if (l.getD j (0, 0)).1 = op then ((l.getD j (0, 0)).2, true) else if (l.getD j (0, 0)).2 = op then ((l.getD j (0, 0)).1, true) else pairOf (l.drop (j + 1)) op := by
  rw [List.drop_eq_getElem_cons h]
  simp only [pairOf, List.getD_eq_getElem?_getD, List.getElem?_eq_getElem h, Option.getD_some]

set_option maxHeartbeats 1000000 in
theorem partner_any (l : List (Int × Int)) (b : Nat) (op : Int) (w : World) (hl : l.length ≤ 100)
    (hc : ∀ k, k < l.length → w.cell? ⟨b, k * 2, none⟩ = some (.int .u8 (l.getD k (0, 0)).1) ∧ w.cell? ⟨b, k * 2 + 1, none⟩ = some (.int .u8 (l.getD k (0, 0)).2)) (hb : b < w.heap.size) :
    Calls Try.prog 113 #[.int .u8 op, .slice (some ⟨b, 0, none⟩) l.length l.length] w
      fun e w' => e = .returned (.tuple #[.int .u8 (pairOf l op).1, .bool (pairOf l op).2]) ∧ Below w.heap.size w w' := by
  have HC := Lib.hid hc
  clear hc
  go_enter Try.func113, Try.ntmps113
  go_wp2_with fail
  go_loopw [10] (fun i wr => ∃ j : Nat, j ≤ l.length ∧ i = .int .i64 j ∧ pairOf (l.drop j) op = pairOf l op ∧ Below w.heap.size w wr) (fun i wr => l.length - (intOf i).toNat)
  case atStart => exact ⟨0, by omega, rfl, rfl, Below.refl _ _⟩
  case round =>
    obtain ⟨j, hj, rfl, hp, hbw⟩ := hrel
    by_cases hlt : (j : Int) < l.length
    · obtain ⟨c1, c2⟩ := HC.out j (by omega)
      have hs := pairOf_step l op j (by omega)
      rw [hp] at hs
      generalize hg : l.getD j (0, 0) = p at *
      obtain ⟨x, y⟩ := p
      have d1 : wr.cell? ⟨b, j * 2, none⟩ = some (.int .u8 x) := (hbw.cell (p := ⟨b, j * 2, none⟩) hb).trans c1
      have d2 : wr.cell? ⟨b, j * 2 + 1, none⟩ = some (.int .u8 y) := (hbw.cell (p := ⟨b, j * 2 + 1, none⟩) hb).trans c2
      clear c1 c2 hg
      by_cases h1 : x = op
      · have HE : Hid (pairOf l op = (y, true)) := Lib.hid (by rw [hs, if_pos h1])
        clear hs hp
        subst h1
        go_wp2_with fail
        go_ret2
        exact ⟨by rw [HE.out]; rfl, hbw.alloc hbw.size _⟩
      · by_cases h2 : y = op
        · have HE : Hid (pairOf l op = (x, true)) := Lib.hid (by rw [hs, if_neg h1, if_pos h2])
          clear hs hp
          subst h2
          go_wp2_with fail
          go_ret2
          exact ⟨by rw [HE.out]; rfl, hbw.alloc hbw.size _⟩
        · have HE : Hid (pairOf (l.drop (j + 1)) op = pairOf l op) := Lib.hid (by rw [hs, if_neg h1, if_neg h2])
          clear hs hp
          go_wp2_with fail
          go_round
          case rel => exact ⟨j + 1, by omega, by go_num, HE.out, hbw.alloc hbw.size _⟩
          case measure => simp [intOf]; omega
    · have hj2 : j = l.length := by omega
      have hz : pairOf l op = (0, false) := by rw [← hp, hj2, List.drop_length]; rfl
      have HZ := Lib.hid hz
      clear hz hj2 hp
      go_wp2_with fail
      go_ret2
      exact ⟨by rw [HZ.out]; rfl, hbw⟩

end Go.Proofs.Ytfepokiibdkoeaa


/-
  cond.Not and cond.Turned: what the pairs say.
  Conditions: none.
-/
namespace Go.Proofs.Ytfepokiibdkoeaa
open Go.RowKit
set_option linter.unusedVariables false

def notPairs : List (Int × Int) := [(16, 80), (32, 176), (48, 160), (96, 208), (112, 192)]
def turnPairs : List (Int × Int) := [(16, 16), (80, 80), (64, 64), (32, 160), (48, 176), (96, 192), (112, 208)]

/-- A condition and whether there is one, and nothing that was there has turned. -/
def Paired (l : List (Int × Int)) (op : Int) (w : World) (e : Ending) (w' : World) : Prop := e = .returned (.tuple #[.int .u8 (pairOf l op).1, .bool (pairOf l op).2]) ∧ Below w.heap.size w w'

theorem cells_at (w : World) (l : List (Int × Int)) (cs : Array Value) (t : TypeId) (h : ∀ k, k < l.length → cs[k * 2]? = some (.int .u8 (l.getD k (0, 0)).1) ∧ cs[k * 2 + 1]? = some (.int .u8 (l.getD k (0, 0)).2)) :
    ∀ k, k < l.length → (w.alloc (.cells cs t)).cell? ⟨w.heap.size, k * 2, none⟩ = some (.int .u8 (l.getD k (0, 0)).1) ∧ (w.alloc (.cells cs t)).cell? ⟨w.heap.size, k * 2 + 1, none⟩ = some (.int .u8 (l.getD k (0, 0)).2) := by
  intro k hk
  rw [World.cell?_alloc_new, World.cell?_alloc_new]
  exact h k hk

theorem turned_any (op : Int) (w : World) : Calls Try.prog 98 #[.int .u8 op] w (Paired turnPairs op w) := by
  have hp := Lib.hid (partner_any turnPairs w.heap.size op (w.alloc (.cells #[.int .u8 16, .int .u8 16, .int .u8 80, .int .u8 80, .int .u8 64, .int .u8 64, .int .u8 32, .int .u8 160, .int .u8 48, .int .u8 176, .int .u8 96, .int .u8 192, .int .u8 112, .int .u8 208] 109)) (by decide)
    (cells_at w turnPairs _ _ (by
      intro k hk
      change k < 7 at hk
      have h : k = 0 ∨ k = 1 ∨ k = 2 ∨ k = 3 ∨ k = 4 ∨ k = 5 ∨ k = 6 := by omega
      rcases h with rfl | rfl | rfl | rfl | rfl | rfl | rfl <;> exact ⟨rfl, rfl⟩)) (by simp))
  go_enter Try.func98, Try.ntmps98
  go_wp2_with fail
  refine (hp.out).mono ?_
  rintro e w1 ⟨rfl, hb⟩
  go_wp2_with fail
  go_ret2
  exact ⟨rfl, below_next ((Below.refl _ _).alloc (Nat.le_refl _) _) (by simp) hb⟩

end Go.Proofs.Ytfepokiibdkoeaa


/-
  alu.Sign: a number's lowest bits, signed, modulo 2^64.
  Conditions: the number fits its kind.
-/
namespace Go.Proofs.Ytfepokiibdkoeaa
open Go.RowKit
set_option linter.unusedVariables false

theorem sign_says (n k : Int) (w : World) (h : 0 ≤ n) (h' : n ≤ 18446744073709551615) :
    Calls Try.prog 97 #[.int .u64 n, .int .i64 k] w fun e w' => e = .returned (.int .u64 (signW n k)) ∧ w = w' := by
  by_cases h1 : 1 ≤ k
  · by_cases h2 : k ≤ 64
    · go_enter Try.func97, Try.ntmps97
      go_wp2
      go_ret
      exact ⟨end_int (by unfold signW; rw [if_pos ⟨h1, h2⟩, IntKind.wrap_u64, IntKind.wrap_u64, up_down_signed n k h1 h2]), rfl⟩
    · go_enter Try.func97, Try.ntmps97
      go_wp2
      go_ret
      exact ⟨end_int (by unfold signW; rw [if_neg (by omega)]), rfl⟩
  · go_enter Try.func97, Try.ntmps97
    go_wp2
    go_ret
    exact ⟨end_int (by unfold signW; rw [if_neg (by omega)]), rfl⟩

end Go.Proofs.Ytfepokiibdkoeaa


/-
  cond.Is: whether a condition holds of two numbers.
  Conditions: the numbers fit their kinds.
-/
namespace Go.Proofs.Ytfepokiibdkoeaa
open Go.RowKit
set_option linter.unusedVariables false

/-- A bool and an error's number, and nothing that was there has turned. -/
def Told (v : Bool) (k : Int) (w : World) (e : Ending) (w' : World) : Prop := e = .returned (.tuple #[.bool v, .int .i64 k]) ∧ Below w.heap.size w w'

theorem end_told {a b : Bool} {k : Int} (h : a = b) : Ending.returned (.tuple #[.bool a, .int .i64 k]) = .returned (.tuple #[.bool b, .int .i64 k]) := by rw [h]
theorem s64_64 (x : Int) (h : 0 ≤ x) (h' : x ≤ 18446744073709551615) : wrap64 (signW x 64) = sg true x := by
  rw [signW_64]; show _ = wrap64 x; exact wrap64_low x
theorem s64_32 (x : Int) (h : 0 ≤ x) (h' : x ≤ 4294967295) : wrap64 (signW x 32) = sg false x := by
  rw [signW_32]; exact wrap64_wrap32 x
theorem bits_none (x y : Int) (hx : 0 ≤ x) (hx' : x ≤ 18446744073709551615) (hy : 0 ≤ y) (hy' : y ≤ 18446744073709551615) : (bits BinOp.and IntKind.u64 x y != 0) = !decide (((x.toNat &&& y.toNat : Nat) : Int) = 0) := by
  rw [u64_and x y hx (by omega) hy (by omega)]; rfl

set_option maxHeartbeats 1000000 in
theorem is_64_same (op a b : Int) (w : World) (ha : 0 ≤ a ∧ a ≤ 18446744073709551615) (hb : 0 ≤ b ∧ b ≤ 18446744073709551615) (hc : a = b)
    (ho : op = 0 ∨ op = 16 ∨ op = 80 ∨ op = 64 ∨ op = 32 ∨ op = 48 ∨ op = 96 ∨ op = 112) :
    Calls Try.prog 67 #[.int .u8 op, .bool true, .int .u64 a, .int .u64 b] w (Told (condXY true op a b) 0 w) := by
  obtain ⟨a1, a2⟩ := ha
  obtain ⟨b1, b2⟩ := hb
  have hs1 := Lib.hid fun w => sign_says a 64 w a1 (by omega)
  have hs2 := Lib.hid fun w => sign_says b 64 w b1 (by omega)
  have e1 := s64_64 a a1 a2
  have e2 := s64_64 b b1 b2
  have hab := sg_inj true a b ⟨a1, by show a < 18446744073709551616; omega⟩ ⟨b1, by show b < 18446744073709551616; omega⟩
  have hbits := Lib.hid (bits_none a b a1 (by omega) b1 (by omega))
  unfold condXY
  generalize sg true a = s at *
  generalize sg true b = t at *
  have hst := Lib.hid (hab.mpr hc)
  have hc1 : (a == b) = true := beq_iff_eq.mpr hc
  have hc2 := Lib.hid hc
  clear hab hc
  rcases ho with rfl | rfl | rfl | rfl | rfl | rfl | rfl | rfl
  · go_enter Try.func67, Try.ntmps67
    go_wp2_with fail
    refine (hs1.out _).mono ?_; rintro e w' ⟨rfl, rfl⟩
    go_wp2_with fail
    refine (hs2.out _).mono ?_; rintro e w' ⟨rfl, rfl⟩
    go_wp2_with fail
    go_ret2
    exact ⟨rfl, Below.refl _ _⟩
  · go_enter Try.func67, Try.ntmps67
    go_wp2_with fail
    refine (hs1.out _).mono ?_; rintro e w' ⟨rfl, rfl⟩
    go_wp2_with fail
    refine (hs2.out _).mono ?_; rintro e w' ⟨rfl, rfl⟩
    go_wp2_with fail
    go_ret2
    exact ⟨end_told (decide_eq_true hc2.out).symm, Below.refl _ _⟩
  · go_enter Try.func67, Try.ntmps67
    go_wp2_with fail
    refine (hs1.out _).mono ?_; rintro e w' ⟨rfl, rfl⟩
    go_wp2_with fail
    refine (hs2.out _).mono ?_; rintro e w' ⟨rfl, rfl⟩
    go_wp2_with fail
    go_ret2
    exact ⟨end_told (by rw [decide_eq_true hc2.out]; rfl), Below.refl _ _⟩
  · go_enter Try.func67, Try.ntmps67
    go_wp2_with fail
    refine (hs1.out _).mono ?_; rintro e w' ⟨rfl, rfl⟩
    go_wp2_with fail
    refine (hs2.out _).mono ?_; rintro e w' ⟨rfl, rfl⟩
    go_wp2_with fail
    go_ret2
    exact ⟨end_told (by rw [hbits.out]; simp), Below.refl _ _⟩
  · go_enter Try.func67, Try.ntmps67
    go_wp2_with fail
    refine (hs1.out _).mono ?_; rintro e w' ⟨rfl, rfl⟩
    go_wp2_with fail
    refine (hs2.out _).mono ?_; rintro e w' ⟨rfl, rfl⟩
    go_wp2_with fail
    go_ret2
    exact ⟨rfl, Below.refl _ _⟩
  · go_enter Try.func67, Try.ntmps67
    go_wp2_with fail
    refine (hs1.out _).mono ?_; rintro e w' ⟨rfl, rfl⟩
    go_wp2_with fail
    refine (hs2.out _).mono ?_; rintro e w' ⟨rfl, rfl⟩
    go_wp2_with fail
    go_ret2
    exact ⟨end_told (decide_eq_true (Int.le_of_eq hc2.out.symm)).symm, Below.refl _ _⟩
  · go_enter Try.func67, Try.ntmps67
    go_wp2_with fail
    refine (hs1.out _).mono ?_; rintro e w' ⟨rfl, rfl⟩
    go_wp2_with fail
    refine (hs2.out _).mono ?_; rintro e w' ⟨rfl, rfl⟩
    go_wp2_with fail
    go_ret2
    exact ⟨rfl, Below.refl _ _⟩
  · go_enter Try.func67, Try.ntmps67
    go_wp2_with fail
    refine (hs1.out _).mono ?_; rintro e w' ⟨rfl, rfl⟩
    go_wp2_with fail
    refine (hs2.out _).mono ?_; rintro e w' ⟨rfl, rfl⟩
    go_wp2_with fail
    go_ret2
    exact ⟨end_told (decide_eq_true (Int.le_of_eq hst.out.symm)).symm, Below.refl _ _⟩

set_option maxHeartbeats 1000000 in
theorem is_64_not (op a b : Int) (w : World) (ha : 0 ≤ a ∧ a ≤ 18446744073709551615) (hb : 0 ≤ b ∧ b ≤ 18446744073709551615) (hc : ¬ a = b)
    (ho : op = 0 ∨ op = 16 ∨ op = 80 ∨ op = 64 ∨ op = 32 ∨ op = 48 ∨ op = 96 ∨ op = 112) :
    Calls Try.prog 67 #[.int .u8 op, .bool true, .int .u64 a, .int .u64 b] w (Told (condXY true op a b) 0 w) := by
  obtain ⟨a1, a2⟩ := ha
  obtain ⟨b1, b2⟩ := hb
  have hs1 := Lib.hid fun w => sign_says a 64 w a1 (by omega)
  have hs2 := Lib.hid fun w => sign_says b 64 w b1 (by omega)
  have e1 := s64_64 a a1 a2
  have e2 := s64_64 b b1 b2
  have hab := sg_inj true a b ⟨a1, by show a < 18446744073709551616; omega⟩ ⟨b1, by show b < 18446744073709551616; omega⟩
  have hbits := Lib.hid (bits_none a b a1 (by omega) b1 (by omega))
  unfold condXY
  generalize sg true a = s at *
  generalize sg true b = t at *
  have hst := Lib.hid (fun z => hc (hab.mp z))
  have hc1 : (a == b) = false := beq_eq_false_iff_ne.mpr hc
  have hc2 := Lib.hid hc
  clear hab hc
  rcases ho with rfl | rfl | rfl | rfl | rfl | rfl | rfl | rfl
  · go_enter Try.func67, Try.ntmps67
    go_wp2_with fail
    refine (hs1.out _).mono ?_; rintro e w' ⟨rfl, rfl⟩
    go_wp2_with fail
    refine (hs2.out _).mono ?_; rintro e w' ⟨rfl, rfl⟩
    go_wp2_with fail
    go_ret2
    exact ⟨rfl, Below.refl _ _⟩
  · go_enter Try.func67, Try.ntmps67
    go_wp2_with fail
    refine (hs1.out _).mono ?_; rintro e w' ⟨rfl, rfl⟩
    go_wp2_with fail
    refine (hs2.out _).mono ?_; rintro e w' ⟨rfl, rfl⟩
    go_wp2_with fail
    go_ret2
    exact ⟨end_told (decide_eq_false hc2.out).symm, Below.refl _ _⟩
  · go_enter Try.func67, Try.ntmps67
    go_wp2_with fail
    refine (hs1.out _).mono ?_; rintro e w' ⟨rfl, rfl⟩
    go_wp2_with fail
    refine (hs2.out _).mono ?_; rintro e w' ⟨rfl, rfl⟩
    go_wp2_with fail
    go_ret2
    exact ⟨end_told (by rw [decide_eq_false hc2.out]; rfl), Below.refl _ _⟩
  · go_enter Try.func67, Try.ntmps67
    go_wp2_with fail
    refine (hs1.out _).mono ?_; rintro e w' ⟨rfl, rfl⟩
    go_wp2_with fail
    refine (hs2.out _).mono ?_; rintro e w' ⟨rfl, rfl⟩
    go_wp2_with fail
    go_ret2
    exact ⟨end_told (by rw [hbits.out]; simp), Below.refl _ _⟩
  · go_enter Try.func67, Try.ntmps67
    go_wp2_with fail
    refine (hs1.out _).mono ?_; rintro e w' ⟨rfl, rfl⟩
    go_wp2_with fail
    refine (hs2.out _).mono ?_; rintro e w' ⟨rfl, rfl⟩
    go_wp2_with fail
    go_ret2
    exact ⟨rfl, Below.refl _ _⟩
  · go_enter Try.func67, Try.ntmps67
    go_wp2_with fail
    refine (hs1.out _).mono ?_; rintro e w' ⟨rfl, rfl⟩
    go_wp2_with fail
    refine (hs2.out _).mono ?_; rintro e w' ⟨rfl, rfl⟩
    go_wp2_with fail
    go_ret2
    exact ⟨end_told (decide_eq_decide.mpr ⟨fun h => Int.le_of_lt h, fun h => Int.lt_iff_le_and_ne.mpr ⟨h, fun x => hc2.out x.symm⟩⟩), Below.refl _ _⟩
  · go_enter Try.func67, Try.ntmps67
    go_wp2_with fail
    refine (hs1.out _).mono ?_; rintro e w' ⟨rfl, rfl⟩
    go_wp2_with fail
    refine (hs2.out _).mono ?_; rintro e w' ⟨rfl, rfl⟩
    go_wp2_with fail
    go_ret2
    exact ⟨rfl, Below.refl _ _⟩
  · go_enter Try.func67, Try.ntmps67
    go_wp2_with fail
    refine (hs1.out _).mono ?_; rintro e w' ⟨rfl, rfl⟩
    go_wp2_with fail
    refine (hs2.out _).mono ?_; rintro e w' ⟨rfl, rfl⟩
    go_wp2_with fail
    go_ret2
    exact ⟨end_told (decide_eq_decide.mpr ⟨fun h => Int.le_of_lt h, fun h => Int.lt_iff_le_and_ne.mpr ⟨h, fun x => hst.out x.symm⟩⟩), Below.refl _ _⟩

end Go.Proofs.Ytfepokiibdkoeaa


/-
  cond.Is: whether a condition holds of two numbers.
  Conditions: the numbers fit their kinds.
-/
namespace Go.Proofs.Ytfepokiibdkoeaa
open Go.RowKit
set_option linter.unusedVariables false

set_option maxHeartbeats 1000000 in
theorem is_32_same (op a b : Int) (w : World) (ha : 0 ≤ a ∧ a ≤ 18446744073709551615) (hb : 0 ≤ b ∧ b ≤ 18446744073709551615) (hc : (a % 4294967296) = (b % 4294967296))
    (ho : op = 0 ∨ op = 16 ∨ op = 80 ∨ op = 64 ∨ op = 32 ∨ op = 48 ∨ op = 96 ∨ op = 112) :
    Calls Try.prog 67 #[.int .u8 op, .bool false, .int .u64 a, .int .u64 b] w (Told (condXY false op (a % 4294967296) (b % 4294967296)) 0 w) := by
  obtain ⟨a1, a2⟩ := ha
  obtain ⟨b1, b2⟩ := hb
  have x1 : 0 ≤ a % 4294967296 := by omega
  have x2 : a % 4294967296 ≤ 4294967295 := by omega
  have y1 : 0 ≤ b % 4294967296 := by omega
  have y2 : b % 4294967296 ≤ 4294967295 := by omega
  have f1 : IntKind.u32.wrap a = a % 4294967296 := IntKind.wrap_u32 _
  have f2 : IntKind.u32.wrap b = b % 4294967296 := IntKind.wrap_u32 _
  generalize a % 4294967296 = x at *
  generalize b % 4294967296 = y at *
  have hs1 := Lib.hid fun w => sign_says x 32 w x1 (by omega)
  have hs2 := Lib.hid fun w => sign_says y 32 w y1 (by omega)
  have e1 := s64_32 x x1 x2
  have e2 := s64_32 y y1 y2
  have hab := sg_inj false x y ⟨x1, by show x < 4294967296; omega⟩ ⟨y1, by show y < 4294967296; omega⟩
  have hbits := Lib.hid (bits_none x y x1 (by omega) y1 (by omega))
  unfold condXY
  generalize sg false x = s at *
  generalize sg false y = t at *
  have hst := Lib.hid (hab.mpr hc)
  have hc1 : (x == y) = true := beq_iff_eq.mpr hc
  have hc2 := Lib.hid hc
  clear hab hc
  rcases ho with rfl | rfl | rfl | rfl | rfl | rfl | rfl | rfl
  · go_enter Try.func67, Try.ntmps67
    go_wp2_with fail
    refine (hs1.out _).mono ?_; rintro e w' ⟨rfl, rfl⟩
    go_wp2_with fail
    refine (hs2.out _).mono ?_; rintro e w' ⟨rfl, rfl⟩
    go_wp2_with fail
    go_ret2
    exact ⟨rfl, Below.refl _ _⟩
  · go_enter Try.func67, Try.ntmps67
    go_wp2_with fail
    refine (hs1.out _).mono ?_; rintro e w' ⟨rfl, rfl⟩
    go_wp2_with fail
    refine (hs2.out _).mono ?_; rintro e w' ⟨rfl, rfl⟩
    go_wp2_with fail
    go_ret2
    exact ⟨end_told (decide_eq_true hc2.out).symm, Below.refl _ _⟩
  · go_enter Try.func67, Try.ntmps67
    go_wp2_with fail
    refine (hs1.out _).mono ?_; rintro e w' ⟨rfl, rfl⟩
    go_wp2_with fail
    refine (hs2.out _).mono ?_; rintro e w' ⟨rfl, rfl⟩
    go_wp2_with fail
    go_ret2
    exact ⟨end_told (by rw [decide_eq_true hc2.out]; rfl), Below.refl _ _⟩
  · go_enter Try.func67, Try.ntmps67
    go_wp2_with fail
    refine (hs1.out _).mono ?_; rintro e w' ⟨rfl, rfl⟩
    go_wp2_with fail
    refine (hs2.out _).mono ?_; rintro e w' ⟨rfl, rfl⟩
    go_wp2_with fail
    go_ret2
    exact ⟨end_told (by rw [hbits.out]; simp), Below.refl _ _⟩
  · go_enter Try.func67, Try.ntmps67
    go_wp2_with fail
    refine (hs1.out _).mono ?_; rintro e w' ⟨rfl, rfl⟩
    go_wp2_with fail
    refine (hs2.out _).mono ?_; rintro e w' ⟨rfl, rfl⟩
    go_wp2_with fail
    go_ret2
    exact ⟨rfl, Below.refl _ _⟩
  · go_enter Try.func67, Try.ntmps67
    go_wp2_with fail
    refine (hs1.out _).mono ?_; rintro e w' ⟨rfl, rfl⟩
    go_wp2_with fail
    refine (hs2.out _).mono ?_; rintro e w' ⟨rfl, rfl⟩
    go_wp2_with fail
    go_ret2
    exact ⟨end_told (decide_eq_true (Int.le_of_eq hc2.out.symm)).symm, Below.refl _ _⟩
  · go_enter Try.func67, Try.ntmps67
    go_wp2_with fail
    refine (hs1.out _).mono ?_; rintro e w' ⟨rfl, rfl⟩
    go_wp2_with fail
    refine (hs2.out _).mono ?_; rintro e w' ⟨rfl, rfl⟩
    go_wp2_with fail
    go_ret2
    exact ⟨rfl, Below.refl _ _⟩
  · go_enter Try.func67, Try.ntmps67
    go_wp2_with fail
    refine (hs1.out _).mono ?_; rintro e w' ⟨rfl, rfl⟩
    go_wp2_with fail
    refine (hs2.out _).mono ?_; rintro e w' ⟨rfl, rfl⟩
    go_wp2_with fail
    go_ret2
    exact ⟨end_told (decide_eq_true (Int.le_of_eq hst.out.symm)).symm, Below.refl _ _⟩

set_option maxHeartbeats 1000000 in
theorem is_32_not (op a b : Int) (w : World) (ha : 0 ≤ a ∧ a ≤ 18446744073709551615) (hb : 0 ≤ b ∧ b ≤ 18446744073709551615) (hc : ¬ (a % 4294967296) = (b % 4294967296))
    (ho : op = 0 ∨ op = 16 ∨ op = 80 ∨ op = 64 ∨ op = 32 ∨ op = 48 ∨ op = 96 ∨ op = 112) :
    Calls Try.prog 67 #[.int .u8 op, .bool false, .int .u64 a, .int .u64 b] w (Told (condXY false op (a % 4294967296) (b % 4294967296)) 0 w) := by
  obtain ⟨a1, a2⟩ := ha
  obtain ⟨b1, b2⟩ := hb
  have x1 : 0 ≤ a % 4294967296 := by omega
  have x2 : a % 4294967296 ≤ 4294967295 := by omega
  have y1 : 0 ≤ b % 4294967296 := by omega
  have y2 : b % 4294967296 ≤ 4294967295 := by omega
  have f1 : IntKind.u32.wrap a = a % 4294967296 := IntKind.wrap_u32 _
  have f2 : IntKind.u32.wrap b = b % 4294967296 := IntKind.wrap_u32 _
  generalize a % 4294967296 = x at *
  generalize b % 4294967296 = y at *
  have hs1 := Lib.hid fun w => sign_says x 32 w x1 (by omega)
  have hs2 := Lib.hid fun w => sign_says y 32 w y1 (by omega)
  have e1 := s64_32 x x1 x2
  have e2 := s64_32 y y1 y2
  have hab := sg_inj false x y ⟨x1, by show x < 4294967296; omega⟩ ⟨y1, by show y < 4294967296; omega⟩
  have hbits := Lib.hid (bits_none x y x1 (by omega) y1 (by omega))
  unfold condXY
  generalize sg false x = s at *
  generalize sg false y = t at *
  have hst := Lib.hid (fun z => hc (hab.mp z))
  have hc1 : (x == y) = false := beq_eq_false_iff_ne.mpr hc
  have hc2 := Lib.hid hc
  clear hab hc
  rcases ho with rfl | rfl | rfl | rfl | rfl | rfl | rfl | rfl
  · go_enter Try.func67, Try.ntmps67
    go_wp2_with fail
    refine (hs1.out _).mono ?_; rintro e w' ⟨rfl, rfl⟩
    go_wp2_with fail
    refine (hs2.out _).mono ?_; rintro e w' ⟨rfl, rfl⟩
    go_wp2_with fail
    go_ret2
    exact ⟨rfl, Below.refl _ _⟩
  · go_enter Try.func67, Try.ntmps67
    go_wp2_with fail
    refine (hs1.out _).mono ?_; rintro e w' ⟨rfl, rfl⟩
    go_wp2_with fail
    refine (hs2.out _).mono ?_; rintro e w' ⟨rfl, rfl⟩
    go_wp2_with fail
    go_ret2
    exact ⟨end_told (decide_eq_false hc2.out).symm, Below.refl _ _⟩
  · go_enter Try.func67, Try.ntmps67
    go_wp2_with fail
    refine (hs1.out _).mono ?_; rintro e w' ⟨rfl, rfl⟩
    go_wp2_with fail
    refine (hs2.out _).mono ?_; rintro e w' ⟨rfl, rfl⟩
    go_wp2_with fail
    go_ret2
    exact ⟨end_told (by rw [decide_eq_false hc2.out]; rfl), Below.refl _ _⟩
  · go_enter Try.func67, Try.ntmps67
    go_wp2_with fail
    refine (hs1.out _).mono ?_; rintro e w' ⟨rfl, rfl⟩
    go_wp2_with fail
    refine (hs2.out _).mono ?_; rintro e w' ⟨rfl, rfl⟩
    go_wp2_with fail
    go_ret2
    exact ⟨end_told (by rw [hbits.out]; simp), Below.refl _ _⟩
  · go_enter Try.func67, Try.ntmps67
    go_wp2_with fail
    refine (hs1.out _).mono ?_; rintro e w' ⟨rfl, rfl⟩
    go_wp2_with fail
    refine (hs2.out _).mono ?_; rintro e w' ⟨rfl, rfl⟩
    go_wp2_with fail
    go_ret2
    exact ⟨rfl, Below.refl _ _⟩
  · go_enter Try.func67, Try.ntmps67
    go_wp2_with fail
    refine (hs1.out _).mono ?_; rintro e w' ⟨rfl, rfl⟩
    go_wp2_with fail
    refine (hs2.out _).mono ?_; rintro e w' ⟨rfl, rfl⟩
    go_wp2_with fail
    go_ret2
    exact ⟨end_told (decide_eq_decide.mpr ⟨fun h => Int.le_of_lt h, fun h => Int.lt_iff_le_and_ne.mpr ⟨h, fun x => hc2.out x.symm⟩⟩), Below.refl _ _⟩
  · go_enter Try.func67, Try.ntmps67
    go_wp2_with fail
    refine (hs1.out _).mono ?_; rintro e w' ⟨rfl, rfl⟩
    go_wp2_with fail
    refine (hs2.out _).mono ?_; rintro e w' ⟨rfl, rfl⟩
    go_wp2_with fail
    go_ret2
    exact ⟨rfl, Below.refl _ _⟩
  · go_enter Try.func67, Try.ntmps67
    go_wp2_with fail
    refine (hs1.out _).mono ?_; rintro e w' ⟨rfl, rfl⟩
    go_wp2_with fail
    refine (hs2.out _).mono ?_; rintro e w' ⟨rfl, rfl⟩
    go_wp2_with fail
    go_ret2
    exact ⟨end_told (decide_eq_decide.mpr ⟨fun h => Int.le_of_lt h, fun h => Int.lt_iff_le_and_ne.mpr ⟨h, fun x => hst.out x.symm⟩⟩), Below.refl _ _⟩

end Go.Proofs.Ytfepokiibdkoeaa


/-
  cond.Is, of whatever condition and numbers: condV, and the error condE.
  Conditions: the numbers fit their kinds.
-/
namespace Go.Proofs.Ytfepokiibdkoeaa
open Go.RowKit
set_option linter.unusedVariables false

theorem is_plain (op a b : Int) (wide : Bool) (w : World) (ha : 0 ≤ a ∧ a ≤ 18446744073709551615) (hb : 0 ≤ b ∧ b ≤ 18446744073709551615)
    (ho : op = 0 ∨ op = 16 ∨ op = 80 ∨ op = 64 ∨ op = 32 ∨ op = 48 ∨ op = 96 ∨ op = 112) :
    Calls Try.prog 67 #[.int .u8 op, .bool wide, .int .u64 a, .int .u64 b] w (Told (condV op wide a b) 0 w) := by
  unfold condV
  cases wide
  · show Calls _ _ _ _ (Told (condXY false op (a % 4294967296) (b % 4294967296)) 0 w)
    by_cases h : a % 4294967296 = b % 4294967296
    · exact is_32_same op a b w ha hb h ho
    · exact is_32_not op a b w ha hb h ho
  · have ea : a % aM true = a := Int.emod_eq_of_lt ha.1 (by show a < 18446744073709551616; omega)
    have eb : b % aM true = b := Int.emod_eq_of_lt hb.1 (by show b < 18446744073709551616; omega)
    rw [ea, eb]
    by_cases h : a = b
    · exact is_64_same op a b w ha hb h ho
    · exact is_64_not op a b w ha hb h ho

theorem turned_to {op k : Int} (h : pairOf turnPairs op = (k, true)) (w : World) :
    Calls Try.prog 98 #[.int .u8 op] w fun e w' => e = .returned (.tuple #[.int .u8 k, .bool true]) ∧ Below w.heap.size w w' := by
  have h1 := turned_any op w
  unfold Paired at h1
  rw [h] at h1
  exact h1

set_option maxHeartbeats 1000000 in
theorem is_less_64 (op k a b : Int) (w : World) (ha : 0 ≤ a ∧ a ≤ 18446744073709551615) (hb : 0 ≤ b ∧ b ≤ 18446744073709551615)
    (ho : (op = 160 ∧ k = 32) ∨ (op = 176 ∧ k = 48) ∨ (op = 192 ∧ k = 96) ∨ (op = 208 ∧ k = 112)) :
    Calls Try.prog 67 #[.int .u8 op, .bool true, .int .u64 a, .int .u64 b] w (Told (condV k true b a) 0 w) := by
  have hi := Lib.hid fun w => is_plain k b a true w hb ha (by omega)
  obtain ⟨a1, a2⟩ := ha
  obtain ⟨b1, b2⟩ := hb
  have hs1 := Lib.hid fun w => sign_says a 64 w a1 a2
  have hs2 := Lib.hid fun w => sign_says b 64 w b1 b2
  generalize condV k true b a = v at *
  have ht : ∀ w, Calls Try.prog 98 #[.int .u8 op] w fun e w' => e = .returned (.tuple #[.int .u8 k, .bool true]) ∧ Below w.heap.size w w' := fun w => turned_to (by rcases ho with ⟨rfl, rfl⟩ | ⟨rfl, rfl⟩ | ⟨rfl, rfl⟩ | ⟨rfl, rfl⟩ <;> decide) w
  have HT := Lib.hid ht
  clear ht
  rcases ho with ⟨rfl, rfl⟩ | ⟨rfl, rfl⟩ | ⟨rfl, rfl⟩ | ⟨rfl, rfl⟩
  all_goals
    go_enter Try.func67, Try.ntmps67
    go_wp2_with fail
    refine (hs1.out _).mono ?_; rintro e w' ⟨rfl, rfl⟩
    go_wp2_with fail
    refine (hs2.out _).mono ?_; rintro e w' ⟨rfl, rfl⟩
    go_wp2_with fail
    refine (HT.out _).mono ?_; rintro e w1 ⟨rfl, hb1⟩
    go_wp2_with fail
    refine (hi.out _).mono ?_; rintro e w2 ⟨rfl, hb2⟩
    go_wp2_with fail
    go_ret2
    exact ⟨rfl, below_next' hb1 hb2⟩

set_option maxHeartbeats 1000000 in
theorem is_less_32 (op k a b : Int) (w : World) (ha : 0 ≤ a ∧ a ≤ 18446744073709551615) (hb : 0 ≤ b ∧ b ≤ 18446744073709551615)
    (ho : (op = 160 ∧ k = 32) ∨ (op = 176 ∧ k = 48) ∨ (op = 192 ∧ k = 96) ∨ (op = 208 ∧ k = 112)) :
    Calls Try.prog 67 #[.int .u8 op, .bool false, .int .u64 a, .int .u64 b] w (Told (condV k false b a) 0 w) := by
  have hi := Lib.hid fun w => is_plain k b a false w hb ha (by omega)
  obtain ⟨a1, a2⟩ := ha
  obtain ⟨b1, b2⟩ := hb
  have f1 : IntKind.u32.wrap a = a % 4294967296 := IntKind.wrap_u32 _
  have f2 : IntKind.u32.wrap b = b % 4294967296 := IntKind.wrap_u32 _
  have hs1 := Lib.hid fun w => sign_says (a % 4294967296) 32 w (by omega) (by omega)
  have hs2 := Lib.hid fun w => sign_says (b % 4294967296) 32 w (by omega) (by omega)
  generalize condV k false b a = v at *
  have ht : ∀ w, Calls Try.prog 98 #[.int .u8 op] w fun e w' => e = .returned (.tuple #[.int .u8 k, .bool true]) ∧ Below w.heap.size w w' := fun w => turned_to (by rcases ho with ⟨rfl, rfl⟩ | ⟨rfl, rfl⟩ | ⟨rfl, rfl⟩ | ⟨rfl, rfl⟩ <;> decide) w
  have HT := Lib.hid ht
  clear ht
  rcases ho with ⟨rfl, rfl⟩ | ⟨rfl, rfl⟩ | ⟨rfl, rfl⟩ | ⟨rfl, rfl⟩
  all_goals
    go_enter Try.func67, Try.ntmps67
    go_wp2_with fail
    refine (hs1.out _).mono ?_; rintro e w' ⟨rfl, rfl⟩
    go_wp2_with fail
    refine (hs2.out _).mono ?_; rintro e w' ⟨rfl, rfl⟩
    go_wp2_with fail
    refine (HT.out _).mono ?_; rintro e w1 ⟨rfl, hb1⟩
    go_wp2_with fail
    refine (hi.out _).mono ?_; rintro e w2 ⟨rfl, hb2⟩
    go_wp2_with fail
    go_ret2
    exact ⟨rfl, below_next' hb1 hb2⟩

set_option maxHeartbeats 1000000 in
theorem is_none_64 (op a b : Int) (w : World) (ha : 0 ≤ a ∧ a ≤ 18446744073709551615) (hb : 0 ≤ b ∧ b ≤ 18446744073709551615) (ho : condFits op = false) :
    Calls Try.prog 67 #[.int .u8 op, .bool true, .int .u64 a, .int .u64 b] w (Told false 1 w) := by
  obtain ⟨h1, h2, h3, h4, h5, h6, h7, h8, h9, h10, h11, h12⟩ := fits_not ho
  have k1 : (op == 0) = false := beq_eq_false_iff_ne.mpr h1
  have k2 : (op == 16) = false := beq_eq_false_iff_ne.mpr h2
  have k3 : (op == 80) = false := beq_eq_false_iff_ne.mpr h3
  have k4 : (op == 64) = false := beq_eq_false_iff_ne.mpr h4
  have k5 : (op == 32) = false := beq_eq_false_iff_ne.mpr h5
  have k6 : (op == 48) = false := beq_eq_false_iff_ne.mpr h6
  have k7 : (op == 160) = false := beq_eq_false_iff_ne.mpr h7
  have k8 : (op == 176) = false := beq_eq_false_iff_ne.mpr h8
  have k9 : (op == 96) = false := beq_eq_false_iff_ne.mpr h9
  have k10 : (op == 112) = false := beq_eq_false_iff_ne.mpr h10
  have k11 : (op == 192) = false := beq_eq_false_iff_ne.mpr h11
  have k12 : (op == 208) = false := beq_eq_false_iff_ne.mpr h12
  clear h1 h2 h3 h4 h5 h6 h7 h8 h9 h10 h11 h12 ho
  obtain ⟨a1, a2⟩ := ha
  obtain ⟨b1, b2⟩ := hb
  have hs1 := Lib.hid fun w => sign_says a 64 w a1 a2
  have hs2 := Lib.hid fun w => sign_says b 64 w b1 b2
  go_enter Try.func67, Try.ntmps67
  go_wp2_with fail
  refine (hs1.out _).mono ?_; rintro e w' ⟨rfl, rfl⟩
  go_wp2_with fail
  refine (hs2.out _).mono ?_; rintro e w' ⟨rfl, rfl⟩
  go_wp2_with fail
  go_ret2
  exact ⟨rfl, Below.refl _ _⟩

set_option maxHeartbeats 1000000 in
theorem is_none_32 (op a b : Int) (w : World) (ha : 0 ≤ a ∧ a ≤ 18446744073709551615) (hb : 0 ≤ b ∧ b ≤ 18446744073709551615) (ho : condFits op = false) :
    Calls Try.prog 67 #[.int .u8 op, .bool false, .int .u64 a, .int .u64 b] w (Told false 1 w) := by
  obtain ⟨h1, h2, h3, h4, h5, h6, h7, h8, h9, h10, h11, h12⟩ := fits_not ho
  have k1 : (op == 0) = false := beq_eq_false_iff_ne.mpr h1
  have k2 : (op == 16) = false := beq_eq_false_iff_ne.mpr h2
  have k3 : (op == 80) = false := beq_eq_false_iff_ne.mpr h3
  have k4 : (op == 64) = false := beq_eq_false_iff_ne.mpr h4
  have k5 : (op == 32) = false := beq_eq_false_iff_ne.mpr h5
  have k6 : (op == 48) = false := beq_eq_false_iff_ne.mpr h6
  have k7 : (op == 160) = false := beq_eq_false_iff_ne.mpr h7
  have k8 : (op == 176) = false := beq_eq_false_iff_ne.mpr h8
  have k9 : (op == 96) = false := beq_eq_false_iff_ne.mpr h9
  have k10 : (op == 112) = false := beq_eq_false_iff_ne.mpr h10
  have k11 : (op == 192) = false := beq_eq_false_iff_ne.mpr h11
  have k12 : (op == 208) = false := beq_eq_false_iff_ne.mpr h12
  clear h1 h2 h3 h4 h5 h6 h7 h8 h9 h10 h11 h12 ho
  obtain ⟨a1, a2⟩ := ha
  obtain ⟨b1, b2⟩ := hb
  have f1 : IntKind.u32.wrap a = a % 4294967296 := IntKind.wrap_u32 _
  have f2 : IntKind.u32.wrap b = b % 4294967296 := IntKind.wrap_u32 _
  have hs1 := Lib.hid fun w => sign_says (a % 4294967296) 32 w (by omega) (by omega)
  have hs2 := Lib.hid fun w => sign_says (b % 4294967296) 32 w (by omega) (by omega)
  go_enter Try.func67, Try.ntmps67
  go_wp2_with fail
  refine (hs1.out _).mono ?_; rintro e w' ⟨rfl, rfl⟩
  go_wp2_with fail
  refine (hs2.out _).mono ?_; rintro e w' ⟨rfl, rfl⟩
  go_wp2_with fail
  go_ret2
  exact ⟨rfl, Below.refl _ _⟩

/-- Is, of whatever op and numbers. -/
theorem is_any (op : Int) (wide : Bool) (a b : Int) (w : World) (ha : 0 ≤ a ∧ a ≤ 18446744073709551615) (hb : 0 ≤ b ∧ b ≤ 18446744073709551615) :
    Calls Try.prog 67 #[.int .u8 op, .bool wide, .int .u64 a, .int .u64 b] w (Told (condV op wide a b) (condE op) w) := by
  cases hf : condFits op
  · have e : condE op = 1 := by unfold condE; rw [hf]; rfl
    rw [e, condV_none hf]
    cases wide
    · exact is_none_32 op a b w ha hb hf
    · exact is_none_64 op a b w ha hb hf
  · have e : condE op = 0 := by unfold condE; rw [hf]; rfl
    rw [e]
    by_cases hl : op = 160 ∨ op = 176 ∨ op = 192 ∨ op = 208
    · cases wide
      · rcases hl with rfl | rfl | rfl | rfl
        · exact is_less_32 160 32 a b w ha hb (by omega)
        · exact is_less_32 176 48 a b w ha hb (by omega)
        · exact is_less_32 192 96 a b w ha hb (by omega)
        · exact is_less_32 208 112 a b w ha hb (by omega)
      · rcases hl with rfl | rfl | rfl | rfl
        · exact is_less_64 160 32 a b w ha hb (by omega)
        · exact is_less_64 176 48 a b w ha hb (by omega)
        · exact is_less_64 192 96 a b w ha hb (by omega)
        · exact is_less_64 208 112 a b w ha hb (by omega)
    · exact is_plain op a b wide w ha hb (by have h := fits_is hf; omega)

theorem is_to {op a b k : Int} {wide v : Bool} (w : World) (ha : 0 ≤ a ∧ a ≤ 18446744073709551615) (hb : 0 ≤ b ∧ b ≤ 18446744073709551615) (hv : condV op wide a b = v) (hk : condE op = k) :
    Calls Try.prog 67 #[.int .u8 op, .bool wide, .int .u64 a, .int .u64 b] w (Told v k w) := by
  have h := is_any op wide a b w ha hb
  rw [hv, hk] at h
  exact h

end Go.Proofs.Ytfepokiibdkoeaa


/-
  What span.If's parts answer: holds, above, below, unlike.
  Conditions: the numbers fit their kinds.
-/
namespace Go.Proofs.Ytfepokiibdkoeaa
open Go.RowKit
set_option linter.unusedVariables false

theorem holds_says (op x y : Int) (w : World) (hx : 0 ≤ x ∧ x ≤ 18446744073709551615) (hy : 0 ≤ y ∧ y ≤ 18446744073709551615) :
    Calls Try.prog 129 #[.int .u8 op, .int .u64 x, .int .u64 y] w (Gives (.bool (condV op true x y)) w) := by
  have H := Lib.hid fun w => is_any op true x y w hx hy
  generalize condV op true x y = v at *
  generalize condE op = k at *
  go_enter Try.func129, Try.ntmps129
  go_wp2_with fail
  refine (H.out _).mono ?_; rintro e w1 ⟨rfl, b1⟩
  go_wp2_with fail
  go_ret
  exact ⟨rfl, b1⟩
theorem holds_to {op x y : Int} {v : Bool} (hx : 0 ≤ x ∧ x ≤ 18446744073709551615) (hy : 0 ≤ y ∧ y ≤ 18446744073709551615) (h : condV op true x y = v) (w : World) :
    Calls Try.prog 129 #[.int .u8 op, .int .u64 x, .int .u64 y] w (Gives (.bool v) w) := by
  rw [← h]; exact holds_says op x y w hx hy

theorem wide_mod {x : Int} (h : 0 ≤ x ∧ x ≤ 18446744073709551615) : x % aM true = x := Int.emod_eq_of_lt h.1 (by show x < 18446744073709551616; omega)
theorem cw_32 {x y : Int} (hx : 0 ≤ x ∧ x ≤ 18446744073709551615) (hy : 0 ≤ y ∧ y ≤ 18446744073709551615) : condV 32 true x y = decide (y < x) := by rw [cv_32, wide_mod hx, wide_mod hy]
theorem cw_48 {x y : Int} (hx : 0 ≤ x ∧ x ≤ 18446744073709551615) (hy : 0 ≤ y ∧ y ≤ 18446744073709551615) : condV 48 true x y = decide (y ≤ x) := by rw [cv_48, wide_mod hx, wide_mod hy]
theorem cw_160 {x y : Int} (hx : 0 ≤ x ∧ x ≤ 18446744073709551615) (hy : 0 ≤ y ∧ y ≤ 18446744073709551615) : condV 160 true x y = decide (x < y) := by rw [cv_160, wide_mod hx, wide_mod hy]
theorem cw_176 {x y : Int} (hx : 0 ≤ x ∧ x ≤ 18446744073709551615) (hy : 0 ≤ y ∧ y ≤ 18446744073709551615) : condV 176 true x y = decide (x ≤ y) := by rw [cv_176, wide_mod hx, wide_mod hy]
theorem cw_16 {x y : Int} (hx : 0 ≤ x ∧ x ≤ 18446744073709551615) (hy : 0 ≤ y ∧ y ≤ 18446744073709551615) : condV 16 true x y = decide (x = y) := by rw [cv_16, wide_mod hx, wide_mod hy]
theorem cw_80 {x y : Int} (hx : 0 ≤ x ∧ x ≤ 18446744073709551615) (hy : 0 ≤ y ∧ y ≤ 18446744073709551615) : condV 80 true x y = !decide (x = y) := by rw [cv_80, wide_mod hx, wide_mod hy]
theorem cw_64 {x y : Int} (hx : 0 ≤ x ∧ x ≤ 18446744073709551615) (hy : 0 ≤ y ∧ y ≤ 18446744073709551615) : condV 64 true x y = !decide (((x.toNat &&& y.toNat : Nat) : Int) = 0) := by rw [cv_64, wide_mod hx, wide_mod hy]

/-- The box of one argument, and behind it a result's. -/
def SDuo (a t : Sp) (w u : World) : Prop := SPair a t w u
theorem SDuo.new (a : Sp) (w : World) : SDuo a (0, 0) w ((w.alloc (.cells #[.int .u64 a.1, .int .u64 a.2] 26)).alloc (.cells #[.int .u64 0, .int .u64 0] 26)) := SPair.new a (0, 0) w
theorem SDuo.after {a t : Sp} {w u u' : World} (h : SDuo a t w u) (k : Below u.heap.size u u') : SDuo a t w u' := SPair.after h k
theorem SDuo.set {a t : Sp} {w u : World} (h : SDuo a t w u) (s : Sp) : SDuo a s w ((u.setCell ⟨w.heap.size + 1, 0, none⟩ (.int .u64 s.1)).setCell ⟨w.heap.size + 1, 1, none⟩ (.int .u64 s.2)) :=
  ⟨(h.1.setCell (by simp) _).setCell (by simp) _, (h.2.1.other _ (by omega)).other _ (by omega), h.2.2.set s⟩

set_option maxHeartbeats 1000000 in
/-- above, where no number of a is enough. -/
theorem sabove_no (op : Int) (a : Sp) (n : Int) (w : World) (h1 : ∀ w, Calls Try.prog 129 #[.int .u8 op, .int .u64 a.2, .int .u64 n] w (Gives (.bool false) w)) :
    Calls Try.prog 115 #[.int .u8 op, sV a, .int .u64 n] w (Gives (sBV (0, 0) false) w) := by
  have H1 := Lib.hid h1
  clear h1
  have hx := Lib.hid (SDuo.new a w)
  go_enter Try.func115, Try.ntmps115
  go_wp2_with fail
  refine (H1.out _).mono ?_; rintro e w1 ⟨rfl, b1⟩
  have x1 := hx.out.after b1
  obtain ⟨c0, c1⟩ := x1.2.2.cells
  obtain ⟨f0, f1⟩ := x1.2.2.free
  have X1 := Lib.hid (x1.set (0, 0))
  clear x1 hx b1
  go_wp2_with fail
  exact bodyPost_ret (v := sBV (0, 0) false) (by simp [results, Try.results115, go_sem, c0, c1]) rfl ⟨rfl, X1.out.1⟩
set_option maxHeartbeats 1000000 in
theorem sbelow_no (op : Int) (a : Sp) (n : Int) (w : World) (h1 : ∀ w, Calls Try.prog 129 #[.int .u8 op, .int .u64 a.1, .int .u64 n] w (Gives (.bool false) w)) :
    Calls Try.prog 116 #[.int .u8 op, sV a, .int .u64 n] w (Gives (sBV (0, 0) false) w) := by
  have H1 := Lib.hid h1
  clear h1
  have hx := Lib.hid (SDuo.new a w)
  go_enter Try.func116, Try.ntmps116
  go_wp2_with fail
  refine (H1.out _).mono ?_; rintro e w1 ⟨rfl, b1⟩
  have x1 := hx.out.after b1
  obtain ⟨c0, c1⟩ := x1.2.2.cells
  obtain ⟨f0, f1⟩ := x1.2.2.free
  have X1 := Lib.hid (x1.set (0, 0))
  clear x1 hx b1
  go_wp2_with fail
  exact bodyPost_ret (v := sBV (0, 0) false) (by simp [results, Try.results116, go_sem, c0, c1]) rfl ⟨rfl, X1.out.1⟩
set_option maxHeartbeats 1000000 in
/-- above, with n, or the number behind it. -/
theorem sabove_yes (op : Int) (a : Sp) (n m : Int) (q : Bool) (w : World) (h1 : ∀ w, Calls Try.prog 129 #[.int .u8 op, .int .u64 a.2, .int .u64 n] w (Gives (.bool true) w))
    (h2 : ∀ w, Calls Try.prog 129 #[.int .u8 op, .int .u64 n, .int .u64 n] w (Gives (.bool q) w)) (h0 : 0 ≤ n) (hm : (q = true ∧ m = n) ∨ (q = false ∧ m = n + 1 ∧ m ≤ 18446744073709551615)) :
    Calls Try.prog 115 #[.int .u8 op, sV a, .int .u64 n] w (Gives (sBV (sT (max a.1 m) a.2) (sTok (max a.1 m) a.2)) w) := by
  have H1 := Lib.hid h1
  have H2 := Lib.hid h2
  clear h1 h2
  have hx := Lib.hid (SDuo.new a w)
  have T := Lib.hid (stold_says (max a.1 m) a.2)
  generalize sT (max a.1 m) a.2 = t at *
  generalize sTok (max a.1 m) a.2 = k at *
  have e1 : max a.1 m = if a.1 < m then m else a.1 := by split <;> omega
  rw [e1] at T
  clear e1
  rcases hm with ⟨rfl, rfl⟩ | ⟨rfl, rfl, hm⟩
  all_goals
    rcases int_lt_or a.1 _ with k1 | k1
  all_goals
    first | rw [if_pos k1] at T | rw [if_neg (by omega)] at T
    go_enter Try.func115, Try.ntmps115
    go_wp2_with fail
    refine (H1.out _).mono ?_; rintro e w1 ⟨rfl, b1⟩
    go_wp2_with fail
    refine (H2.out _).mono ?_; rintro e w2 ⟨rfl, b2⟩
    have x2 := (hx.out.after b1).after b2
    obtain ⟨p0, p1⟩ := x2.2.1.cells
    have X2 := Lib.hid x2
    clear x2 hx b1 b2
    go_wp2_with fail
    refine (T.out _).mono ?_; rintro e w3 ⟨rfl, b3⟩
    have x3 := X2.out.after b3
    obtain ⟨c0, c1⟩ := x3.2.2.cells
    obtain ⟨f0, f1⟩ := x3.2.2.free
    have X3 := Lib.hid (x3.set t)
    clear x3 X2 b3 p0 p1
    go_wp2_with fail
    exact bodyPost_ret (v := sBV t k) (by simp [results, Try.results115, go_sem, c0, c1]) rfl ⟨rfl, X3.out.1⟩
set_option maxHeartbeats 1000000 in
theorem sbelow_yes (op : Int) (a : Sp) (n m : Int) (q : Bool) (w : World) (h1 : ∀ w, Calls Try.prog 129 #[.int .u8 op, .int .u64 a.1, .int .u64 n] w (Gives (.bool true) w))
    (h2 : ∀ w, Calls Try.prog 129 #[.int .u8 op, .int .u64 n, .int .u64 n] w (Gives (.bool q) w)) (h0 : n ≤ 18446744073709551615) (hm : (q = true ∧ m = n) ∨ (q = false ∧ m = n - 1 ∧ 0 ≤ m)) :
    Calls Try.prog 116 #[.int .u8 op, sV a, .int .u64 n] w (Gives (sBV (sT a.1 (min a.2 m)) (sTok a.1 (min a.2 m))) w) := by
  have H1 := Lib.hid h1
  have H2 := Lib.hid h2
  clear h1 h2
  have hx := Lib.hid (SDuo.new a w)
  have T := Lib.hid (stold_says a.1 (min a.2 m))
  generalize sT a.1 (min a.2 m) = t at *
  generalize sTok a.1 (min a.2 m) = k at *
  have e1 : min a.2 m = if m < a.2 then m else a.2 := by split <;> omega
  rw [e1] at T
  clear e1
  rcases hm with ⟨rfl, rfl⟩ | ⟨rfl, rfl, hm⟩
  all_goals
    rcases int_lt_or _ a.2 with k1 | k1
  all_goals
    first | rw [if_pos k1] at T | rw [if_neg (by omega)] at T
    go_enter Try.func116, Try.ntmps116
    go_wp2_with fail
    refine (H1.out _).mono ?_; rintro e w1 ⟨rfl, b1⟩
    go_wp2_with fail
    refine (H2.out _).mono ?_; rintro e w2 ⟨rfl, b2⟩
    have x2 := (hx.out.after b1).after b2
    obtain ⟨p0, p1⟩ := x2.2.1.cells
    have X2 := Lib.hid x2
    clear x2 hx b1 b2
    go_wp2_with fail
    refine (T.out _).mono ?_; rintro e w3 ⟨rfl, b3⟩
    have x3 := X2.out.after b3
    obtain ⟨c0, c1⟩ := x3.2.2.cells
    obtain ⟨f0, f1⟩ := x3.2.2.free
    have X3 := Lib.hid (x3.set t)
    clear x3 X2 b3 p0 p1
    go_wp2_with fail
    exact bodyPost_ret (v := sBV t k) (by simp [results, Try.results116, go_sem, c0, c1]) rfl ⟨rfl, X3.out.1⟩

end Go.Proofs.Ytfepokiibdkoeaa


/-
  What span.unlike answers.
  Conditions: the numbers fit their kinds.
-/
namespace Go.Proofs.Ytfepokiibdkoeaa
open Go.RowKit
set_option linter.unusedVariables false

theorem neb_t {a b : Int} (h : ¬ a = b) : (a != b) = true := bne_iff_ne.mpr h
theorem neb_f {a b : Int} (h : a = b) : (a != b) = false := by rw [h]; simp
theorem eqb_t {a b : Int} (h : a = b) : (a == b) = true := beq_iff_eq.mpr h
theorem eqb_f {a b : Int} (h : ¬ a = b) : (a == b) = false := beq_eq_false_iff_ne.mpr h

set_option maxHeartbeats 1000000 in
theorem sun_one (a b : Sp) (w : World) (h : ¬ b.1 = b.2) : Calls Try.prog 114 #[sV a, sV b] w (Gives (sBV a true) w) := by
  have h1 := neb_t h
  clear h
  have hx := Lib.hid (STrio.new a b w)
  go_enter Try.func114, Try.ntmps114
  go_wp2_with fail
  exact bodyPost_ret (v := sBV a true) (by simp [results, Try.results114, go_sem]) rfl ⟨rfl, below_alloc (below_alloc (below_alloc (Below.refl _ _) _) _) _⟩
set_option maxHeartbeats 1000000 in
theorem sun_two (a b : Sp) (w : World) (h : b.1 = b.2) (hh : sH a b.1 = false) : Calls Try.prog 114 #[sV a, sV b] w (Gives (sBV a true) w) := by
  have h1 := neb_f h
  have H := Lib.hid (shas_says a b.1)
  rw [hh] at H
  clear h hh
  have hx := Lib.hid (STrio.new a b w)
  go_enter Try.func114, Try.ntmps114
  go_wp2_with fail
  refine (H.out _).mono ?_; rintro e w1 ⟨rfl, b1⟩
  have x1 := hx.out.after b1
  obtain ⟨p0, p1⟩ := x1.1.2.1.cells
  obtain ⟨c0, c1⟩ := x1.2.cells
  obtain ⟨f0, f1⟩ := x1.2.free
  have X1 := Lib.hid (x1.set a)
  clear x1 hx b1
  go_wp2_with fail
  exact bodyPost_ret (v := sBV a true) (by simp [results, Try.results114, go_sem, c0, c1]) rfl ⟨rfl, X1.out.1.1⟩
set_option maxHeartbeats 1000000 in
theorem sun_three (a b : Sp) (w : World) (h : b.1 = b.2) (hh : sH a b.1 = true) (h3 : a.1 = a.2) : Calls Try.prog 114 #[sV a, sV b] w (Gives (sBV (0, 0) false) w) := by
  have h1 := neb_f h
  have h2 := eqb_t h3
  have H := Lib.hid (shas_says a b.1)
  rw [hh] at H
  clear h hh h3
  have hx := Lib.hid (STrio.new a b w)
  go_enter Try.func114, Try.ntmps114
  go_wp2_with fail
  refine (H.out _).mono ?_; rintro e w1 ⟨rfl, b1⟩
  have x1 := hx.out.after b1
  obtain ⟨p0, p1⟩ := x1.1.2.1.cells
  obtain ⟨c0, c1⟩ := x1.2.cells
  obtain ⟨f0, f1⟩ := x1.2.free
  have X1 := Lib.hid (x1.set (0, 0))
  clear x1 hx b1
  go_wp2_with fail
  exact bodyPost_ret (v := sBV (0, 0) false) (by simp [results, Try.results114, go_sem, c0, c1]) rfl ⟨rfl, X1.out.1.1⟩
set_option maxHeartbeats 1000000 in
theorem sun_four (a b : Sp) (w : World) (h : b.1 = b.2) (hh : sH a b.1 = true) (h3 : ¬ a.1 = a.2) (h4 : a.1 = b.1) (k0 : 0 ≤ a.1 + 1) (k1 : a.1 + 1 ≤ 18446744073709551615) :
    Calls Try.prog 114 #[sV a, sV b] w (Gives (sBV (a.1 + 1, a.2) true) w) := by
  have h1 := neb_f h
  have h2 := eqb_f h3
  have h5 := eqb_t h4
  have H := Lib.hid (shas_says a b.1)
  rw [hh] at H
  clear h hh h3 h4
  have hx := Lib.hid (STrio.new a b w)
  go_enter Try.func114, Try.ntmps114
  go_wp2_with fail
  refine (H.out _).mono ?_; rintro e w1 ⟨rfl, b1⟩
  have x1 := hx.out.after b1
  obtain ⟨p0, p1⟩ := x1.1.2.1.cells
  obtain ⟨q0, q1⟩ := x1.1.2.2.cells
  obtain ⟨c0, c1⟩ := x1.2.cells
  obtain ⟨f0, f1⟩ := x1.2.free
  obtain ⟨g0, g1⟩ := x1.1.2.1.free
  have X1 := Lib.hid x1
  clear x1 hx b1
  go_wp2_with fail
  exact bodyPost_ret (v := sBV (a.1 + 1, a.2) true) (by simp [results, Try.results114, go_sem, c0, c1]) rfl ⟨rfl, ((X1.out.setA (a.1 + 1)).set (a.1 + 1, a.2)).1.1⟩
set_option maxHeartbeats 1000000 in
theorem sun_five (a b : Sp) (w : World) (h : b.1 = b.2) (hh : sH a b.1 = true) (h3 : ¬ a.1 = a.2) (h4 : ¬ a.1 = b.1) (h5 : a.2 = b.2) (k0 : 0 ≤ a.2 - 1) (k1 : a.2 - 1 ≤ 18446744073709551615) :
    Calls Try.prog 114 #[sV a, sV b] w (Gives (sBV (a.1, a.2 - 1) true) w) := by
  have h1 := neb_f h
  have h2 := eqb_f h3
  have h6 := eqb_f h4
  have h7 := eqb_t h5
  have H := Lib.hid (shas_says a b.1)
  rw [hh] at H
  clear h hh h3 h4 h5
  have hx := Lib.hid (STrio.new a b w)
  go_enter Try.func114, Try.ntmps114
  go_wp2_with fail
  refine (H.out _).mono ?_; rintro e w1 ⟨rfl, b1⟩
  have x1 := hx.out.after b1
  obtain ⟨p0, p1⟩ := x1.1.2.1.cells
  obtain ⟨q0, q1⟩ := x1.1.2.2.cells
  obtain ⟨c0, c1⟩ := x1.2.cells
  obtain ⟨f0, f1⟩ := x1.2.free
  obtain ⟨g0, g1⟩ := x1.1.2.1.free
  have X1 := Lib.hid x1
  clear x1 hx b1
  go_wp2_with fail
  exact bodyPost_ret (v := sBV (a.1, a.2 - 1) true) (by simp [results, Try.results114, go_sem, c0, c1]) rfl ⟨rfl, ((X1.out.setB (a.2 - 1)).set (a.1, a.2 - 1)).1.1⟩
set_option maxHeartbeats 1000000 in
theorem sun_six (a b : Sp) (w : World) (h : b.1 = b.2) (hh : sH a b.1 = true) (h3 : ¬ a.1 = a.2) (h4 : ¬ a.1 = b.1) (h5 : ¬ a.2 = b.2) :
    Calls Try.prog 114 #[sV a, sV b] w (Gives (sBV a true) w) := by
  have h1 := neb_f h
  have h2 := eqb_f h3
  have h6 := eqb_f h4
  have h7 := eqb_f h5
  have H := Lib.hid (shas_says a b.1)
  rw [hh] at H
  clear h hh h3 h4 h5
  have hx := Lib.hid (STrio.new a b w)
  go_enter Try.func114, Try.ntmps114
  go_wp2_with fail
  refine (H.out _).mono ?_; rintro e w1 ⟨rfl, b1⟩
  have x1 := hx.out.after b1
  obtain ⟨p0, p1⟩ := x1.1.2.1.cells
  obtain ⟨q0, q1⟩ := x1.1.2.2.cells
  obtain ⟨c0, c1⟩ := x1.2.cells
  obtain ⟨f0, f1⟩ := x1.2.free
  have X1 := Lib.hid (x1.set a)
  clear x1 hx b1
  go_wp2_with fail
  exact bodyPost_ret (v := sBV a true) (by simp [results, Try.results114, go_sem, c0, c1]) rfl ⟨rfl, X1.out.1.1⟩

theorem sunlike_says (a b : Sp) (w : World) (ha : sIn a) (ra : a.1 ≤ a.2) : Calls Try.prog 114 #[sV a, sV b] w (Gives (sBV (sUn a b) (sUnok a b)) w) := by
  unfold sIn In64 at ha
  obtain ⟨⟨a1, a2⟩, a3, a4⟩ := ha
  by_cases h1 : b.1 = b.2
  · by_cases h2 : a.1 ≤ b.1 ∧ b.1 ≤ a.2
    · have hh : sH a b.1 = true := Bool.and_eq_true_iff.mpr ⟨decide_eq_true h2.1, decide_eq_true h2.2⟩
      have hd : decide (b.1 = b.2 ∧ a.1 ≤ b.1 ∧ b.1 ≤ a.2) = true := decide_eq_true ⟨h1, h2⟩
      have e1 : sUn a b = (if a.1 = a.2 then (0, 0) else if a.1 = b.1 then (a.1 + 1, a.2) else if a.2 = b.2 then (a.1, a.2 - 1) else a) := if_pos ⟨h1, h2⟩
      by_cases h3 : a.1 = a.2
      · have e2 : sUnok a b = false := by unfold sUnok; rw [hd, decide_eq_true h3]; rfl
        rw [e1, e2, if_pos h3]
        exact sun_three a b w h1 hh h3
      · have e2 : sUnok a b = true := by unfold sUnok; rw [hd, decide_eq_false h3]; rfl
        rw [e1, e2, if_neg h3]
        by_cases h4 : a.1 = b.1
        · rw [if_pos h4]
          exact sun_four a b w h1 hh h3 h4 (by omega) (by omega)
        · rw [if_neg h4]
          by_cases h5 : a.2 = b.2
          · rw [if_pos h5]
            exact sun_five a b w h1 hh h3 h4 h5 (by omega) (by omega)
          · rw [if_neg h5]
            exact sun_six a b w h1 hh h3 h4 h5
    · have hh : sH a b.1 = false := by
        cases hq : sH a b.1
        · rfl
        · exact absurd (by simpa [sH] using hq) h2
      have hn : ¬ (b.1 = b.2 ∧ a.1 ≤ b.1 ∧ b.1 ≤ a.2) := fun hx => h2 hx.2
      have e1 : sUn a b = a := if_neg hn
      have e2 : sUnok a b = true := by unfold sUnok; rw [decide_eq_false hn]; rfl
      rw [e1, e2]
      exact sun_two a b w h1 hh
  · have hn : ¬ (b.1 = b.2 ∧ a.1 ≤ b.1 ∧ b.1 ≤ a.2) := fun hx => h1 hx.1
    have e1 : sUn a b = a := if_neg hn
    have e2 : sUnok a b = true := by unfold sUnok; rw [decide_eq_false hn]; rfl
    rw [e1, e2]
    exact sun_one a b w h1

end Go.Proofs.Ytfepokiibdkoeaa


/-
  span.If, case by case.
  Conditions: the numbers fit their kinds.
-/
namespace Go.Proofs.Ytfepokiibdkoeaa
open Go.RowKit
set_option linter.unusedVariables false

theorem sif_bad (op : Int) (a b : Sp) (w : World) (h : sRR a b = false) : Calls Try.prog 99 #[.int .u8 op, sV a, sV b] w (Gives (sBV (0, 0) false) w) := by
  have h1 := Lib.hid (sboth_says a b)
  rw [h] at h1
  clear h
  have hx := Lib.hid (STrio.new a b w)
  go_enter Try.func99, Try.ntmps99
  go_wp2_with fail
  refine (h1.out _).mono ?_; rintro e w1 ⟨rfl, b1⟩
  have x1 := hx.out.after b1
  obtain ⟨p0, p1⟩ := x1.1.2.1.cells
  obtain ⟨q0, q1⟩ := x1.1.2.2.cells
  obtain ⟨c0, c1⟩ := x1.2.cells
  obtain ⟨f0, f1⟩ := x1.2.free
  have X1 := Lib.hid (x1.set (0, 0))
  clear x1 hx b1
  go_wp2_with fail
  exact bodyPost_ret (v := sBV (0, 0) false) (by simp [results, Try.results99, go_sem, c0, c1]) rfl ⟨rfl, X1.out.1.1⟩

set_option maxHeartbeats 2000000 in
theorem sif_jeq (a b t : Sp) (k : Bool) (w : World) (h : sRR a b = true) (hc : ∀ w, Calls Try.prog 77 #[sV a, sV b] w (Gives (sBV t k) w)) :
    Calls Try.prog 99 #[.int .u8 16, sV a, sV b] w (Gives (sBV t k) w) := by
  have C := Lib.hid hc
  clear hc
  have h1 := Lib.hid (sboth_says a b)
  rw [h] at h1
  clear h
  have hx := Lib.hid (STrio.new a b w)
  go_enter Try.func99, Try.ntmps99
  go_wp2_with fail
  refine (h1.out _).mono ?_; rintro e w1 ⟨rfl, b1⟩
  have x1 := hx.out.after b1
  obtain ⟨p0, p1⟩ := x1.1.2.1.cells
  obtain ⟨q0, q1⟩ := x1.1.2.2.cells
  obtain ⟨c0, c1⟩ := x1.2.cells
  obtain ⟨f0, f1⟩ := x1.2.free
  have X1 := Lib.hid x1
  clear x1 hx b1
  go_wp2_with fail
  refine (C.out _).mono ?_; rintro e w2 ⟨rfl, b2⟩
  have x2 := X1.out.after b2
  clear c0 c1 f0 f1
  obtain ⟨c0, c1⟩ := x2.2.cells
  obtain ⟨f0, f1⟩ := x2.2.free
  have X2 := Lib.hid (x2.set t)
  clear x2 X1 b2 p0 p1 q0 q1
  go_wp2_with fail
  exact bodyPost_ret (v := sBV t k) (by simp [results, Try.results99, go_sem, c0, c1]) rfl ⟨rfl, X2.out.1.1⟩

set_option maxHeartbeats 2000000 in
theorem sif_jne (a b t : Sp) (k : Bool) (w : World) (h : sRR a b = true) (hc : ∀ w, Calls Try.prog 114 #[sV a, sV b] w (Gives (sBV t k) w)) :
    Calls Try.prog 99 #[.int .u8 80, sV a, sV b] w (Gives (sBV t k) w) := by
  have C := Lib.hid hc
  clear hc
  have h1 := Lib.hid (sboth_says a b)
  rw [h] at h1
  clear h
  have hx := Lib.hid (STrio.new a b w)
  go_enter Try.func99, Try.ntmps99
  go_wp2_with fail
  refine (h1.out _).mono ?_; rintro e w1 ⟨rfl, b1⟩
  have x1 := hx.out.after b1
  obtain ⟨p0, p1⟩ := x1.1.2.1.cells
  obtain ⟨q0, q1⟩ := x1.1.2.2.cells
  obtain ⟨c0, c1⟩ := x1.2.cells
  obtain ⟨f0, f1⟩ := x1.2.free
  have X1 := Lib.hid x1
  clear x1 hx b1
  go_wp2_with fail
  refine (C.out _).mono ?_; rintro e w2 ⟨rfl, b2⟩
  have x2 := X1.out.after b2
  clear c0 c1 f0 f1
  obtain ⟨c0, c1⟩ := x2.2.cells
  obtain ⟨f0, f1⟩ := x2.2.free
  have X2 := Lib.hid (x2.set t)
  clear x2 X1 b2 p0 p1 q0 q1
  go_wp2_with fail
  exact bodyPost_ret (v := sBV t k) (by simp [results, Try.results99, go_sem, c0, c1]) rfl ⟨rfl, X2.out.1.1⟩

set_option maxHeartbeats 2000000 in
theorem sif_jgt (a b t : Sp) (k : Bool) (w : World) (h : sRR a b = true) (hc : ∀ w, Calls Try.prog 115 #[.int .u8 32, sV a, .int .u64 b.1] w (Gives (sBV t k) w)) :
    Calls Try.prog 99 #[.int .u8 32, sV a, sV b] w (Gives (sBV t k) w) := by
  have C := Lib.hid hc
  clear hc
  have h1 := Lib.hid (sboth_says a b)
  rw [h] at h1
  clear h
  have hx := Lib.hid (STrio.new a b w)
  go_enter Try.func99, Try.ntmps99
  go_wp2_with fail
  refine (h1.out _).mono ?_; rintro e w1 ⟨rfl, b1⟩
  have x1 := hx.out.after b1
  obtain ⟨p0, p1⟩ := x1.1.2.1.cells
  obtain ⟨q0, q1⟩ := x1.1.2.2.cells
  obtain ⟨c0, c1⟩ := x1.2.cells
  obtain ⟨f0, f1⟩ := x1.2.free
  have X1 := Lib.hid x1
  clear x1 hx b1
  go_wp2_with fail
  refine (C.out _).mono ?_; rintro e w2 ⟨rfl, b2⟩
  have x2 := X1.out.after b2
  clear c0 c1 f0 f1
  obtain ⟨c0, c1⟩ := x2.2.cells
  obtain ⟨f0, f1⟩ := x2.2.free
  have X2 := Lib.hid (x2.set t)
  clear x2 X1 b2 p0 p1 q0 q1
  go_wp2_with fail
  exact bodyPost_ret (v := sBV t k) (by simp [results, Try.results99, go_sem, c0, c1]) rfl ⟨rfl, X2.out.1.1⟩

set_option maxHeartbeats 2000000 in
theorem sif_jge (a b t : Sp) (k : Bool) (w : World) (h : sRR a b = true) (hc : ∀ w, Calls Try.prog 115 #[.int .u8 48, sV a, .int .u64 b.1] w (Gives (sBV t k) w)) :
    Calls Try.prog 99 #[.int .u8 48, sV a, sV b] w (Gives (sBV t k) w) := by
  have C := Lib.hid hc
  clear hc
  have h1 := Lib.hid (sboth_says a b)
  rw [h] at h1
  clear h
  have hx := Lib.hid (STrio.new a b w)
  go_enter Try.func99, Try.ntmps99
  go_wp2_with fail
  refine (h1.out _).mono ?_; rintro e w1 ⟨rfl, b1⟩
  have x1 := hx.out.after b1
  obtain ⟨p0, p1⟩ := x1.1.2.1.cells
  obtain ⟨q0, q1⟩ := x1.1.2.2.cells
  obtain ⟨c0, c1⟩ := x1.2.cells
  obtain ⟨f0, f1⟩ := x1.2.free
  have X1 := Lib.hid x1
  clear x1 hx b1
  go_wp2_with fail
  refine (C.out _).mono ?_; rintro e w2 ⟨rfl, b2⟩
  have x2 := X1.out.after b2
  clear c0 c1 f0 f1
  obtain ⟨c0, c1⟩ := x2.2.cells
  obtain ⟨f0, f1⟩ := x2.2.free
  have X2 := Lib.hid (x2.set t)
  clear x2 X1 b2 p0 p1 q0 q1
  go_wp2_with fail
  exact bodyPost_ret (v := sBV t k) (by simp [results, Try.results99, go_sem, c0, c1]) rfl ⟨rfl, X2.out.1.1⟩

set_option maxHeartbeats 2000000 in
theorem sif_jlt (a b t : Sp) (k : Bool) (w : World) (h : sRR a b = true) (hc : ∀ w, Calls Try.prog 116 #[.int .u8 160, sV a, .int .u64 b.2] w (Gives (sBV t k) w)) :
    Calls Try.prog 99 #[.int .u8 160, sV a, sV b] w (Gives (sBV t k) w) := by
  have C := Lib.hid hc
  clear hc
  have h1 := Lib.hid (sboth_says a b)
  rw [h] at h1
  clear h
  have hx := Lib.hid (STrio.new a b w)
  go_enter Try.func99, Try.ntmps99
  go_wp2_with fail
  refine (h1.out _).mono ?_; rintro e w1 ⟨rfl, b1⟩
  have x1 := hx.out.after b1
  obtain ⟨p0, p1⟩ := x1.1.2.1.cells
  obtain ⟨q0, q1⟩ := x1.1.2.2.cells
  obtain ⟨c0, c1⟩ := x1.2.cells
  obtain ⟨f0, f1⟩ := x1.2.free
  have X1 := Lib.hid x1
  clear x1 hx b1
  go_wp2_with fail
  refine (C.out _).mono ?_; rintro e w2 ⟨rfl, b2⟩
  have x2 := X1.out.after b2
  clear c0 c1 f0 f1
  obtain ⟨c0, c1⟩ := x2.2.cells
  obtain ⟨f0, f1⟩ := x2.2.free
  have X2 := Lib.hid (x2.set t)
  clear x2 X1 b2 p0 p1 q0 q1
  go_wp2_with fail
  exact bodyPost_ret (v := sBV t k) (by simp [results, Try.results99, go_sem, c0, c1]) rfl ⟨rfl, X2.out.1.1⟩

set_option maxHeartbeats 2000000 in
theorem sif_jle (a b t : Sp) (k : Bool) (w : World) (h : sRR a b = true) (hc : ∀ w, Calls Try.prog 116 #[.int .u8 176, sV a, .int .u64 b.2] w (Gives (sBV t k) w)) :
    Calls Try.prog 99 #[.int .u8 176, sV a, sV b] w (Gives (sBV t k) w) := by
  have C := Lib.hid hc
  clear hc
  have h1 := Lib.hid (sboth_says a b)
  rw [h] at h1
  clear h
  have hx := Lib.hid (STrio.new a b w)
  go_enter Try.func99, Try.ntmps99
  go_wp2_with fail
  refine (h1.out _).mono ?_; rintro e w1 ⟨rfl, b1⟩
  have x1 := hx.out.after b1
  obtain ⟨p0, p1⟩ := x1.1.2.1.cells
  obtain ⟨q0, q1⟩ := x1.1.2.2.cells
  obtain ⟨c0, c1⟩ := x1.2.cells
  obtain ⟨f0, f1⟩ := x1.2.free
  have X1 := Lib.hid x1
  clear x1 hx b1
  go_wp2_with fail
  refine (C.out _).mono ?_; rintro e w2 ⟨rfl, b2⟩
  have x2 := X1.out.after b2
  clear c0 c1 f0 f1
  obtain ⟨c0, c1⟩ := x2.2.cells
  obtain ⟨f0, f1⟩ := x2.2.free
  have X2 := Lib.hid (x2.set t)
  clear x2 X1 b2 p0 p1 q0 q1
  go_wp2_with fail
  exact bodyPost_ret (v := sBV t k) (by simp [results, Try.results99, go_sem, c0, c1]) rfl ⟨rfl, X2.out.1.1⟩

set_option maxHeartbeats 2000000 in
theorem sif_jset_a (a b : Sp) (hz : a.2 = 0) (w : World) (h : sRR a b = true) :
    Calls Try.prog 99 #[.int .u8 64, sV a, sV b] w (Gives (sBV (0, 0) false) w) := by
  have h1 := Lib.hid (sboth_says a b)
  rw [h] at h1
  clear h
  have hx := Lib.hid (STrio.new a b w)
  have z1 := eqb_t hz
  clear hz
  go_enter Try.func99, Try.ntmps99
  go_wp2_with fail
  refine (h1.out _).mono ?_; rintro e w1 ⟨rfl, b1⟩
  have x1 := hx.out.after b1
  obtain ⟨p0, p1⟩ := x1.1.2.1.cells
  obtain ⟨q0, q1⟩ := x1.1.2.2.cells
  obtain ⟨c0, c1⟩ := x1.2.cells
  obtain ⟨f0, f1⟩ := x1.2.free
  have X1 := Lib.hid (x1.set (0, 0))
  clear x1 hx b1
  go_wp2_with fail
  exact bodyPost_ret (v := sBV (0, 0) false) (by simp [results, Try.results99, go_sem, c0, c1]) rfl ⟨rfl, X1.out.1.1⟩

set_option maxHeartbeats 2000000 in
theorem sif_jset_b (a b : Sp) (hz : ¬ a.2 = 0) (hy : b.2 = 0) (w : World) (h : sRR a b = true) :
    Calls Try.prog 99 #[.int .u8 64, sV a, sV b] w (Gives (sBV (0, 0) false) w) := by
  have h1 := Lib.hid (sboth_says a b)
  rw [h] at h1
  clear h
  have hx := Lib.hid (STrio.new a b w)
  have z1 := eqb_f hz
  have z2 := eqb_t hy
  clear hz hy
  go_enter Try.func99, Try.ntmps99
  go_wp2_with fail
  refine (h1.out _).mono ?_; rintro e w1 ⟨rfl, b1⟩
  have x1 := hx.out.after b1
  obtain ⟨p0, p1⟩ := x1.1.2.1.cells
  obtain ⟨q0, q1⟩ := x1.1.2.2.cells
  obtain ⟨c0, c1⟩ := x1.2.cells
  obtain ⟨f0, f1⟩ := x1.2.free
  have X1 := Lib.hid (x1.set (0, 0))
  clear x1 hx b1
  go_wp2_with fail
  exact bodyPost_ret (v := sBV (0, 0) false) (by simp [results, Try.results99, go_sem, c0, c1]) rfl ⟨rfl, X1.out.1.1⟩

set_option maxHeartbeats 2000000 in
theorem sif_jset (a b : Sp) (hz : ¬ a.2 = 0) (hy : ¬ b.2 = 0) (w : World) (h : sRR a b = true) :
    Calls Try.prog 99 #[.int .u8 64, sV a, sV b] w (Gives (sBV a true) w) := by
  have h1 := Lib.hid (sboth_says a b)
  rw [h] at h1
  clear h
  have hx := Lib.hid (STrio.new a b w)
  have z1 := eqb_f hz
  have z2 := eqb_f hy
  clear hz hy
  go_enter Try.func99, Try.ntmps99
  go_wp2_with fail
  refine (h1.out _).mono ?_; rintro e w1 ⟨rfl, b1⟩
  have x1 := hx.out.after b1
  obtain ⟨p0, p1⟩ := x1.1.2.1.cells
  obtain ⟨q0, q1⟩ := x1.1.2.2.cells
  obtain ⟨c0, c1⟩ := x1.2.cells
  obtain ⟨f0, f1⟩ := x1.2.free
  have X1 := Lib.hid (x1.set a)
  clear x1 hx b1
  go_wp2_with fail
  exact bodyPost_ret (v := sBV a true) (by simp [results, Try.results99, go_sem, c0, c1]) rfl ⟨rfl, X1.out.1.1⟩

set_option maxHeartbeats 2000000 in
theorem sif_other (op : Int) (a b : Sp) (o1 : ¬ op = 16) (o2 : ¬ op = 80) (o3 : ¬ op = 64) (o4 : ¬ op = 32) (o5 : ¬ op = 48) (o6 : ¬ op = 160) (o7 : ¬ op = 176) (w : World) (h : sRR a b = true) :
    Calls Try.prog 99 #[.int .u8 op, sV a, sV b] w (Gives (sBV a true) w) := by
  have h1 := Lib.hid (sboth_says a b)
  rw [h] at h1
  clear h
  have hx := Lib.hid (STrio.new a b w)
  replace o1 := eqb_f o1
  replace o2 := eqb_f o2
  replace o3 := eqb_f o3
  replace o4 := eqb_f o4
  replace o5 := eqb_f o5
  replace o6 := eqb_f o6
  replace o7 := eqb_f o7
  go_enter Try.func99, Try.ntmps99
  go_wp2_with fail
  refine (h1.out _).mono ?_; rintro e w1 ⟨rfl, b1⟩
  have x1 := hx.out.after b1
  obtain ⟨p0, p1⟩ := x1.1.2.1.cells
  obtain ⟨q0, q1⟩ := x1.1.2.2.cells
  obtain ⟨c0, c1⟩ := x1.2.cells
  obtain ⟨f0, f1⟩ := x1.2.free
  have X1 := Lib.hid (x1.set a)
  clear x1 hx b1
  go_wp2_with fail
  exact bodyPost_ret (v := sBV a true) (by simp [results, Try.results99, go_sem, c0, c1]) rfl ⟨rfl, X1.out.1.1⟩

end Go.Proofs.Ytfepokiibdkoeaa


/-
  span.If, of whatever op and spans.
  Conditions: the numbers fit their kinds.
-/
namespace Go.Proofs.Ytfepokiibdkoeaa
open Go.RowKit
set_option linter.unusedVariables false

theorem sif_says (op : Int) (a b : Sp) (w : World) (ha : sIn a) (hb : sIn b) : Calls Try.prog 99 #[.int .u8 op, sV a, sV b] w (Gives (sBV (sIf op a b) (sIfok op a b)) w) := by
  unfold sIf sIfok
  cases h : sRR a b
  · exact sif_bad op a b w h
  · rw [if_pos rfl, Bool.true_and]
    obtain ⟨ra, rb⟩ := sRR_true h
    have ha' := ha
    have hb' := hb
    unfold sIn In64 at ha' hb'
    obtain ⟨a1, a2⟩ := ha'
    obtain ⟨b1, b2⟩ := hb'
    by_cases o1 : op = 16
    · subst o1
      exact sif_jeq a b _ _ w h (smeet_says a b)
    · by_cases o2 : op = 80
      · subst o2
        exact sif_jne a b _ _ w h (fun w => sunlike_says a b w ha ra)
      · by_cases o3 : op = 64
        · subst o3
          have e1 : sIf' 64 a b = if a.2 = 0 ∨ b.2 = 0 then (0, 0) else a := rfl
          have e2 : sIfok' 64 a b = !decide (a.2 = 0 ∨ b.2 = 0) := rfl
          rw [e1, e2]
          by_cases z1 : a.2 = 0
          · rw [if_pos (Or.inl z1), decide_eq_true (Or.inl z1)]
            exact sif_jset_a a b z1 w h
          · by_cases z2 : b.2 = 0
            · rw [if_pos (Or.inr z2), decide_eq_true (Or.inr z2)]
              exact sif_jset_b a b z1 z2 w h
            · have hn : ¬ (a.2 = 0 ∨ b.2 = 0) := fun x => x.elim z1 z2
              rw [if_neg hn, decide_eq_false hn]
              exact sif_jset a b z1 z2 w h
        · by_cases o4 : op = 32
          · subst o4
            have e1 : sIf' 32 a b = if b.1 < a.2 then sT (max a.1 (b.1 + 1)) a.2 else (0, 0) := rfl
            have e2 : sIfok' 32 a b = (decide (b.1 < a.2) && sTok (max a.1 (b.1 + 1)) a.2) := rfl
            rw [e1, e2]
            have hq : condV 32 true b.1 b.1 = false := by rw [cw_32 b1 b1]; exact decide_eq_false (by omega)
            by_cases z : b.1 < a.2
            · rw [if_pos z, decide_eq_true z, Bool.true_and]
              have hp : condV 32 true a.2 b.1 = true := by rw [cw_32 a2 b1]; exact decide_eq_true z
              exact sif_jgt a b _ _ w h (fun w => sabove_yes 32 a b.1 (b.1 + 1) false w (holds_to a2 b1 hp) (holds_to b1 b1 hq) b1.1 (Or.inr ⟨rfl, rfl, by omega⟩))
            · rw [if_neg z, decide_eq_false z, Bool.false_and]
              have hp : condV 32 true a.2 b.1 = false := by rw [cw_32 a2 b1]; exact decide_eq_false z
              exact sif_jgt a b _ _ w h (fun w => sabove_no 32 a b.1 w (holds_to a2 b1 hp))
          · by_cases o5 : op = 48
            · subst o5
              have e1 : sIf' 48 a b = if b.1 ≤ a.2 then sT (max a.1 b.1) a.2 else (0, 0) := rfl
              have e2 : sIfok' 48 a b = (decide (b.1 ≤ a.2) && sTok (max a.1 b.1) a.2) := rfl
              rw [e1, e2]
              have hq : condV 48 true b.1 b.1 = true := by rw [cw_48 b1 b1]; exact decide_eq_true (by omega)
              by_cases z : b.1 ≤ a.2
              · rw [if_pos z, decide_eq_true z, Bool.true_and]
                have hp : condV 48 true a.2 b.1 = true := by rw [cw_48 a2 b1]; exact decide_eq_true z
                exact sif_jge a b _ _ w h (fun w => sabove_yes 48 a b.1 b.1 true w (holds_to a2 b1 hp) (holds_to b1 b1 hq) b1.1 (Or.inl ⟨rfl, rfl⟩))
              · rw [if_neg z, decide_eq_false z, Bool.false_and]
                have hp : condV 48 true a.2 b.1 = false := by rw [cw_48 a2 b1]; exact decide_eq_false z
                exact sif_jge a b _ _ w h (fun w => sabove_no 48 a b.1 w (holds_to a2 b1 hp))
            · by_cases o6 : op = 160
              · subst o6
                have e1 : sIf' 160 a b = if a.1 < b.2 then sT a.1 (min a.2 (b.2 - 1)) else (0, 0) := rfl
                have e2 : sIfok' 160 a b = (decide (a.1 < b.2) && sTok a.1 (min a.2 (b.2 - 1))) := rfl
                rw [e1, e2]
                have hq : condV 160 true b.2 b.2 = false := by rw [cw_160 b2 b2]; exact decide_eq_false (by omega)
                by_cases z : a.1 < b.2
                · rw [if_pos z, decide_eq_true z, Bool.true_and]
                  have hp : condV 160 true a.1 b.2 = true := by rw [cw_160 a1 b2]; exact decide_eq_true z
                  exact sif_jlt a b _ _ w h (fun w => sbelow_yes 160 a b.2 (b.2 - 1) false w (holds_to a1 b2 hp) (holds_to b2 b2 hq) b2.2 (Or.inr ⟨rfl, rfl, by omega⟩))
                · rw [if_neg z, decide_eq_false z, Bool.false_and]
                  have hp : condV 160 true a.1 b.2 = false := by rw [cw_160 a1 b2]; exact decide_eq_false z
                  exact sif_jlt a b _ _ w h (fun w => sbelow_no 160 a b.2 w (holds_to a1 b2 hp))
              · by_cases o7 : op = 176
                · subst o7
                  have e1 : sIf' 176 a b = if a.1 ≤ b.2 then sT a.1 (min a.2 b.2) else (0, 0) := rfl
                  have e2 : sIfok' 176 a b = (decide (a.1 ≤ b.2) && sTok a.1 (min a.2 b.2)) := rfl
                  rw [e1, e2]
                  have hq : condV 176 true b.2 b.2 = true := by rw [cw_176 b2 b2]; exact decide_eq_true (by omega)
                  by_cases z : a.1 ≤ b.2
                  · rw [if_pos z, decide_eq_true z, Bool.true_and]
                    have hp : condV 176 true a.1 b.2 = true := by rw [cw_176 a1 b2]; exact decide_eq_true z
                    exact sif_jle a b _ _ w h (fun w => sbelow_yes 176 a b.2 b.2 true w (holds_to a1 b2 hp) (holds_to b2 b2 hq) b2.2 (Or.inl ⟨rfl, rfl⟩))
                  · rw [if_neg z, decide_eq_false z, Bool.false_and]
                    have hp : condV 176 true a.1 b.2 = false := by rw [cw_176 a1 b2]; exact decide_eq_false z
                    exact sif_jle a b _ _ w h (fun w => sbelow_no 176 a b.2 w (holds_to a1 b2 hp))
                · have e1 : sIf' op a b = a := by unfold sIf'; rw [if_neg o1, if_neg o2, if_neg o3, if_neg o4, if_neg o5, if_neg o6, if_neg o7]
                  have e2 : sIfok' op a b = true := by unfold sIfok'; rw [if_neg o1, if_neg o2, if_neg o3, if_neg o4, if_neg o5, if_neg o6, if_neg o7]
                  rw [e1, e2]
                  exact sif_other op a b o1 o2 o3 o4 o5 o6 o7 w h

end Go.Proofs.Ytfepokiibdkoeaa


/-
  The program's fact: both parts' If.
  Conditions: the numbers fit their kinds.
-/
namespace Go.Proofs.Ytfepokiibdkoeaa
open Go.RowKit
set_option linter.unusedVariables false

/-- Two facts' blocks, and behind them two results'. -/
def FQ (a b x y : Fc) (w u : World) : Prop := FDuo a b w u ∧ fB (w.heap.size + 1 + 1) x u ∧ fB (w.heap.size + 1 + 1 + 1) y u
theorem FQ.new (a b x y : Fc) (w : World) : FQ a b x y w ((((w.alloc (.cells (fCells a) 28)).alloc (.cells (fCells b) 28)).alloc (.cells (fCells x) 28)).alloc (.cells (fCells y) 28)) :=
  ⟨((FDuo.new a b w).alloc _).alloc _, (fB.new _ x (by simp)).alloc _, fB.new _ y (by simp)⟩
theorem FQ.after {a b x y : Fc} {w u u' : World} (h : FQ a b x y w u) (k : Below u.heap.size u u') : FQ a b x y w u' := ⟨h.1.after k, h.2.1.after k, h.2.2.after k⟩
theorem FQ.xs {a b x y : Fc} {w u : World} (h : FQ a b x y w u) (s : Fc) :
    FQ a b s y w ((((u.setCell ⟨w.heap.size + 1 + 1, 0, none⟩ (uV s.1.1)).setCell ⟨w.heap.size + 1 + 1, 1, none⟩ (uV s.1.2)).setCell ⟨w.heap.size + 1 + 1, 2, none⟩ (.int .u64 s.2.1)).setCell ⟨w.heap.size + 1 + 1, 3, none⟩ (.int .u64 s.2.2)) :=
  ⟨⟨below_four h.1.1 (by omega) s, h.1.2.1.others (by omega), h.1.2.2.others (by omega)⟩, h.2.1.set s, h.2.2.others (by omega)⟩
theorem FQ.ys {a b x y : Fc} {w u : World} (h : FQ a b x y w u) (s : Fc) :
    FQ a b x s w ((((u.setCell ⟨w.heap.size + 1 + 1 + 1, 0, none⟩ (uV s.1.1)).setCell ⟨w.heap.size + 1 + 1 + 1, 1, none⟩ (uV s.1.2)).setCell ⟨w.heap.size + 1 + 1 + 1, 2, none⟩ (.int .u64 s.2.1)).setCell ⟨w.heap.size + 1 + 1 + 1, 3, none⟩ (.int .u64 s.2.2)) :=
  ⟨⟨below_four h.1.1 (by omega) s, h.1.2.1.others (by omega), h.1.2.2.others (by omega)⟩, h.2.1.others (by omega), h.2.2.set s⟩
theorem FQ.two {a b x y : Fc} {w u : World} (h : FQ a b x y w u) {k : Nat} (hk : w.heap.size + 1 < k) (i j : Nat) (p q : Value) {r s : Fc}
    (hx : fB (w.heap.size + 1 + 1) r ((u.setCell ⟨k, i, none⟩ p).setCell ⟨k, j, none⟩ q)) (hy : fB (w.heap.size + 1 + 1 + 1) s ((u.setCell ⟨k, i, none⟩ p).setCell ⟨k, j, none⟩ q)) :
    FQ a b r s w ((u.setCell ⟨k, i, none⟩ p).setCell ⟨k, j, none⟩ q) :=
  ⟨⟨(h.1.1.setCell (p := ⟨k, i, none⟩) (by dsimp only; omega) _).setCell (p := ⟨k, j, none⟩) (by dsimp only; omega) _, (h.1.2.1.other _ (by omega)).other _ (by omega), (h.1.2.2.other _ (by omega)).other _ (by omega)⟩, hx, hy⟩
theorem FQ.x2 {a b x y : Fc} {w u : World} (h : FQ a b x y w u) (s : Sp) : FQ a b (x.1, s) y w ((u.setCell ⟨w.heap.size + 1 + 1, 2, none⟩ (.int .u64 s.1)).setCell ⟨w.heap.size + 1 + 1, 3, none⟩ (.int .u64 s.2)) :=
  h.two (by omega) 2 3 _ _ (Blk.set (Blk.set (show Blk _ _ _ _ from h.2.1) 2 (.int .u64 s.1)) 3 (.int .u64 s.2)) ((h.2.2.other _ (by omega)).other _ (by omega))
theorem FQ.y2 {a b x y : Fc} {w u : World} (h : FQ a b x y w u) (s : Sp) : FQ a b x (y.1, s) w ((u.setCell ⟨w.heap.size + 1 + 1 + 1, 2, none⟩ (.int .u64 s.1)).setCell ⟨w.heap.size + 1 + 1 + 1, 3, none⟩ (.int .u64 s.2)) :=
  h.two (by omega) 2 3 _ _ ((h.2.1.other _ (by omega)).other _ (by omega)) (Blk.set (Blk.set (show Blk _ _ _ _ from h.2.2) 2 (.int .u64 s.1)) 3 (.int .u64 s.2))
theorem FQ.x1 {a b x y : Fc} {w u : World} (h : FQ a b x y w u) (s : Tn) : FQ a b (s, x.2) y w ((u.setCell ⟨w.heap.size + 1 + 1, 0, none⟩ (uV s.1)).setCell ⟨w.heap.size + 1 + 1, 1, none⟩ (uV s.2)) :=
  h.two (by omega) 0 1 _ _ (Blk.set (Blk.set (show Blk _ _ _ _ from h.2.1) 0 (uV s.1)) 1 (uV s.2)) ((h.2.2.other _ (by omega)).other _ (by omega))
theorem FQ.y1 {a b x y : Fc} {w u : World} (h : FQ a b x y w u) (s : Tn) : FQ a b x (s, y.2) w ((u.setCell ⟨w.heap.size + 1 + 1 + 1, 0, none⟩ (uV s.1)).setCell ⟨w.heap.size + 1 + 1 + 1, 1, none⟩ (uV s.2)) :=
  h.two (by omega) 0 1 _ _ ((h.2.1.other _ (by omega)).other _ (by omega)) (Blk.set (Blk.set (show Blk _ _ _ _ from h.2.2) 0 (uV s.1)) 1 (uV s.2))

/-- What narrowed answers: two facts, and whether there are such. -/
abbrev fTV (x y : Fc) (k : Bool) : Value := .tuple #[fV x, fV y, .bool k]

set_option maxRecDepth 100000 in
set_option maxHeartbeats 4000000 in
theorem fp_nar_a1 (op : Int) (ho : ¬ op = 16) (a b : Fc) (w : World)
    (s1 : Sp) (I1 : Hid (∀ w, Calls Try.prog 99 #[.int .u8 op, sV a.2, sV b.2] w (Gives (sBV s1 false) w)))
    (t : Int) (T : Hid (∀ w, Calls Try.prog 98 #[.int .u8 op] w (Gives (.tuple #[.int .u8 t, .bool false]) w))) :
    Calls Try.prog 68 #[.int .u8 op, fV a, fV b] w (Gives (fTV (a.1, s1) b false) w) := by
  have hx : Hid (FQ a b fZ fZ w ((((w.alloc (.cells #[uV a.1.1, uV a.1.2, .int .u64 a.2.1, .int .u64 a.2.2] 28)).alloc (.cells #[uV b.1.1, uV b.1.2, .int .u64 b.2.1, .int .u64 b.2.2] 28)).alloc (.cells #[.int .u64 0, .int .u64 0, .int .u64 0, .int .u64 0] 28)).alloc (.cells #[.int .u64 0, .int .u64 0, .int .u64 0, .int .u64 0] 28))) := Lib.hid (FQ.new a b fZ fZ w)
  go_enter Try.func68, Try.ntmps68
  go_wp2_with fail
  generalize (((w.alloc (.cells #[uV a.1.1, uV a.1.2, .int .u64 a.2.1, .int .u64 a.2.2] 28)).alloc (.cells #[uV b.1.1, uV b.1.2, .int .u64 b.2.1, .int .u64 b.2.2] 28)).alloc (.cells #[.int .u64 0, .int .u64 0, .int .u64 0, .int .u64 0] 28)).alloc (.cells #[.int .u64 0, .int .u64 0, .int .u64 0, .int .u64 0] 28) = u at *
  obtain ⟨p0, p1, p2, p3⟩ := hx.out.1.2.1.cells
  obtain ⟨q0, q1, q2, q3⟩ := hx.out.1.2.2.cells
  obtain ⟨c0, c1, c2, c3⟩ := hx.out.2.1.cells
  obtain ⟨d0, d1, d2, d3⟩ := hx.out.2.2.cells
  obtain ⟨f0, f1, f2, f3⟩ := hx.out.2.1.free
  obtain ⟨h0, h1, h2, h3⟩ := hx.out.2.2.free
  go_region
  have x0 := ((hx.out.xs a).ys b).after (Below.drew (Below.refl _ _))
  clear hx p0 p1 p2 p3 q0 q1 q2 q3 c0 c1 c2 c3 d0 d1 d2 d3 f0 f1 f2 f3 h0 h1 h2 h3
  generalize World.drew _ = u1 at *
  obtain ⟨p0, p1, p2, p3⟩ := x0.1.2.1.cells
  obtain ⟨q0, q1, q2, q3⟩ := x0.1.2.2.cells
  obtain ⟨c0, c1, c2, c3⟩ := x0.2.1.cells
  obtain ⟨d0, d1, d2, d3⟩ := x0.2.2.cells
  obtain ⟨f0, f1, f2, f3⟩ := x0.2.1.free
  obtain ⟨h0, h1, h2, h3⟩ := x0.2.2.free
  have X0 := Lib.hid x0
  clear x0
  go_wp2_with fail
  refine (I1.out _).mono ?_; rintro e w1 ⟨rfl, b1⟩
  have x1 := X0.out.after b1
  clear X0 b1 I1 p0 p1 p2 p3 q0 q1 q2 q3 c0 c1 c2 c3 d0 d1 d2 d3 f0 f1 f2 f3 h0 h1 h2 h3
  obtain ⟨p0, p1, p2, p3⟩ := x1.1.2.1.cells
  obtain ⟨q0, q1, q2, q3⟩ := x1.1.2.2.cells
  obtain ⟨c0, c1, c2, c3⟩ := x1.2.1.cells
  obtain ⟨d0, d1, d2, d3⟩ := x1.2.2.cells
  obtain ⟨f0, f1, f2, f3⟩ := x1.2.1.free
  obtain ⟨h0, h1, h2, h3⟩ := x1.2.2.free
  have X1 := Lib.hid x1
  clear x1
  go_wp2_with fail
  refine (T.out _).mono ?_; rintro e w2 ⟨rfl, b2⟩
  have x2 := (X1.out.x2 s1).after b2
  clear X1 b2 T p0 p1 p2 p3 q0 q1 q2 q3 c0 c1 c2 c3 d0 d1 d2 d3 f0 f1 f2 f3 h0 h1 h2 h3
  obtain ⟨p0, p1, p2, p3⟩ := x2.1.2.1.cells
  obtain ⟨q0, q1, q2, q3⟩ := x2.1.2.2.cells
  obtain ⟨c0, c1, c2, c3⟩ := x2.2.1.cells
  obtain ⟨d0, d1, d2, d3⟩ := x2.2.2.cells
  obtain ⟨f0, f1, f2, f3⟩ := x2.2.1.free
  obtain ⟨h0, h1, h2, h3⟩ := x2.2.2.free
  have X2 := Lib.hid x2
  clear x2
  have xe := X2.out
  clear X2
  go_wp2_with fail
  clear p0 p1 p2 p3 q0 q1 q2 q3 c0 c1 c2 c3 d0 d1 d2 d3 f0 f1 f2 f3 h0 h1 h2 h3
  generalize w2 = uf at *
  obtain ⟨p0, p1, p2, p3⟩ := xe.1.2.1.cells
  obtain ⟨q0, q1, q2, q3⟩ := xe.1.2.2.cells
  obtain ⟨c0, c1, c2, c3⟩ := xe.2.1.cells
  obtain ⟨d0, d1, d2, d3⟩ := xe.2.2.cells
  obtain ⟨f0, f1, f2, f3⟩ := xe.2.1.free
  obtain ⟨h0, h1, h2, h3⟩ := xe.2.2.free
  have XE := Lib.hid (((xe.xs (a.1, s1)).ys b).after (Below.drew (Below.refl _ _)))
  clear xe
  go_region
  go_wp2_with fail
  exact bodyPost_ret (v := fTV (a.1, s1) b false) (by simp [results, Try.results68, go_sem, c0, c1, c2, c3, d0, d1, d2, d3]) rfl ⟨rfl, XE.out.1.1⟩

set_option maxRecDepth 100000 in
set_option maxHeartbeats 4000000 in
theorem fp_nar_a2 (op : Int) (ho : ¬ op = 16) (a b : Fc) (w : World)
    (s1 : Sp) (I1 : Hid (∀ w, Calls Try.prog 99 #[.int .u8 op, sV a.2, sV b.2] w (Gives (sBV s1 false) w)))
    (t : Int) (T : Hid (∀ w, Calls Try.prog 98 #[.int .u8 op] w (Gives (.tuple #[.int .u8 t, .bool true]) w))) :
    Calls Try.prog 68 #[.int .u8 op, fV a, fV b] w (Gives (fTV (a.1, s1) b false) w) := by
  have hx : Hid (FQ a b fZ fZ w ((((w.alloc (.cells #[uV a.1.1, uV a.1.2, .int .u64 a.2.1, .int .u64 a.2.2] 28)).alloc (.cells #[uV b.1.1, uV b.1.2, .int .u64 b.2.1, .int .u64 b.2.2] 28)).alloc (.cells #[.int .u64 0, .int .u64 0, .int .u64 0, .int .u64 0] 28)).alloc (.cells #[.int .u64 0, .int .u64 0, .int .u64 0, .int .u64 0] 28))) := Lib.hid (FQ.new a b fZ fZ w)
  go_enter Try.func68, Try.ntmps68
  go_wp2_with fail
  generalize (((w.alloc (.cells #[uV a.1.1, uV a.1.2, .int .u64 a.2.1, .int .u64 a.2.2] 28)).alloc (.cells #[uV b.1.1, uV b.1.2, .int .u64 b.2.1, .int .u64 b.2.2] 28)).alloc (.cells #[.int .u64 0, .int .u64 0, .int .u64 0, .int .u64 0] 28)).alloc (.cells #[.int .u64 0, .int .u64 0, .int .u64 0, .int .u64 0] 28) = u at *
  obtain ⟨p0, p1, p2, p3⟩ := hx.out.1.2.1.cells
  obtain ⟨q0, q1, q2, q3⟩ := hx.out.1.2.2.cells
  obtain ⟨c0, c1, c2, c3⟩ := hx.out.2.1.cells
  obtain ⟨d0, d1, d2, d3⟩ := hx.out.2.2.cells
  obtain ⟨f0, f1, f2, f3⟩ := hx.out.2.1.free
  obtain ⟨h0, h1, h2, h3⟩ := hx.out.2.2.free
  go_region
  have x0 := ((hx.out.xs a).ys b).after (Below.drew (Below.refl _ _))
  clear hx p0 p1 p2 p3 q0 q1 q2 q3 c0 c1 c2 c3 d0 d1 d2 d3 f0 f1 f2 f3 h0 h1 h2 h3
  generalize World.drew _ = u1 at *
  obtain ⟨p0, p1, p2, p3⟩ := x0.1.2.1.cells
  obtain ⟨q0, q1, q2, q3⟩ := x0.1.2.2.cells
  obtain ⟨c0, c1, c2, c3⟩ := x0.2.1.cells
  obtain ⟨d0, d1, d2, d3⟩ := x0.2.2.cells
  obtain ⟨f0, f1, f2, f3⟩ := x0.2.1.free
  obtain ⟨h0, h1, h2, h3⟩ := x0.2.2.free
  have X0 := Lib.hid x0
  clear x0
  go_wp2_with fail
  refine (I1.out _).mono ?_; rintro e w1 ⟨rfl, b1⟩
  have x1 := X0.out.after b1
  clear X0 b1 I1 p0 p1 p2 p3 q0 q1 q2 q3 c0 c1 c2 c3 d0 d1 d2 d3 f0 f1 f2 f3 h0 h1 h2 h3
  obtain ⟨p0, p1, p2, p3⟩ := x1.1.2.1.cells
  obtain ⟨q0, q1, q2, q3⟩ := x1.1.2.2.cells
  obtain ⟨c0, c1, c2, c3⟩ := x1.2.1.cells
  obtain ⟨d0, d1, d2, d3⟩ := x1.2.2.cells
  obtain ⟨f0, f1, f2, f3⟩ := x1.2.1.free
  obtain ⟨h0, h1, h2, h3⟩ := x1.2.2.free
  have X1 := Lib.hid x1
  clear x1
  go_wp2_with fail
  refine (T.out _).mono ?_; rintro e w2 ⟨rfl, b2⟩
  have x2 := (X1.out.x2 s1).after b2
  clear X1 b2 T p0 p1 p2 p3 q0 q1 q2 q3 c0 c1 c2 c3 d0 d1 d2 d3 f0 f1 f2 f3 h0 h1 h2 h3
  obtain ⟨p0, p1, p2, p3⟩ := x2.1.2.1.cells
  obtain ⟨q0, q1, q2, q3⟩ := x2.1.2.2.cells
  obtain ⟨c0, c1, c2, c3⟩ := x2.2.1.cells
  obtain ⟨d0, d1, d2, d3⟩ := x2.2.2.cells
  obtain ⟨f0, f1, f2, f3⟩ := x2.2.1.free
  obtain ⟨h0, h1, h2, h3⟩ := x2.2.2.free
  have X2 := Lib.hid x2
  clear x2
  have xe := X2.out
  clear X2
  go_wp2_with fail
  clear p0 p1 p2 p3 q0 q1 q2 q3 c0 c1 c2 c3 d0 d1 d2 d3 f0 f1 f2 f3 h0 h1 h2 h3
  generalize w2 = uf at *
  obtain ⟨p0, p1, p2, p3⟩ := xe.1.2.1.cells
  obtain ⟨q0, q1, q2, q3⟩ := xe.1.2.2.cells
  obtain ⟨c0, c1, c2, c3⟩ := xe.2.1.cells
  obtain ⟨d0, d1, d2, d3⟩ := xe.2.2.cells
  obtain ⟨f0, f1, f2, f3⟩ := xe.2.1.free
  obtain ⟨h0, h1, h2, h3⟩ := xe.2.2.free
  have XE := Lib.hid (((xe.xs (a.1, s1)).ys b).after (Below.drew (Below.refl _ _)))
  clear xe
  go_region
  go_wp2_with fail
  exact bodyPost_ret (v := fTV (a.1, s1) b false) (by simp [results, Try.results68, go_sem, c0, c1, c2, c3, d0, d1, d2, d3]) rfl ⟨rfl, XE.out.1.1⟩

set_option maxRecDepth 100000 in
set_option maxHeartbeats 4000000 in
theorem fp_nar_a3 (a b : Fc) (w : World)
    (s1 : Sp) (I1 : Hid (∀ w, Calls Try.prog 99 #[.int .u8 16, sV a.2, sV b.2] w (Gives (sBV s1 false) w)))
    (t : Int) (T : Hid (∀ w, Calls Try.prog 98 #[.int .u8 16] w (Gives (.tuple #[.int .u8 t, .bool true]) w))) :
    Calls Try.prog 68 #[.int .u8 16, fV a, fV b] w (Gives (fTV (a.1, s1) b false) w) := by
  have hx : Hid (FQ a b fZ fZ w ((((w.alloc (.cells #[uV a.1.1, uV a.1.2, .int .u64 a.2.1, .int .u64 a.2.2] 28)).alloc (.cells #[uV b.1.1, uV b.1.2, .int .u64 b.2.1, .int .u64 b.2.2] 28)).alloc (.cells #[.int .u64 0, .int .u64 0, .int .u64 0, .int .u64 0] 28)).alloc (.cells #[.int .u64 0, .int .u64 0, .int .u64 0, .int .u64 0] 28))) := Lib.hid (FQ.new a b fZ fZ w)
  go_enter Try.func68, Try.ntmps68
  go_wp2_with fail
  generalize (((w.alloc (.cells #[uV a.1.1, uV a.1.2, .int .u64 a.2.1, .int .u64 a.2.2] 28)).alloc (.cells #[uV b.1.1, uV b.1.2, .int .u64 b.2.1, .int .u64 b.2.2] 28)).alloc (.cells #[.int .u64 0, .int .u64 0, .int .u64 0, .int .u64 0] 28)).alloc (.cells #[.int .u64 0, .int .u64 0, .int .u64 0, .int .u64 0] 28) = u at *
  obtain ⟨p0, p1, p2, p3⟩ := hx.out.1.2.1.cells
  obtain ⟨q0, q1, q2, q3⟩ := hx.out.1.2.2.cells
  obtain ⟨c0, c1, c2, c3⟩ := hx.out.2.1.cells
  obtain ⟨d0, d1, d2, d3⟩ := hx.out.2.2.cells
  obtain ⟨f0, f1, f2, f3⟩ := hx.out.2.1.free
  obtain ⟨h0, h1, h2, h3⟩ := hx.out.2.2.free
  go_region
  have x0 := ((hx.out.xs a).ys b).after (Below.drew (Below.refl _ _))
  clear hx p0 p1 p2 p3 q0 q1 q2 q3 c0 c1 c2 c3 d0 d1 d2 d3 f0 f1 f2 f3 h0 h1 h2 h3
  generalize World.drew _ = u1 at *
  obtain ⟨p0, p1, p2, p3⟩ := x0.1.2.1.cells
  obtain ⟨q0, q1, q2, q3⟩ := x0.1.2.2.cells
  obtain ⟨c0, c1, c2, c3⟩ := x0.2.1.cells
  obtain ⟨d0, d1, d2, d3⟩ := x0.2.2.cells
  obtain ⟨f0, f1, f2, f3⟩ := x0.2.1.free
  obtain ⟨h0, h1, h2, h3⟩ := x0.2.2.free
  have X0 := Lib.hid x0
  clear x0
  go_wp2_with fail
  refine (I1.out _).mono ?_; rintro e w1 ⟨rfl, b1⟩
  have x1 := X0.out.after b1
  clear X0 b1 I1 p0 p1 p2 p3 q0 q1 q2 q3 c0 c1 c2 c3 d0 d1 d2 d3 f0 f1 f2 f3 h0 h1 h2 h3
  obtain ⟨p0, p1, p2, p3⟩ := x1.1.2.1.cells
  obtain ⟨q0, q1, q2, q3⟩ := x1.1.2.2.cells
  obtain ⟨c0, c1, c2, c3⟩ := x1.2.1.cells
  obtain ⟨d0, d1, d2, d3⟩ := x1.2.2.cells
  obtain ⟨f0, f1, f2, f3⟩ := x1.2.1.free
  obtain ⟨h0, h1, h2, h3⟩ := x1.2.2.free
  have X1 := Lib.hid x1
  clear x1
  go_wp2_with fail
  refine (T.out _).mono ?_; rintro e w2 ⟨rfl, b2⟩
  have x2 := (X1.out.x2 s1).after b2
  clear X1 b2 T p0 p1 p2 p3 q0 q1 q2 q3 c0 c1 c2 c3 d0 d1 d2 d3 f0 f1 f2 f3 h0 h1 h2 h3
  obtain ⟨p0, p1, p2, p3⟩ := x2.1.2.1.cells
  obtain ⟨q0, q1, q2, q3⟩ := x2.1.2.2.cells
  obtain ⟨c0, c1, c2, c3⟩ := x2.2.1.cells
  obtain ⟨d0, d1, d2, d3⟩ := x2.2.2.cells
  obtain ⟨f0, f1, f2, f3⟩ := x2.2.1.free
  obtain ⟨h0, h1, h2, h3⟩ := x2.2.2.free
  have X2 := Lib.hid x2
  clear x2
  have xe := X2.out
  clear X2
  go_wp2_with fail
  clear p0 p1 p2 p3 q0 q1 q2 q3 c0 c1 c2 c3 d0 d1 d2 d3 f0 f1 f2 f3 h0 h1 h2 h3
  generalize w2 = uf at *
  obtain ⟨p0, p1, p2, p3⟩ := xe.1.2.1.cells
  obtain ⟨q0, q1, q2, q3⟩ := xe.1.2.2.cells
  obtain ⟨c0, c1, c2, c3⟩ := xe.2.1.cells
  obtain ⟨d0, d1, d2, d3⟩ := xe.2.2.cells
  obtain ⟨f0, f1, f2, f3⟩ := xe.2.1.free
  obtain ⟨h0, h1, h2, h3⟩ := xe.2.2.free
  have XE := Lib.hid (((xe.xs (a.1, s1)).ys b).after (Below.drew (Below.refl _ _)))
  clear xe
  go_region
  go_wp2_with fail
  exact bodyPost_ret (v := fTV (a.1, s1) b false) (by simp [results, Try.results68, go_sem, c0, c1, c2, c3, d0, d1, d2, d3]) rfl ⟨rfl, XE.out.1.1⟩

set_option maxRecDepth 100000 in
set_option maxHeartbeats 4000000 in
theorem fp_nar_b1 (op : Int) (ho : ¬ op = 16) (a b : Fc) (w : World)
    (s1 : Sp) (I1 : Hid (∀ w, Calls Try.prog 99 #[.int .u8 op, sV a.2, sV b.2] w (Gives (sBV s1 true) w)))
    (t : Int) (T : Hid (∀ w, Calls Try.prog 98 #[.int .u8 op] w (Gives (.tuple #[.int .u8 t, .bool true]) w)))
    (s2 : Sp) (I2 : Hid (∀ w, Calls Try.prog 99 #[.int .u8 t, sV b.2, sV a.2] w (Gives (sBV s2 false) w))) :
    Calls Try.prog 68 #[.int .u8 op, fV a, fV b] w (Gives (fTV (a.1, s1) (b.1, s2) false) w) := by
  have hx : Hid (FQ a b fZ fZ w ((((w.alloc (.cells #[uV a.1.1, uV a.1.2, .int .u64 a.2.1, .int .u64 a.2.2] 28)).alloc (.cells #[uV b.1.1, uV b.1.2, .int .u64 b.2.1, .int .u64 b.2.2] 28)).alloc (.cells #[.int .u64 0, .int .u64 0, .int .u64 0, .int .u64 0] 28)).alloc (.cells #[.int .u64 0, .int .u64 0, .int .u64 0, .int .u64 0] 28))) := Lib.hid (FQ.new a b fZ fZ w)
  go_enter Try.func68, Try.ntmps68
  go_wp2_with fail
  generalize (((w.alloc (.cells #[uV a.1.1, uV a.1.2, .int .u64 a.2.1, .int .u64 a.2.2] 28)).alloc (.cells #[uV b.1.1, uV b.1.2, .int .u64 b.2.1, .int .u64 b.2.2] 28)).alloc (.cells #[.int .u64 0, .int .u64 0, .int .u64 0, .int .u64 0] 28)).alloc (.cells #[.int .u64 0, .int .u64 0, .int .u64 0, .int .u64 0] 28) = u at *
  obtain ⟨p0, p1, p2, p3⟩ := hx.out.1.2.1.cells
  obtain ⟨q0, q1, q2, q3⟩ := hx.out.1.2.2.cells
  obtain ⟨c0, c1, c2, c3⟩ := hx.out.2.1.cells
  obtain ⟨d0, d1, d2, d3⟩ := hx.out.2.2.cells
  obtain ⟨f0, f1, f2, f3⟩ := hx.out.2.1.free
  obtain ⟨h0, h1, h2, h3⟩ := hx.out.2.2.free
  go_region
  have x0 := ((hx.out.xs a).ys b).after (Below.drew (Below.refl _ _))
  clear hx p0 p1 p2 p3 q0 q1 q2 q3 c0 c1 c2 c3 d0 d1 d2 d3 f0 f1 f2 f3 h0 h1 h2 h3
  generalize World.drew _ = u1 at *
  obtain ⟨p0, p1, p2, p3⟩ := x0.1.2.1.cells
  obtain ⟨q0, q1, q2, q3⟩ := x0.1.2.2.cells
  obtain ⟨c0, c1, c2, c3⟩ := x0.2.1.cells
  obtain ⟨d0, d1, d2, d3⟩ := x0.2.2.cells
  obtain ⟨f0, f1, f2, f3⟩ := x0.2.1.free
  obtain ⟨h0, h1, h2, h3⟩ := x0.2.2.free
  have X0 := Lib.hid x0
  clear x0
  go_wp2_with fail
  refine (I1.out _).mono ?_; rintro e w1 ⟨rfl, b1⟩
  have x1 := X0.out.after b1
  clear X0 b1 I1 p0 p1 p2 p3 q0 q1 q2 q3 c0 c1 c2 c3 d0 d1 d2 d3 f0 f1 f2 f3 h0 h1 h2 h3
  obtain ⟨p0, p1, p2, p3⟩ := x1.1.2.1.cells
  obtain ⟨q0, q1, q2, q3⟩ := x1.1.2.2.cells
  obtain ⟨c0, c1, c2, c3⟩ := x1.2.1.cells
  obtain ⟨d0, d1, d2, d3⟩ := x1.2.2.cells
  obtain ⟨f0, f1, f2, f3⟩ := x1.2.1.free
  obtain ⟨h0, h1, h2, h3⟩ := x1.2.2.free
  have X1 := Lib.hid x1
  clear x1
  go_wp2_with fail
  refine (T.out _).mono ?_; rintro e w2 ⟨rfl, b2⟩
  have x2 := (X1.out.x2 s1).after b2
  clear X1 b2 T p0 p1 p2 p3 q0 q1 q2 q3 c0 c1 c2 c3 d0 d1 d2 d3 f0 f1 f2 f3 h0 h1 h2 h3
  obtain ⟨p0, p1, p2, p3⟩ := x2.1.2.1.cells
  obtain ⟨q0, q1, q2, q3⟩ := x2.1.2.2.cells
  obtain ⟨c0, c1, c2, c3⟩ := x2.2.1.cells
  obtain ⟨d0, d1, d2, d3⟩ := x2.2.2.cells
  obtain ⟨f0, f1, f2, f3⟩ := x2.2.1.free
  obtain ⟨h0, h1, h2, h3⟩ := x2.2.2.free
  have X2 := Lib.hid x2
  clear x2
  go_wp2_with fail
  refine (I2.out _).mono ?_; rintro e w3 ⟨rfl, b3⟩
  have x3 := X2.out.after b3
  clear X2 b3 I2 p0 p1 p2 p3 q0 q1 q2 q3 c0 c1 c2 c3 d0 d1 d2 d3 f0 f1 f2 f3 h0 h1 h2 h3
  obtain ⟨p0, p1, p2, p3⟩ := x3.1.2.1.cells
  obtain ⟨q0, q1, q2, q3⟩ := x3.1.2.2.cells
  obtain ⟨c0, c1, c2, c3⟩ := x3.2.1.cells
  obtain ⟨d0, d1, d2, d3⟩ := x3.2.2.cells
  obtain ⟨f0, f1, f2, f3⟩ := x3.2.1.free
  obtain ⟨h0, h1, h2, h3⟩ := x3.2.2.free
  have X3 := Lib.hid x3
  clear x3
  have xe := (X3.out.y2 s2)
  clear X3
  go_wp2_with fail
  clear p0 p1 p2 p3 q0 q1 q2 q3 c0 c1 c2 c3 d0 d1 d2 d3 f0 f1 f2 f3 h0 h1 h2 h3
  generalize (World.setCell (World.setCell w3 ⟨w.heap.size + 1 + 1 + 1, 2, none⟩ (.int .u64 s2.1)) ⟨w.heap.size + 1 + 1 + 1, 3, none⟩ (.int .u64 s2.2)) = uf at *
  obtain ⟨p0, p1, p2, p3⟩ := xe.1.2.1.cells
  obtain ⟨q0, q1, q2, q3⟩ := xe.1.2.2.cells
  obtain ⟨c0, c1, c2, c3⟩ := xe.2.1.cells
  obtain ⟨d0, d1, d2, d3⟩ := xe.2.2.cells
  obtain ⟨f0, f1, f2, f3⟩ := xe.2.1.free
  obtain ⟨h0, h1, h2, h3⟩ := xe.2.2.free
  have XE := Lib.hid (((xe.xs (a.1, s1)).ys (b.1, s2)).after (Below.drew (Below.refl _ _)))
  clear xe
  go_region
  go_wp2_with fail
  exact bodyPost_ret (v := fTV (a.1, s1) (b.1, s2) false) (by simp [results, Try.results68, go_sem, c0, c1, c2, c3, d0, d1, d2, d3]) rfl ⟨rfl, XE.out.1.1⟩

set_option maxRecDepth 100000 in
set_option maxHeartbeats 4000000 in
theorem fp_nar_c1 (a b : Fc) (w : World)
    (s1 : Sp) (I1 : Hid (∀ w, Calls Try.prog 99 #[.int .u8 16, sV a.2, sV b.2] w (Gives (sBV s1 true) w)))
    (t : Int) (T : Hid (∀ w, Calls Try.prog 98 #[.int .u8 16] w (Gives (.tuple #[.int .u8 t, .bool true]) w)))
    (s2 : Sp) (I2 : Hid (∀ w, Calls Try.prog 99 #[.int .u8 t, sV b.2, sV a.2] w (Gives (sBV s2 false) w))) :
    Calls Try.prog 68 #[.int .u8 16, fV a, fV b] w (Gives (fTV (a.1, s1) (b.1, s2) false) w) := by
  have hx : Hid (FQ a b fZ fZ w ((((w.alloc (.cells #[uV a.1.1, uV a.1.2, .int .u64 a.2.1, .int .u64 a.2.2] 28)).alloc (.cells #[uV b.1.1, uV b.1.2, .int .u64 b.2.1, .int .u64 b.2.2] 28)).alloc (.cells #[.int .u64 0, .int .u64 0, .int .u64 0, .int .u64 0] 28)).alloc (.cells #[.int .u64 0, .int .u64 0, .int .u64 0, .int .u64 0] 28))) := Lib.hid (FQ.new a b fZ fZ w)
  go_enter Try.func68, Try.ntmps68
  go_wp2_with fail
  generalize (((w.alloc (.cells #[uV a.1.1, uV a.1.2, .int .u64 a.2.1, .int .u64 a.2.2] 28)).alloc (.cells #[uV b.1.1, uV b.1.2, .int .u64 b.2.1, .int .u64 b.2.2] 28)).alloc (.cells #[.int .u64 0, .int .u64 0, .int .u64 0, .int .u64 0] 28)).alloc (.cells #[.int .u64 0, .int .u64 0, .int .u64 0, .int .u64 0] 28) = u at *
  obtain ⟨p0, p1, p2, p3⟩ := hx.out.1.2.1.cells
  obtain ⟨q0, q1, q2, q3⟩ := hx.out.1.2.2.cells
  obtain ⟨c0, c1, c2, c3⟩ := hx.out.2.1.cells
  obtain ⟨d0, d1, d2, d3⟩ := hx.out.2.2.cells
  obtain ⟨f0, f1, f2, f3⟩ := hx.out.2.1.free
  obtain ⟨h0, h1, h2, h3⟩ := hx.out.2.2.free
  go_region
  have x0 := ((hx.out.xs a).ys b).after (Below.drew (Below.refl _ _))
  clear hx p0 p1 p2 p3 q0 q1 q2 q3 c0 c1 c2 c3 d0 d1 d2 d3 f0 f1 f2 f3 h0 h1 h2 h3
  generalize World.drew _ = u1 at *
  obtain ⟨p0, p1, p2, p3⟩ := x0.1.2.1.cells
  obtain ⟨q0, q1, q2, q3⟩ := x0.1.2.2.cells
  obtain ⟨c0, c1, c2, c3⟩ := x0.2.1.cells
  obtain ⟨d0, d1, d2, d3⟩ := x0.2.2.cells
  obtain ⟨f0, f1, f2, f3⟩ := x0.2.1.free
  obtain ⟨h0, h1, h2, h3⟩ := x0.2.2.free
  have X0 := Lib.hid x0
  clear x0
  go_wp2_with fail
  refine (I1.out _).mono ?_; rintro e w1 ⟨rfl, b1⟩
  have x1 := X0.out.after b1
  clear X0 b1 I1 p0 p1 p2 p3 q0 q1 q2 q3 c0 c1 c2 c3 d0 d1 d2 d3 f0 f1 f2 f3 h0 h1 h2 h3
  obtain ⟨p0, p1, p2, p3⟩ := x1.1.2.1.cells
  obtain ⟨q0, q1, q2, q3⟩ := x1.1.2.2.cells
  obtain ⟨c0, c1, c2, c3⟩ := x1.2.1.cells
  obtain ⟨d0, d1, d2, d3⟩ := x1.2.2.cells
  obtain ⟨f0, f1, f2, f3⟩ := x1.2.1.free
  obtain ⟨h0, h1, h2, h3⟩ := x1.2.2.free
  have X1 := Lib.hid x1
  clear x1
  go_wp2_with fail
  refine (T.out _).mono ?_; rintro e w2 ⟨rfl, b2⟩
  have x2 := (X1.out.x2 s1).after b2
  clear X1 b2 T p0 p1 p2 p3 q0 q1 q2 q3 c0 c1 c2 c3 d0 d1 d2 d3 f0 f1 f2 f3 h0 h1 h2 h3
  obtain ⟨p0, p1, p2, p3⟩ := x2.1.2.1.cells
  obtain ⟨q0, q1, q2, q3⟩ := x2.1.2.2.cells
  obtain ⟨c0, c1, c2, c3⟩ := x2.2.1.cells
  obtain ⟨d0, d1, d2, d3⟩ := x2.2.2.cells
  obtain ⟨f0, f1, f2, f3⟩ := x2.2.1.free
  obtain ⟨h0, h1, h2, h3⟩ := x2.2.2.free
  have X2 := Lib.hid x2
  clear x2
  go_wp2_with fail
  refine (I2.out _).mono ?_; rintro e w3 ⟨rfl, b3⟩
  have x3 := X2.out.after b3
  clear X2 b3 I2 p0 p1 p2 p3 q0 q1 q2 q3 c0 c1 c2 c3 d0 d1 d2 d3 f0 f1 f2 f3 h0 h1 h2 h3
  obtain ⟨p0, p1, p2, p3⟩ := x3.1.2.1.cells
  obtain ⟨q0, q1, q2, q3⟩ := x3.1.2.2.cells
  obtain ⟨c0, c1, c2, c3⟩ := x3.2.1.cells
  obtain ⟨d0, d1, d2, d3⟩ := x3.2.2.cells
  obtain ⟨f0, f1, f2, f3⟩ := x3.2.1.free
  obtain ⟨h0, h1, h2, h3⟩ := x3.2.2.free
  have X3 := Lib.hid x3
  clear x3
  have xe := (X3.out.y2 s2)
  clear X3
  go_wp2_with fail
  clear p0 p1 p2 p3 q0 q1 q2 q3 c0 c1 c2 c3 d0 d1 d2 d3 f0 f1 f2 f3 h0 h1 h2 h3
  generalize (World.setCell (World.setCell w3 ⟨w.heap.size + 1 + 1 + 1, 2, none⟩ (.int .u64 s2.1)) ⟨w.heap.size + 1 + 1 + 1, 3, none⟩ (.int .u64 s2.2)) = uf at *
  obtain ⟨p0, p1, p2, p3⟩ := xe.1.2.1.cells
  obtain ⟨q0, q1, q2, q3⟩ := xe.1.2.2.cells
  obtain ⟨c0, c1, c2, c3⟩ := xe.2.1.cells
  obtain ⟨d0, d1, d2, d3⟩ := xe.2.2.cells
  obtain ⟨f0, f1, f2, f3⟩ := xe.2.1.free
  obtain ⟨h0, h1, h2, h3⟩ := xe.2.2.free
  have XE := Lib.hid (((xe.xs (a.1, s1)).ys (b.1, s2)).after (Below.drew (Below.refl _ _)))
  clear xe
  go_region
  go_wp2_with fail
  exact bodyPost_ret (v := fTV (a.1, s1) (b.1, s2) false) (by simp [results, Try.results68, go_sem, c0, c1, c2, c3, d0, d1, d2, d3]) rfl ⟨rfl, XE.out.1.1⟩

set_option maxRecDepth 100000 in
set_option maxHeartbeats 4000000 in
theorem fp_nar_f0 (a b : Fc) (w : World)
    (s1 : Sp) (I1 : Hid (∀ w, Calls Try.prog 99 #[.int .u8 16, sV a.2, sV b.2] w (Gives (sBV s1 true) w)))
    (t : Int) (T : Hid (∀ w, Calls Try.prog 98 #[.int .u8 16] w (Gives (.tuple #[.int .u8 t, .bool true]) w)))
    (s2 : Sp) (I2 : Hid (∀ w, Calls Try.prog 99 #[.int .u8 t, sV b.2, sV a.2] w (Gives (sBV s2 true) w)))
    (m : Tn) (M : Hid (∀ w, Calls Try.prog 78 #[tV a.1, tV b.1] w (Gives (tBV m false) w))) :
    Calls Try.prog 68 #[.int .u8 16, fV a, fV b] w (Gives (fTV (m, s1) (m, s2) false) w) := by
  have hx : Hid (FQ a b fZ fZ w ((((w.alloc (.cells #[uV a.1.1, uV a.1.2, .int .u64 a.2.1, .int .u64 a.2.2] 28)).alloc (.cells #[uV b.1.1, uV b.1.2, .int .u64 b.2.1, .int .u64 b.2.2] 28)).alloc (.cells #[.int .u64 0, .int .u64 0, .int .u64 0, .int .u64 0] 28)).alloc (.cells #[.int .u64 0, .int .u64 0, .int .u64 0, .int .u64 0] 28))) := Lib.hid (FQ.new a b fZ fZ w)
  go_enter Try.func68, Try.ntmps68
  go_wp2_with fail
  generalize (((w.alloc (.cells #[uV a.1.1, uV a.1.2, .int .u64 a.2.1, .int .u64 a.2.2] 28)).alloc (.cells #[uV b.1.1, uV b.1.2, .int .u64 b.2.1, .int .u64 b.2.2] 28)).alloc (.cells #[.int .u64 0, .int .u64 0, .int .u64 0, .int .u64 0] 28)).alloc (.cells #[.int .u64 0, .int .u64 0, .int .u64 0, .int .u64 0] 28) = u at *
  obtain ⟨p0, p1, p2, p3⟩ := hx.out.1.2.1.cells
  obtain ⟨q0, q1, q2, q3⟩ := hx.out.1.2.2.cells
  obtain ⟨c0, c1, c2, c3⟩ := hx.out.2.1.cells
  obtain ⟨d0, d1, d2, d3⟩ := hx.out.2.2.cells
  obtain ⟨f0, f1, f2, f3⟩ := hx.out.2.1.free
  obtain ⟨h0, h1, h2, h3⟩ := hx.out.2.2.free
  go_region
  have x0 := ((hx.out.xs a).ys b).after (Below.drew (Below.refl _ _))
  clear hx p0 p1 p2 p3 q0 q1 q2 q3 c0 c1 c2 c3 d0 d1 d2 d3 f0 f1 f2 f3 h0 h1 h2 h3
  generalize World.drew _ = u1 at *
  obtain ⟨p0, p1, p2, p3⟩ := x0.1.2.1.cells
  obtain ⟨q0, q1, q2, q3⟩ := x0.1.2.2.cells
  obtain ⟨c0, c1, c2, c3⟩ := x0.2.1.cells
  obtain ⟨d0, d1, d2, d3⟩ := x0.2.2.cells
  obtain ⟨f0, f1, f2, f3⟩ := x0.2.1.free
  obtain ⟨h0, h1, h2, h3⟩ := x0.2.2.free
  have X0 := Lib.hid x0
  clear x0
  go_wp2_with fail
  refine (I1.out _).mono ?_; rintro e w1 ⟨rfl, b1⟩
  have x1 := X0.out.after b1
  clear X0 b1 I1 p0 p1 p2 p3 q0 q1 q2 q3 c0 c1 c2 c3 d0 d1 d2 d3 f0 f1 f2 f3 h0 h1 h2 h3
  obtain ⟨p0, p1, p2, p3⟩ := x1.1.2.1.cells
  obtain ⟨q0, q1, q2, q3⟩ := x1.1.2.2.cells
  obtain ⟨c0, c1, c2, c3⟩ := x1.2.1.cells
  obtain ⟨d0, d1, d2, d3⟩ := x1.2.2.cells
  obtain ⟨f0, f1, f2, f3⟩ := x1.2.1.free
  obtain ⟨h0, h1, h2, h3⟩ := x1.2.2.free
  have X1 := Lib.hid x1
  clear x1
  go_wp2_with fail
  refine (T.out _).mono ?_; rintro e w2 ⟨rfl, b2⟩
  have x2 := (X1.out.x2 s1).after b2
  clear X1 b2 T p0 p1 p2 p3 q0 q1 q2 q3 c0 c1 c2 c3 d0 d1 d2 d3 f0 f1 f2 f3 h0 h1 h2 h3
  obtain ⟨p0, p1, p2, p3⟩ := x2.1.2.1.cells
  obtain ⟨q0, q1, q2, q3⟩ := x2.1.2.2.cells
  obtain ⟨c0, c1, c2, c3⟩ := x2.2.1.cells
  obtain ⟨d0, d1, d2, d3⟩ := x2.2.2.cells
  obtain ⟨f0, f1, f2, f3⟩ := x2.2.1.free
  obtain ⟨h0, h1, h2, h3⟩ := x2.2.2.free
  have X2 := Lib.hid x2
  clear x2
  go_wp2_with fail
  refine (I2.out _).mono ?_; rintro e w3 ⟨rfl, b3⟩
  have x3 := X2.out.after b3
  clear X2 b3 I2 p0 p1 p2 p3 q0 q1 q2 q3 c0 c1 c2 c3 d0 d1 d2 d3 f0 f1 f2 f3 h0 h1 h2 h3
  obtain ⟨p0, p1, p2, p3⟩ := x3.1.2.1.cells
  obtain ⟨q0, q1, q2, q3⟩ := x3.1.2.2.cells
  obtain ⟨c0, c1, c2, c3⟩ := x3.2.1.cells
  obtain ⟨d0, d1, d2, d3⟩ := x3.2.2.cells
  obtain ⟨f0, f1, f2, f3⟩ := x3.2.1.free
  obtain ⟨h0, h1, h2, h3⟩ := x3.2.2.free
  have X3 := Lib.hid x3
  clear x3
  go_wp2_with fail
  refine (M.out _).mono ?_; rintro e w4 ⟨rfl, b4⟩
  have x4 := (X3.out.y2 s2).after b4
  clear X3 b4 M p0 p1 p2 p3 q0 q1 q2 q3 c0 c1 c2 c3 d0 d1 d2 d3 f0 f1 f2 f3 h0 h1 h2 h3
  obtain ⟨p0, p1, p2, p3⟩ := x4.1.2.1.cells
  obtain ⟨q0, q1, q2, q3⟩ := x4.1.2.2.cells
  obtain ⟨c0, c1, c2, c3⟩ := x4.2.1.cells
  obtain ⟨d0, d1, d2, d3⟩ := x4.2.2.cells
  obtain ⟨f0, f1, f2, f3⟩ := x4.2.1.free
  obtain ⟨h0, h1, h2, h3⟩ := x4.2.2.free
  have X4 := Lib.hid x4
  clear x4
  have xe := ((X4.out.x1 m).y1 m)
  clear X4
  go_wp2_with fail
  clear p0 p1 p2 p3 q0 q1 q2 q3 c0 c1 c2 c3 d0 d1 d2 d3 f0 f1 f2 f3 h0 h1 h2 h3
  generalize (World.setCell (World.setCell (World.setCell (World.setCell w4 ⟨w.heap.size + 1 + 1, 0, none⟩ (uV m.1)) ⟨w.heap.size + 1 + 1, 1, none⟩ (uV m.2)) ⟨w.heap.size + 1 + 1 + 1, 0, none⟩ (uV m.1)) ⟨w.heap.size + 1 + 1 + 1, 1, none⟩ (uV m.2)) = uf at *
  obtain ⟨p0, p1, p2, p3⟩ := xe.1.2.1.cells
  obtain ⟨q0, q1, q2, q3⟩ := xe.1.2.2.cells
  obtain ⟨c0, c1, c2, c3⟩ := xe.2.1.cells
  obtain ⟨d0, d1, d2, d3⟩ := xe.2.2.cells
  obtain ⟨f0, f1, f2, f3⟩ := xe.2.1.free
  obtain ⟨h0, h1, h2, h3⟩ := xe.2.2.free
  have XE := Lib.hid (((xe.xs (m, s1)).ys (m, s2)).after (Below.drew (Below.refl _ _)))
  clear xe
  go_region
  go_wp2_with fail
  exact bodyPost_ret (v := fTV (m, s1) (m, s2) false) (by simp [results, Try.results68, go_sem, c0, c1, c2, c3, d0, d1, d2, d3]) rfl ⟨rfl, XE.out.1.1⟩

set_option maxRecDepth 100000 in
set_option maxHeartbeats 4000000 in
theorem fp_nar_d1 (op : Int) (ho : ¬ op = 16) (a b : Fc) (w : World)
    (s1 : Sp) (I1 : Hid (∀ w, Calls Try.prog 99 #[.int .u8 op, sV a.2, sV b.2] w (Gives (sBV s1 true) w)))
    (t : Int) (T : Hid (∀ w, Calls Try.prog 98 #[.int .u8 op] w (Gives (.tuple #[.int .u8 t, .bool false]) w)))
    (gx : Fc) (S1 : Hid (∀ w, Calls Try.prog 12 #[fV (a.1, s1)] w (Gives (fBV gx false) w))) :
    Calls Try.prog 68 #[.int .u8 op, fV a, fV b] w (Gives (fTV gx b false) w) := by
  have hx : Hid (FQ a b fZ fZ w ((((w.alloc (.cells #[uV a.1.1, uV a.1.2, .int .u64 a.2.1, .int .u64 a.2.2] 28)).alloc (.cells #[uV b.1.1, uV b.1.2, .int .u64 b.2.1, .int .u64 b.2.2] 28)).alloc (.cells #[.int .u64 0, .int .u64 0, .int .u64 0, .int .u64 0] 28)).alloc (.cells #[.int .u64 0, .int .u64 0, .int .u64 0, .int .u64 0] 28))) := Lib.hid (FQ.new a b fZ fZ w)
  go_enter Try.func68, Try.ntmps68
  go_wp2_with fail
  generalize (((w.alloc (.cells #[uV a.1.1, uV a.1.2, .int .u64 a.2.1, .int .u64 a.2.2] 28)).alloc (.cells #[uV b.1.1, uV b.1.2, .int .u64 b.2.1, .int .u64 b.2.2] 28)).alloc (.cells #[.int .u64 0, .int .u64 0, .int .u64 0, .int .u64 0] 28)).alloc (.cells #[.int .u64 0, .int .u64 0, .int .u64 0, .int .u64 0] 28) = u at *
  obtain ⟨p0, p1, p2, p3⟩ := hx.out.1.2.1.cells
  obtain ⟨q0, q1, q2, q3⟩ := hx.out.1.2.2.cells
  obtain ⟨c0, c1, c2, c3⟩ := hx.out.2.1.cells
  obtain ⟨d0, d1, d2, d3⟩ := hx.out.2.2.cells
  obtain ⟨f0, f1, f2, f3⟩ := hx.out.2.1.free
  obtain ⟨h0, h1, h2, h3⟩ := hx.out.2.2.free
  go_region
  have x0 := ((hx.out.xs a).ys b).after (Below.drew (Below.refl _ _))
  clear hx p0 p1 p2 p3 q0 q1 q2 q3 c0 c1 c2 c3 d0 d1 d2 d3 f0 f1 f2 f3 h0 h1 h2 h3
  generalize World.drew _ = u1 at *
  obtain ⟨p0, p1, p2, p3⟩ := x0.1.2.1.cells
  obtain ⟨q0, q1, q2, q3⟩ := x0.1.2.2.cells
  obtain ⟨c0, c1, c2, c3⟩ := x0.2.1.cells
  obtain ⟨d0, d1, d2, d3⟩ := x0.2.2.cells
  obtain ⟨f0, f1, f2, f3⟩ := x0.2.1.free
  obtain ⟨h0, h1, h2, h3⟩ := x0.2.2.free
  have X0 := Lib.hid x0
  clear x0
  go_wp2_with fail
  refine (I1.out _).mono ?_; rintro e w1 ⟨rfl, b1⟩
  have x1 := X0.out.after b1
  clear X0 b1 I1 p0 p1 p2 p3 q0 q1 q2 q3 c0 c1 c2 c3 d0 d1 d2 d3 f0 f1 f2 f3 h0 h1 h2 h3
  obtain ⟨p0, p1, p2, p3⟩ := x1.1.2.1.cells
  obtain ⟨q0, q1, q2, q3⟩ := x1.1.2.2.cells
  obtain ⟨c0, c1, c2, c3⟩ := x1.2.1.cells
  obtain ⟨d0, d1, d2, d3⟩ := x1.2.2.cells
  obtain ⟨f0, f1, f2, f3⟩ := x1.2.1.free
  obtain ⟨h0, h1, h2, h3⟩ := x1.2.2.free
  have X1 := Lib.hid x1
  clear x1
  go_wp2_with fail
  refine (T.out _).mono ?_; rintro e w2 ⟨rfl, b2⟩
  have x2 := (X1.out.x2 s1).after b2
  clear X1 b2 T p0 p1 p2 p3 q0 q1 q2 q3 c0 c1 c2 c3 d0 d1 d2 d3 f0 f1 f2 f3 h0 h1 h2 h3
  obtain ⟨p0, p1, p2, p3⟩ := x2.1.2.1.cells
  obtain ⟨q0, q1, q2, q3⟩ := x2.1.2.2.cells
  obtain ⟨c0, c1, c2, c3⟩ := x2.2.1.cells
  obtain ⟨d0, d1, d2, d3⟩ := x2.2.2.cells
  obtain ⟨f0, f1, f2, f3⟩ := x2.2.1.free
  obtain ⟨h0, h1, h2, h3⟩ := x2.2.2.free
  have X2 := Lib.hid x2
  clear x2
  go_wp2_with fail
  refine (S1.out _).mono ?_; rintro e w3 ⟨rfl, b3⟩
  have x3 := X2.out.after b3
  clear X2 b3 S1 p0 p1 p2 p3 q0 q1 q2 q3 c0 c1 c2 c3 d0 d1 d2 d3 f0 f1 f2 f3 h0 h1 h2 h3
  obtain ⟨p0, p1, p2, p3⟩ := x3.1.2.1.cells
  obtain ⟨q0, q1, q2, q3⟩ := x3.1.2.2.cells
  obtain ⟨c0, c1, c2, c3⟩ := x3.2.1.cells
  obtain ⟨d0, d1, d2, d3⟩ := x3.2.2.cells
  obtain ⟨f0, f1, f2, f3⟩ := x3.2.1.free
  obtain ⟨h0, h1, h2, h3⟩ := x3.2.2.free
  have X3 := Lib.hid x3
  clear x3
  have xe := (X3.out.xs gx)
  clear X3
  go_wp2_with fail
  clear p0 p1 p2 p3 q0 q1 q2 q3 c0 c1 c2 c3 d0 d1 d2 d3 f0 f1 f2 f3 h0 h1 h2 h3
  generalize (World.setCell (World.setCell (World.setCell (World.setCell w3 ⟨w.heap.size + 1 + 1, 0, none⟩ (uV gx.1.1)) ⟨w.heap.size + 1 + 1, 1, none⟩ (uV gx.1.2)) ⟨w.heap.size + 1 + 1, 2, none⟩ (.int .u64 gx.2.1)) ⟨w.heap.size + 1 + 1, 3, none⟩ (.int .u64 gx.2.2)) = uf at *
  obtain ⟨p0, p1, p2, p3⟩ := xe.1.2.1.cells
  obtain ⟨q0, q1, q2, q3⟩ := xe.1.2.2.cells
  obtain ⟨c0, c1, c2, c3⟩ := xe.2.1.cells
  obtain ⟨d0, d1, d2, d3⟩ := xe.2.2.cells
  obtain ⟨f0, f1, f2, f3⟩ := xe.2.1.free
  obtain ⟨h0, h1, h2, h3⟩ := xe.2.2.free
  have XE := Lib.hid (((xe.xs gx).ys b).after (Below.drew (Below.refl _ _)))
  clear xe
  go_region
  go_wp2_with fail
  exact bodyPost_ret (v := fTV gx b false) (by simp [results, Try.results68, go_sem, c0, c1, c2, c3, d0, d1, d2, d3]) rfl ⟨rfl, XE.out.1.1⟩

set_option maxRecDepth 100000 in
set_option maxHeartbeats 4000000 in
theorem fp_nar_d2 (op : Int) (ho : ¬ op = 16) (a b : Fc) (w : World)
    (s1 : Sp) (I1 : Hid (∀ w, Calls Try.prog 99 #[.int .u8 op, sV a.2, sV b.2] w (Gives (sBV s1 true) w)))
    (t : Int) (T : Hid (∀ w, Calls Try.prog 98 #[.int .u8 op] w (Gives (.tuple #[.int .u8 t, .bool false]) w)))
    (gx : Fc) (S1 : Hid (∀ w, Calls Try.prog 12 #[fV (a.1, s1)] w (Gives (fBV gx true) w)))
    (gy : Fc) (S2 : Hid (∀ w, Calls Try.prog 12 #[fV b] w (Gives (fBV gy false) w))) :
    Calls Try.prog 68 #[.int .u8 op, fV a, fV b] w (Gives (fTV gx gy false) w) := by
  have hx : Hid (FQ a b fZ fZ w ((((w.alloc (.cells #[uV a.1.1, uV a.1.2, .int .u64 a.2.1, .int .u64 a.2.2] 28)).alloc (.cells #[uV b.1.1, uV b.1.2, .int .u64 b.2.1, .int .u64 b.2.2] 28)).alloc (.cells #[.int .u64 0, .int .u64 0, .int .u64 0, .int .u64 0] 28)).alloc (.cells #[.int .u64 0, .int .u64 0, .int .u64 0, .int .u64 0] 28))) := Lib.hid (FQ.new a b fZ fZ w)
  go_enter Try.func68, Try.ntmps68
  go_wp2_with fail
  generalize (((w.alloc (.cells #[uV a.1.1, uV a.1.2, .int .u64 a.2.1, .int .u64 a.2.2] 28)).alloc (.cells #[uV b.1.1, uV b.1.2, .int .u64 b.2.1, .int .u64 b.2.2] 28)).alloc (.cells #[.int .u64 0, .int .u64 0, .int .u64 0, .int .u64 0] 28)).alloc (.cells #[.int .u64 0, .int .u64 0, .int .u64 0, .int .u64 0] 28) = u at *
  obtain ⟨p0, p1, p2, p3⟩ := hx.out.1.2.1.cells
  obtain ⟨q0, q1, q2, q3⟩ := hx.out.1.2.2.cells
  obtain ⟨c0, c1, c2, c3⟩ := hx.out.2.1.cells
  obtain ⟨d0, d1, d2, d3⟩ := hx.out.2.2.cells
  obtain ⟨f0, f1, f2, f3⟩ := hx.out.2.1.free
  obtain ⟨h0, h1, h2, h3⟩ := hx.out.2.2.free
  go_region
  have x0 := ((hx.out.xs a).ys b).after (Below.drew (Below.refl _ _))
  clear hx p0 p1 p2 p3 q0 q1 q2 q3 c0 c1 c2 c3 d0 d1 d2 d3 f0 f1 f2 f3 h0 h1 h2 h3
  generalize World.drew _ = u1 at *
  obtain ⟨p0, p1, p2, p3⟩ := x0.1.2.1.cells
  obtain ⟨q0, q1, q2, q3⟩ := x0.1.2.2.cells
  obtain ⟨c0, c1, c2, c3⟩ := x0.2.1.cells
  obtain ⟨d0, d1, d2, d3⟩ := x0.2.2.cells
  obtain ⟨f0, f1, f2, f3⟩ := x0.2.1.free
  obtain ⟨h0, h1, h2, h3⟩ := x0.2.2.free
  have X0 := Lib.hid x0
  clear x0
  go_wp2_with fail
  refine (I1.out _).mono ?_; rintro e w1 ⟨rfl, b1⟩
  have x1 := X0.out.after b1
  clear X0 b1 I1 p0 p1 p2 p3 q0 q1 q2 q3 c0 c1 c2 c3 d0 d1 d2 d3 f0 f1 f2 f3 h0 h1 h2 h3
  obtain ⟨p0, p1, p2, p3⟩ := x1.1.2.1.cells
  obtain ⟨q0, q1, q2, q3⟩ := x1.1.2.2.cells
  obtain ⟨c0, c1, c2, c3⟩ := x1.2.1.cells
  obtain ⟨d0, d1, d2, d3⟩ := x1.2.2.cells
  obtain ⟨f0, f1, f2, f3⟩ := x1.2.1.free
  obtain ⟨h0, h1, h2, h3⟩ := x1.2.2.free
  have X1 := Lib.hid x1
  clear x1
  go_wp2_with fail
  refine (T.out _).mono ?_; rintro e w2 ⟨rfl, b2⟩
  have x2 := (X1.out.x2 s1).after b2
  clear X1 b2 T p0 p1 p2 p3 q0 q1 q2 q3 c0 c1 c2 c3 d0 d1 d2 d3 f0 f1 f2 f3 h0 h1 h2 h3
  obtain ⟨p0, p1, p2, p3⟩ := x2.1.2.1.cells
  obtain ⟨q0, q1, q2, q3⟩ := x2.1.2.2.cells
  obtain ⟨c0, c1, c2, c3⟩ := x2.2.1.cells
  obtain ⟨d0, d1, d2, d3⟩ := x2.2.2.cells
  obtain ⟨f0, f1, f2, f3⟩ := x2.2.1.free
  obtain ⟨h0, h1, h2, h3⟩ := x2.2.2.free
  have X2 := Lib.hid x2
  clear x2
  go_wp2_with fail
  refine (S1.out _).mono ?_; rintro e w3 ⟨rfl, b3⟩
  have x3 := X2.out.after b3
  clear X2 b3 S1 p0 p1 p2 p3 q0 q1 q2 q3 c0 c1 c2 c3 d0 d1 d2 d3 f0 f1 f2 f3 h0 h1 h2 h3
  obtain ⟨p0, p1, p2, p3⟩ := x3.1.2.1.cells
  obtain ⟨q0, q1, q2, q3⟩ := x3.1.2.2.cells
  obtain ⟨c0, c1, c2, c3⟩ := x3.2.1.cells
  obtain ⟨d0, d1, d2, d3⟩ := x3.2.2.cells
  obtain ⟨f0, f1, f2, f3⟩ := x3.2.1.free
  obtain ⟨h0, h1, h2, h3⟩ := x3.2.2.free
  have X3 := Lib.hid x3
  clear x3
  go_wp2_with fail
  refine (S2.out _).mono ?_; rintro e w4 ⟨rfl, b4⟩
  have x4 := (X3.out.xs gx).after b4
  clear X3 b4 S2 p0 p1 p2 p3 q0 q1 q2 q3 c0 c1 c2 c3 d0 d1 d2 d3 f0 f1 f2 f3 h0 h1 h2 h3
  obtain ⟨p0, p1, p2, p3⟩ := x4.1.2.1.cells
  obtain ⟨q0, q1, q2, q3⟩ := x4.1.2.2.cells
  obtain ⟨c0, c1, c2, c3⟩ := x4.2.1.cells
  obtain ⟨d0, d1, d2, d3⟩ := x4.2.2.cells
  obtain ⟨f0, f1, f2, f3⟩ := x4.2.1.free
  obtain ⟨h0, h1, h2, h3⟩ := x4.2.2.free
  have X4 := Lib.hid x4
  clear x4
  have xe := (X4.out.ys gy)
  clear X4
  go_wp2_with fail
  clear p0 p1 p2 p3 q0 q1 q2 q3 c0 c1 c2 c3 d0 d1 d2 d3 f0 f1 f2 f3 h0 h1 h2 h3
  generalize (World.setCell (World.setCell (World.setCell (World.setCell w4 ⟨w.heap.size + 1 + 1 + 1, 0, none⟩ (uV gy.1.1)) ⟨w.heap.size + 1 + 1 + 1, 1, none⟩ (uV gy.1.2)) ⟨w.heap.size + 1 + 1 + 1, 2, none⟩ (.int .u64 gy.2.1)) ⟨w.heap.size + 1 + 1 + 1, 3, none⟩ (.int .u64 gy.2.2)) = uf at *
  obtain ⟨p0, p1, p2, p3⟩ := xe.1.2.1.cells
  obtain ⟨q0, q1, q2, q3⟩ := xe.1.2.2.cells
  obtain ⟨c0, c1, c2, c3⟩ := xe.2.1.cells
  obtain ⟨d0, d1, d2, d3⟩ := xe.2.2.cells
  obtain ⟨f0, f1, f2, f3⟩ := xe.2.1.free
  obtain ⟨h0, h1, h2, h3⟩ := xe.2.2.free
  have XE := Lib.hid (((xe.xs gx).ys gy).after (Below.drew (Below.refl _ _)))
  clear xe
  go_region
  go_wp2_with fail
  exact bodyPost_ret (v := fTV gx gy false) (by simp [results, Try.results68, go_sem, c0, c1, c2, c3, d0, d1, d2, d3]) rfl ⟨rfl, XE.out.1.1⟩

set_option maxRecDepth 100000 in
set_option maxHeartbeats 4000000 in
theorem fp_nar_d3 (op : Int) (ho : ¬ op = 16) (a b : Fc) (w : World)
    (s1 : Sp) (I1 : Hid (∀ w, Calls Try.prog 99 #[.int .u8 op, sV a.2, sV b.2] w (Gives (sBV s1 true) w)))
    (t : Int) (T : Hid (∀ w, Calls Try.prog 98 #[.int .u8 op] w (Gives (.tuple #[.int .u8 t, .bool false]) w)))
    (gx : Fc) (S1 : Hid (∀ w, Calls Try.prog 12 #[fV (a.1, s1)] w (Gives (fBV gx true) w)))
    (gy : Fc) (S2 : Hid (∀ w, Calls Try.prog 12 #[fV b] w (Gives (fBV gy true) w))) :
    Calls Try.prog 68 #[.int .u8 op, fV a, fV b] w (Gives (fTV gx gy true) w) := by
  have hx : Hid (FQ a b fZ fZ w ((((w.alloc (.cells #[uV a.1.1, uV a.1.2, .int .u64 a.2.1, .int .u64 a.2.2] 28)).alloc (.cells #[uV b.1.1, uV b.1.2, .int .u64 b.2.1, .int .u64 b.2.2] 28)).alloc (.cells #[.int .u64 0, .int .u64 0, .int .u64 0, .int .u64 0] 28)).alloc (.cells #[.int .u64 0, .int .u64 0, .int .u64 0, .int .u64 0] 28))) := Lib.hid (FQ.new a b fZ fZ w)
  go_enter Try.func68, Try.ntmps68
  go_wp2_with fail
  generalize (((w.alloc (.cells #[uV a.1.1, uV a.1.2, .int .u64 a.2.1, .int .u64 a.2.2] 28)).alloc (.cells #[uV b.1.1, uV b.1.2, .int .u64 b.2.1, .int .u64 b.2.2] 28)).alloc (.cells #[.int .u64 0, .int .u64 0, .int .u64 0, .int .u64 0] 28)).alloc (.cells #[.int .u64 0, .int .u64 0, .int .u64 0, .int .u64 0] 28) = u at *
  obtain ⟨p0, p1, p2, p3⟩ := hx.out.1.2.1.cells
  obtain ⟨q0, q1, q2, q3⟩ := hx.out.1.2.2.cells
  obtain ⟨c0, c1, c2, c3⟩ := hx.out.2.1.cells
  obtain ⟨d0, d1, d2, d3⟩ := hx.out.2.2.cells
  obtain ⟨f0, f1, f2, f3⟩ := hx.out.2.1.free
  obtain ⟨h0, h1, h2, h3⟩ := hx.out.2.2.free
  go_region
  have x0 := ((hx.out.xs a).ys b).after (Below.drew (Below.refl _ _))
  clear hx p0 p1 p2 p3 q0 q1 q2 q3 c0 c1 c2 c3 d0 d1 d2 d3 f0 f1 f2 f3 h0 h1 h2 h3
  generalize World.drew _ = u1 at *
  obtain ⟨p0, p1, p2, p3⟩ := x0.1.2.1.cells
  obtain ⟨q0, q1, q2, q3⟩ := x0.1.2.2.cells
  obtain ⟨c0, c1, c2, c3⟩ := x0.2.1.cells
  obtain ⟨d0, d1, d2, d3⟩ := x0.2.2.cells
  obtain ⟨f0, f1, f2, f3⟩ := x0.2.1.free
  obtain ⟨h0, h1, h2, h3⟩ := x0.2.2.free
  have X0 := Lib.hid x0
  clear x0
  go_wp2_with fail
  refine (I1.out _).mono ?_; rintro e w1 ⟨rfl, b1⟩
  have x1 := X0.out.after b1
  clear X0 b1 I1 p0 p1 p2 p3 q0 q1 q2 q3 c0 c1 c2 c3 d0 d1 d2 d3 f0 f1 f2 f3 h0 h1 h2 h3
  obtain ⟨p0, p1, p2, p3⟩ := x1.1.2.1.cells
  obtain ⟨q0, q1, q2, q3⟩ := x1.1.2.2.cells
  obtain ⟨c0, c1, c2, c3⟩ := x1.2.1.cells
  obtain ⟨d0, d1, d2, d3⟩ := x1.2.2.cells
  obtain ⟨f0, f1, f2, f3⟩ := x1.2.1.free
  obtain ⟨h0, h1, h2, h3⟩ := x1.2.2.free
  have X1 := Lib.hid x1
  clear x1
  go_wp2_with fail
  refine (T.out _).mono ?_; rintro e w2 ⟨rfl, b2⟩
  have x2 := (X1.out.x2 s1).after b2
  clear X1 b2 T p0 p1 p2 p3 q0 q1 q2 q3 c0 c1 c2 c3 d0 d1 d2 d3 f0 f1 f2 f3 h0 h1 h2 h3
  obtain ⟨p0, p1, p2, p3⟩ := x2.1.2.1.cells
  obtain ⟨q0, q1, q2, q3⟩ := x2.1.2.2.cells
  obtain ⟨c0, c1, c2, c3⟩ := x2.2.1.cells
  obtain ⟨d0, d1, d2, d3⟩ := x2.2.2.cells
  obtain ⟨f0, f1, f2, f3⟩ := x2.2.1.free
  obtain ⟨h0, h1, h2, h3⟩ := x2.2.2.free
  have X2 := Lib.hid x2
  clear x2
  go_wp2_with fail
  refine (S1.out _).mono ?_; rintro e w3 ⟨rfl, b3⟩
  have x3 := X2.out.after b3
  clear X2 b3 S1 p0 p1 p2 p3 q0 q1 q2 q3 c0 c1 c2 c3 d0 d1 d2 d3 f0 f1 f2 f3 h0 h1 h2 h3
  obtain ⟨p0, p1, p2, p3⟩ := x3.1.2.1.cells
  obtain ⟨q0, q1, q2, q3⟩ := x3.1.2.2.cells
  obtain ⟨c0, c1, c2, c3⟩ := x3.2.1.cells
  obtain ⟨d0, d1, d2, d3⟩ := x3.2.2.cells
  obtain ⟨f0, f1, f2, f3⟩ := x3.2.1.free
  obtain ⟨h0, h1, h2, h3⟩ := x3.2.2.free
  have X3 := Lib.hid x3
  clear x3
  go_wp2_with fail
  refine (S2.out _).mono ?_; rintro e w4 ⟨rfl, b4⟩
  have x4 := (X3.out.xs gx).after b4
  clear X3 b4 S2 p0 p1 p2 p3 q0 q1 q2 q3 c0 c1 c2 c3 d0 d1 d2 d3 f0 f1 f2 f3 h0 h1 h2 h3
  obtain ⟨p0, p1, p2, p3⟩ := x4.1.2.1.cells
  obtain ⟨q0, q1, q2, q3⟩ := x4.1.2.2.cells
  obtain ⟨c0, c1, c2, c3⟩ := x4.2.1.cells
  obtain ⟨d0, d1, d2, d3⟩ := x4.2.2.cells
  obtain ⟨f0, f1, f2, f3⟩ := x4.2.1.free
  obtain ⟨h0, h1, h2, h3⟩ := x4.2.2.free
  have X4 := Lib.hid x4
  clear x4
  have xe := (X4.out.ys gy)
  clear X4
  go_wp2_with fail
  clear p0 p1 p2 p3 q0 q1 q2 q3 c0 c1 c2 c3 d0 d1 d2 d3 f0 f1 f2 f3 h0 h1 h2 h3
  generalize (World.setCell (World.setCell (World.setCell (World.setCell w4 ⟨w.heap.size + 1 + 1 + 1, 0, none⟩ (uV gy.1.1)) ⟨w.heap.size + 1 + 1 + 1, 1, none⟩ (uV gy.1.2)) ⟨w.heap.size + 1 + 1 + 1, 2, none⟩ (.int .u64 gy.2.1)) ⟨w.heap.size + 1 + 1 + 1, 3, none⟩ (.int .u64 gy.2.2)) = uf at *
  obtain ⟨p0, p1, p2, p3⟩ := xe.1.2.1.cells
  obtain ⟨q0, q1, q2, q3⟩ := xe.1.2.2.cells
  obtain ⟨c0, c1, c2, c3⟩ := xe.2.1.cells
  obtain ⟨d0, d1, d2, d3⟩ := xe.2.2.cells
  obtain ⟨f0, f1, f2, f3⟩ := xe.2.1.free
  obtain ⟨h0, h1, h2, h3⟩ := xe.2.2.free
  have XE := Lib.hid (((xe.xs gx).ys gy).after (Below.drew (Below.refl _ _)))
  clear xe
  go_region
  go_wp2_with fail
  exact bodyPost_ret (v := fTV gx gy true) (by simp [results, Try.results68, go_sem, c0, c1, c2, c3, d0, d1, d2, d3]) rfl ⟨rfl, XE.out.1.1⟩

set_option maxRecDepth 100000 in
set_option maxHeartbeats 4000000 in
theorem fp_nar_e1 (op : Int) (ho : ¬ op = 16) (a b : Fc) (w : World)
    (s1 : Sp) (I1 : Hid (∀ w, Calls Try.prog 99 #[.int .u8 op, sV a.2, sV b.2] w (Gives (sBV s1 true) w)))
    (t : Int) (T : Hid (∀ w, Calls Try.prog 98 #[.int .u8 op] w (Gives (.tuple #[.int .u8 t, .bool true]) w)))
    (s2 : Sp) (I2 : Hid (∀ w, Calls Try.prog 99 #[.int .u8 t, sV b.2, sV a.2] w (Gives (sBV s2 true) w)))
    (gx : Fc) (S1 : Hid (∀ w, Calls Try.prog 12 #[fV (a.1, s1)] w (Gives (fBV gx false) w))) :
    Calls Try.prog 68 #[.int .u8 op, fV a, fV b] w (Gives (fTV gx (b.1, s2) false) w) := by
  have hx : Hid (FQ a b fZ fZ w ((((w.alloc (.cells #[uV a.1.1, uV a.1.2, .int .u64 a.2.1, .int .u64 a.2.2] 28)).alloc (.cells #[uV b.1.1, uV b.1.2, .int .u64 b.2.1, .int .u64 b.2.2] 28)).alloc (.cells #[.int .u64 0, .int .u64 0, .int .u64 0, .int .u64 0] 28)).alloc (.cells #[.int .u64 0, .int .u64 0, .int .u64 0, .int .u64 0] 28))) := Lib.hid (FQ.new a b fZ fZ w)
  go_enter Try.func68, Try.ntmps68
  go_wp2_with fail
  generalize (((w.alloc (.cells #[uV a.1.1, uV a.1.2, .int .u64 a.2.1, .int .u64 a.2.2] 28)).alloc (.cells #[uV b.1.1, uV b.1.2, .int .u64 b.2.1, .int .u64 b.2.2] 28)).alloc (.cells #[.int .u64 0, .int .u64 0, .int .u64 0, .int .u64 0] 28)).alloc (.cells #[.int .u64 0, .int .u64 0, .int .u64 0, .int .u64 0] 28) = u at *
  obtain ⟨p0, p1, p2, p3⟩ := hx.out.1.2.1.cells
  obtain ⟨q0, q1, q2, q3⟩ := hx.out.1.2.2.cells
  obtain ⟨c0, c1, c2, c3⟩ := hx.out.2.1.cells
  obtain ⟨d0, d1, d2, d3⟩ := hx.out.2.2.cells
  obtain ⟨f0, f1, f2, f3⟩ := hx.out.2.1.free
  obtain ⟨h0, h1, h2, h3⟩ := hx.out.2.2.free
  go_region
  have x0 := ((hx.out.xs a).ys b).after (Below.drew (Below.refl _ _))
  clear hx p0 p1 p2 p3 q0 q1 q2 q3 c0 c1 c2 c3 d0 d1 d2 d3 f0 f1 f2 f3 h0 h1 h2 h3
  generalize World.drew _ = u1 at *
  obtain ⟨p0, p1, p2, p3⟩ := x0.1.2.1.cells
  obtain ⟨q0, q1, q2, q3⟩ := x0.1.2.2.cells
  obtain ⟨c0, c1, c2, c3⟩ := x0.2.1.cells
  obtain ⟨d0, d1, d2, d3⟩ := x0.2.2.cells
  obtain ⟨f0, f1, f2, f3⟩ := x0.2.1.free
  obtain ⟨h0, h1, h2, h3⟩ := x0.2.2.free
  have X0 := Lib.hid x0
  clear x0
  go_wp2_with fail
  refine (I1.out _).mono ?_; rintro e w1 ⟨rfl, b1⟩
  have x1 := X0.out.after b1
  clear X0 b1 I1 p0 p1 p2 p3 q0 q1 q2 q3 c0 c1 c2 c3 d0 d1 d2 d3 f0 f1 f2 f3 h0 h1 h2 h3
  obtain ⟨p0, p1, p2, p3⟩ := x1.1.2.1.cells
  obtain ⟨q0, q1, q2, q3⟩ := x1.1.2.2.cells
  obtain ⟨c0, c1, c2, c3⟩ := x1.2.1.cells
  obtain ⟨d0, d1, d2, d3⟩ := x1.2.2.cells
  obtain ⟨f0, f1, f2, f3⟩ := x1.2.1.free
  obtain ⟨h0, h1, h2, h3⟩ := x1.2.2.free
  have X1 := Lib.hid x1
  clear x1
  go_wp2_with fail
  refine (T.out _).mono ?_; rintro e w2 ⟨rfl, b2⟩
  have x2 := (X1.out.x2 s1).after b2
  clear X1 b2 T p0 p1 p2 p3 q0 q1 q2 q3 c0 c1 c2 c3 d0 d1 d2 d3 f0 f1 f2 f3 h0 h1 h2 h3
  obtain ⟨p0, p1, p2, p3⟩ := x2.1.2.1.cells
  obtain ⟨q0, q1, q2, q3⟩ := x2.1.2.2.cells
  obtain ⟨c0, c1, c2, c3⟩ := x2.2.1.cells
  obtain ⟨d0, d1, d2, d3⟩ := x2.2.2.cells
  obtain ⟨f0, f1, f2, f3⟩ := x2.2.1.free
  obtain ⟨h0, h1, h2, h3⟩ := x2.2.2.free
  have X2 := Lib.hid x2
  clear x2
  go_wp2_with fail
  refine (I2.out _).mono ?_; rintro e w3 ⟨rfl, b3⟩
  have x3 := X2.out.after b3
  clear X2 b3 I2 p0 p1 p2 p3 q0 q1 q2 q3 c0 c1 c2 c3 d0 d1 d2 d3 f0 f1 f2 f3 h0 h1 h2 h3
  obtain ⟨p0, p1, p2, p3⟩ := x3.1.2.1.cells
  obtain ⟨q0, q1, q2, q3⟩ := x3.1.2.2.cells
  obtain ⟨c0, c1, c2, c3⟩ := x3.2.1.cells
  obtain ⟨d0, d1, d2, d3⟩ := x3.2.2.cells
  obtain ⟨f0, f1, f2, f3⟩ := x3.2.1.free
  obtain ⟨h0, h1, h2, h3⟩ := x3.2.2.free
  have X3 := Lib.hid x3
  clear x3
  go_wp2_with fail
  refine (S1.out _).mono ?_; rintro e w4 ⟨rfl, b4⟩
  have x4 := (X3.out.y2 s2).after b4
  clear X3 b4 S1 p0 p1 p2 p3 q0 q1 q2 q3 c0 c1 c2 c3 d0 d1 d2 d3 f0 f1 f2 f3 h0 h1 h2 h3
  obtain ⟨p0, p1, p2, p3⟩ := x4.1.2.1.cells
  obtain ⟨q0, q1, q2, q3⟩ := x4.1.2.2.cells
  obtain ⟨c0, c1, c2, c3⟩ := x4.2.1.cells
  obtain ⟨d0, d1, d2, d3⟩ := x4.2.2.cells
  obtain ⟨f0, f1, f2, f3⟩ := x4.2.1.free
  obtain ⟨h0, h1, h2, h3⟩ := x4.2.2.free
  have X4 := Lib.hid x4
  clear x4
  have xe := (X4.out.xs gx)
  clear X4
  go_wp2_with fail
  clear p0 p1 p2 p3 q0 q1 q2 q3 c0 c1 c2 c3 d0 d1 d2 d3 f0 f1 f2 f3 h0 h1 h2 h3
  generalize (World.setCell (World.setCell (World.setCell (World.setCell w4 ⟨w.heap.size + 1 + 1, 0, none⟩ (uV gx.1.1)) ⟨w.heap.size + 1 + 1, 1, none⟩ (uV gx.1.2)) ⟨w.heap.size + 1 + 1, 2, none⟩ (.int .u64 gx.2.1)) ⟨w.heap.size + 1 + 1, 3, none⟩ (.int .u64 gx.2.2)) = uf at *
  obtain ⟨p0, p1, p2, p3⟩ := xe.1.2.1.cells
  obtain ⟨q0, q1, q2, q3⟩ := xe.1.2.2.cells
  obtain ⟨c0, c1, c2, c3⟩ := xe.2.1.cells
  obtain ⟨d0, d1, d2, d3⟩ := xe.2.2.cells
  obtain ⟨f0, f1, f2, f3⟩ := xe.2.1.free
  obtain ⟨h0, h1, h2, h3⟩ := xe.2.2.free
  have XE := Lib.hid (((xe.xs gx).ys (b.1, s2)).after (Below.drew (Below.refl _ _)))
  clear xe
  go_region
  go_wp2_with fail
  exact bodyPost_ret (v := fTV gx (b.1, s2) false) (by simp [results, Try.results68, go_sem, c0, c1, c2, c3, d0, d1, d2, d3]) rfl ⟨rfl, XE.out.1.1⟩

set_option maxRecDepth 100000 in
set_option maxHeartbeats 4000000 in
theorem fp_nar_e2 (op : Int) (ho : ¬ op = 16) (a b : Fc) (w : World)
    (s1 : Sp) (I1 : Hid (∀ w, Calls Try.prog 99 #[.int .u8 op, sV a.2, sV b.2] w (Gives (sBV s1 true) w)))
    (t : Int) (T : Hid (∀ w, Calls Try.prog 98 #[.int .u8 op] w (Gives (.tuple #[.int .u8 t, .bool true]) w)))
    (s2 : Sp) (I2 : Hid (∀ w, Calls Try.prog 99 #[.int .u8 t, sV b.2, sV a.2] w (Gives (sBV s2 true) w)))
    (gx : Fc) (S1 : Hid (∀ w, Calls Try.prog 12 #[fV (a.1, s1)] w (Gives (fBV gx true) w)))
    (gy : Fc) (S2 : Hid (∀ w, Calls Try.prog 12 #[fV (b.1, s2)] w (Gives (fBV gy false) w))) :
    Calls Try.prog 68 #[.int .u8 op, fV a, fV b] w (Gives (fTV gx gy false) w) := by
  have hx : Hid (FQ a b fZ fZ w ((((w.alloc (.cells #[uV a.1.1, uV a.1.2, .int .u64 a.2.1, .int .u64 a.2.2] 28)).alloc (.cells #[uV b.1.1, uV b.1.2, .int .u64 b.2.1, .int .u64 b.2.2] 28)).alloc (.cells #[.int .u64 0, .int .u64 0, .int .u64 0, .int .u64 0] 28)).alloc (.cells #[.int .u64 0, .int .u64 0, .int .u64 0, .int .u64 0] 28))) := Lib.hid (FQ.new a b fZ fZ w)
  go_enter Try.func68, Try.ntmps68
  go_wp2_with fail
  generalize (((w.alloc (.cells #[uV a.1.1, uV a.1.2, .int .u64 a.2.1, .int .u64 a.2.2] 28)).alloc (.cells #[uV b.1.1, uV b.1.2, .int .u64 b.2.1, .int .u64 b.2.2] 28)).alloc (.cells #[.int .u64 0, .int .u64 0, .int .u64 0, .int .u64 0] 28)).alloc (.cells #[.int .u64 0, .int .u64 0, .int .u64 0, .int .u64 0] 28) = u at *
  obtain ⟨p0, p1, p2, p3⟩ := hx.out.1.2.1.cells
  obtain ⟨q0, q1, q2, q3⟩ := hx.out.1.2.2.cells
  obtain ⟨c0, c1, c2, c3⟩ := hx.out.2.1.cells
  obtain ⟨d0, d1, d2, d3⟩ := hx.out.2.2.cells
  obtain ⟨f0, f1, f2, f3⟩ := hx.out.2.1.free
  obtain ⟨h0, h1, h2, h3⟩ := hx.out.2.2.free
  go_region
  have x0 := ((hx.out.xs a).ys b).after (Below.drew (Below.refl _ _))
  clear hx p0 p1 p2 p3 q0 q1 q2 q3 c0 c1 c2 c3 d0 d1 d2 d3 f0 f1 f2 f3 h0 h1 h2 h3
  generalize World.drew _ = u1 at *
  obtain ⟨p0, p1, p2, p3⟩ := x0.1.2.1.cells
  obtain ⟨q0, q1, q2, q3⟩ := x0.1.2.2.cells
  obtain ⟨c0, c1, c2, c3⟩ := x0.2.1.cells
  obtain ⟨d0, d1, d2, d3⟩ := x0.2.2.cells
  obtain ⟨f0, f1, f2, f3⟩ := x0.2.1.free
  obtain ⟨h0, h1, h2, h3⟩ := x0.2.2.free
  have X0 := Lib.hid x0
  clear x0
  go_wp2_with fail
  refine (I1.out _).mono ?_; rintro e w1 ⟨rfl, b1⟩
  have x1 := X0.out.after b1
  clear X0 b1 I1 p0 p1 p2 p3 q0 q1 q2 q3 c0 c1 c2 c3 d0 d1 d2 d3 f0 f1 f2 f3 h0 h1 h2 h3
  obtain ⟨p0, p1, p2, p3⟩ := x1.1.2.1.cells
  obtain ⟨q0, q1, q2, q3⟩ := x1.1.2.2.cells
  obtain ⟨c0, c1, c2, c3⟩ := x1.2.1.cells
  obtain ⟨d0, d1, d2, d3⟩ := x1.2.2.cells
  obtain ⟨f0, f1, f2, f3⟩ := x1.2.1.free
  obtain ⟨h0, h1, h2, h3⟩ := x1.2.2.free
  have X1 := Lib.hid x1
  clear x1
  go_wp2_with fail
  refine (T.out _).mono ?_; rintro e w2 ⟨rfl, b2⟩
  have x2 := (X1.out.x2 s1).after b2
  clear X1 b2 T p0 p1 p2 p3 q0 q1 q2 q3 c0 c1 c2 c3 d0 d1 d2 d3 f0 f1 f2 f3 h0 h1 h2 h3
  obtain ⟨p0, p1, p2, p3⟩ := x2.1.2.1.cells
  obtain ⟨q0, q1, q2, q3⟩ := x2.1.2.2.cells
  obtain ⟨c0, c1, c2, c3⟩ := x2.2.1.cells
  obtain ⟨d0, d1, d2, d3⟩ := x2.2.2.cells
  obtain ⟨f0, f1, f2, f3⟩ := x2.2.1.free
  obtain ⟨h0, h1, h2, h3⟩ := x2.2.2.free
  have X2 := Lib.hid x2
  clear x2
  go_wp2_with fail
  refine (I2.out _).mono ?_; rintro e w3 ⟨rfl, b3⟩
  have x3 := X2.out.after b3
  clear X2 b3 I2 p0 p1 p2 p3 q0 q1 q2 q3 c0 c1 c2 c3 d0 d1 d2 d3 f0 f1 f2 f3 h0 h1 h2 h3
  obtain ⟨p0, p1, p2, p3⟩ := x3.1.2.1.cells
  obtain ⟨q0, q1, q2, q3⟩ := x3.1.2.2.cells
  obtain ⟨c0, c1, c2, c3⟩ := x3.2.1.cells
  obtain ⟨d0, d1, d2, d3⟩ := x3.2.2.cells
  obtain ⟨f0, f1, f2, f3⟩ := x3.2.1.free
  obtain ⟨h0, h1, h2, h3⟩ := x3.2.2.free
  have X3 := Lib.hid x3
  clear x3
  go_wp2_with fail
  refine (S1.out _).mono ?_; rintro e w4 ⟨rfl, b4⟩
  have x4 := (X3.out.y2 s2).after b4
  clear X3 b4 S1 p0 p1 p2 p3 q0 q1 q2 q3 c0 c1 c2 c3 d0 d1 d2 d3 f0 f1 f2 f3 h0 h1 h2 h3
  obtain ⟨p0, p1, p2, p3⟩ := x4.1.2.1.cells
  obtain ⟨q0, q1, q2, q3⟩ := x4.1.2.2.cells
  obtain ⟨c0, c1, c2, c3⟩ := x4.2.1.cells
  obtain ⟨d0, d1, d2, d3⟩ := x4.2.2.cells
  obtain ⟨f0, f1, f2, f3⟩ := x4.2.1.free
  obtain ⟨h0, h1, h2, h3⟩ := x4.2.2.free
  have X4 := Lib.hid x4
  clear x4
  go_wp2_with fail
  refine (S2.out _).mono ?_; rintro e w5 ⟨rfl, b5⟩
  have x5 := (X4.out.xs gx).after b5
  clear X4 b5 S2 p0 p1 p2 p3 q0 q1 q2 q3 c0 c1 c2 c3 d0 d1 d2 d3 f0 f1 f2 f3 h0 h1 h2 h3
  obtain ⟨p0, p1, p2, p3⟩ := x5.1.2.1.cells
  obtain ⟨q0, q1, q2, q3⟩ := x5.1.2.2.cells
  obtain ⟨c0, c1, c2, c3⟩ := x5.2.1.cells
  obtain ⟨d0, d1, d2, d3⟩ := x5.2.2.cells
  obtain ⟨f0, f1, f2, f3⟩ := x5.2.1.free
  obtain ⟨h0, h1, h2, h3⟩ := x5.2.2.free
  have X5 := Lib.hid x5
  clear x5
  have xe := (X5.out.ys gy)
  clear X5
  go_wp2_with fail
  clear p0 p1 p2 p3 q0 q1 q2 q3 c0 c1 c2 c3 d0 d1 d2 d3 f0 f1 f2 f3 h0 h1 h2 h3
  generalize (World.setCell (World.setCell (World.setCell (World.setCell w5 ⟨w.heap.size + 1 + 1 + 1, 0, none⟩ (uV gy.1.1)) ⟨w.heap.size + 1 + 1 + 1, 1, none⟩ (uV gy.1.2)) ⟨w.heap.size + 1 + 1 + 1, 2, none⟩ (.int .u64 gy.2.1)) ⟨w.heap.size + 1 + 1 + 1, 3, none⟩ (.int .u64 gy.2.2)) = uf at *
  obtain ⟨p0, p1, p2, p3⟩ := xe.1.2.1.cells
  obtain ⟨q0, q1, q2, q3⟩ := xe.1.2.2.cells
  obtain ⟨c0, c1, c2, c3⟩ := xe.2.1.cells
  obtain ⟨d0, d1, d2, d3⟩ := xe.2.2.cells
  obtain ⟨f0, f1, f2, f3⟩ := xe.2.1.free
  obtain ⟨h0, h1, h2, h3⟩ := xe.2.2.free
  have XE := Lib.hid (((xe.xs gx).ys gy).after (Below.drew (Below.refl _ _)))
  clear xe
  go_region
  go_wp2_with fail
  exact bodyPost_ret (v := fTV gx gy false) (by simp [results, Try.results68, go_sem, c0, c1, c2, c3, d0, d1, d2, d3]) rfl ⟨rfl, XE.out.1.1⟩

set_option maxRecDepth 100000 in
set_option maxHeartbeats 4000000 in
theorem fp_nar_e3 (op : Int) (ho : ¬ op = 16) (a b : Fc) (w : World)
    (s1 : Sp) (I1 : Hid (∀ w, Calls Try.prog 99 #[.int .u8 op, sV a.2, sV b.2] w (Gives (sBV s1 true) w)))
    (t : Int) (T : Hid (∀ w, Calls Try.prog 98 #[.int .u8 op] w (Gives (.tuple #[.int .u8 t, .bool true]) w)))
    (s2 : Sp) (I2 : Hid (∀ w, Calls Try.prog 99 #[.int .u8 t, sV b.2, sV a.2] w (Gives (sBV s2 true) w)))
    (gx : Fc) (S1 : Hid (∀ w, Calls Try.prog 12 #[fV (a.1, s1)] w (Gives (fBV gx true) w)))
    (gy : Fc) (S2 : Hid (∀ w, Calls Try.prog 12 #[fV (b.1, s2)] w (Gives (fBV gy true) w))) :
    Calls Try.prog 68 #[.int .u8 op, fV a, fV b] w (Gives (fTV gx gy true) w) := by
  have hx : Hid (FQ a b fZ fZ w ((((w.alloc (.cells #[uV a.1.1, uV a.1.2, .int .u64 a.2.1, .int .u64 a.2.2] 28)).alloc (.cells #[uV b.1.1, uV b.1.2, .int .u64 b.2.1, .int .u64 b.2.2] 28)).alloc (.cells #[.int .u64 0, .int .u64 0, .int .u64 0, .int .u64 0] 28)).alloc (.cells #[.int .u64 0, .int .u64 0, .int .u64 0, .int .u64 0] 28))) := Lib.hid (FQ.new a b fZ fZ w)
  go_enter Try.func68, Try.ntmps68
  go_wp2_with fail
  generalize (((w.alloc (.cells #[uV a.1.1, uV a.1.2, .int .u64 a.2.1, .int .u64 a.2.2] 28)).alloc (.cells #[uV b.1.1, uV b.1.2, .int .u64 b.2.1, .int .u64 b.2.2] 28)).alloc (.cells #[.int .u64 0, .int .u64 0, .int .u64 0, .int .u64 0] 28)).alloc (.cells #[.int .u64 0, .int .u64 0, .int .u64 0, .int .u64 0] 28) = u at *
  obtain ⟨p0, p1, p2, p3⟩ := hx.out.1.2.1.cells
  obtain ⟨q0, q1, q2, q3⟩ := hx.out.1.2.2.cells
  obtain ⟨c0, c1, c2, c3⟩ := hx.out.2.1.cells
  obtain ⟨d0, d1, d2, d3⟩ := hx.out.2.2.cells
  obtain ⟨f0, f1, f2, f3⟩ := hx.out.2.1.free
  obtain ⟨h0, h1, h2, h3⟩ := hx.out.2.2.free
  go_region
  have x0 := ((hx.out.xs a).ys b).after (Below.drew (Below.refl _ _))
  clear hx p0 p1 p2 p3 q0 q1 q2 q3 c0 c1 c2 c3 d0 d1 d2 d3 f0 f1 f2 f3 h0 h1 h2 h3
  generalize World.drew _ = u1 at *
  obtain ⟨p0, p1, p2, p3⟩ := x0.1.2.1.cells
  obtain ⟨q0, q1, q2, q3⟩ := x0.1.2.2.cells
  obtain ⟨c0, c1, c2, c3⟩ := x0.2.1.cells
  obtain ⟨d0, d1, d2, d3⟩ := x0.2.2.cells
  obtain ⟨f0, f1, f2, f3⟩ := x0.2.1.free
  obtain ⟨h0, h1, h2, h3⟩ := x0.2.2.free
  have X0 := Lib.hid x0
  clear x0
  go_wp2_with fail
  refine (I1.out _).mono ?_; rintro e w1 ⟨rfl, b1⟩
  have x1 := X0.out.after b1
  clear X0 b1 I1 p0 p1 p2 p3 q0 q1 q2 q3 c0 c1 c2 c3 d0 d1 d2 d3 f0 f1 f2 f3 h0 h1 h2 h3
  obtain ⟨p0, p1, p2, p3⟩ := x1.1.2.1.cells
  obtain ⟨q0, q1, q2, q3⟩ := x1.1.2.2.cells
  obtain ⟨c0, c1, c2, c3⟩ := x1.2.1.cells
  obtain ⟨d0, d1, d2, d3⟩ := x1.2.2.cells
  obtain ⟨f0, f1, f2, f3⟩ := x1.2.1.free
  obtain ⟨h0, h1, h2, h3⟩ := x1.2.2.free
  have X1 := Lib.hid x1
  clear x1
  go_wp2_with fail
  refine (T.out _).mono ?_; rintro e w2 ⟨rfl, b2⟩
  have x2 := (X1.out.x2 s1).after b2
  clear X1 b2 T p0 p1 p2 p3 q0 q1 q2 q3 c0 c1 c2 c3 d0 d1 d2 d3 f0 f1 f2 f3 h0 h1 h2 h3
  obtain ⟨p0, p1, p2, p3⟩ := x2.1.2.1.cells
  obtain ⟨q0, q1, q2, q3⟩ := x2.1.2.2.cells
  obtain ⟨c0, c1, c2, c3⟩ := x2.2.1.cells
  obtain ⟨d0, d1, d2, d3⟩ := x2.2.2.cells
  obtain ⟨f0, f1, f2, f3⟩ := x2.2.1.free
  obtain ⟨h0, h1, h2, h3⟩ := x2.2.2.free
  have X2 := Lib.hid x2
  clear x2
  go_wp2_with fail
  refine (I2.out _).mono ?_; rintro e w3 ⟨rfl, b3⟩
  have x3 := X2.out.after b3
  clear X2 b3 I2 p0 p1 p2 p3 q0 q1 q2 q3 c0 c1 c2 c3 d0 d1 d2 d3 f0 f1 f2 f3 h0 h1 h2 h3
  obtain ⟨p0, p1, p2, p3⟩ := x3.1.2.1.cells
  obtain ⟨q0, q1, q2, q3⟩ := x3.1.2.2.cells
  obtain ⟨c0, c1, c2, c3⟩ := x3.2.1.cells
  obtain ⟨d0, d1, d2, d3⟩ := x3.2.2.cells
  obtain ⟨f0, f1, f2, f3⟩ := x3.2.1.free
  obtain ⟨h0, h1, h2, h3⟩ := x3.2.2.free
  have X3 := Lib.hid x3
  clear x3
  go_wp2_with fail
  refine (S1.out _).mono ?_; rintro e w4 ⟨rfl, b4⟩
  have x4 := (X3.out.y2 s2).after b4
  clear X3 b4 S1 p0 p1 p2 p3 q0 q1 q2 q3 c0 c1 c2 c3 d0 d1 d2 d3 f0 f1 f2 f3 h0 h1 h2 h3
  obtain ⟨p0, p1, p2, p3⟩ := x4.1.2.1.cells
  obtain ⟨q0, q1, q2, q3⟩ := x4.1.2.2.cells
  obtain ⟨c0, c1, c2, c3⟩ := x4.2.1.cells
  obtain ⟨d0, d1, d2, d3⟩ := x4.2.2.cells
  obtain ⟨f0, f1, f2, f3⟩ := x4.2.1.free
  obtain ⟨h0, h1, h2, h3⟩ := x4.2.2.free
  have X4 := Lib.hid x4
  clear x4
  go_wp2_with fail
  refine (S2.out _).mono ?_; rintro e w5 ⟨rfl, b5⟩
  have x5 := (X4.out.xs gx).after b5
  clear X4 b5 S2 p0 p1 p2 p3 q0 q1 q2 q3 c0 c1 c2 c3 d0 d1 d2 d3 f0 f1 f2 f3 h0 h1 h2 h3
  obtain ⟨p0, p1, p2, p3⟩ := x5.1.2.1.cells
  obtain ⟨q0, q1, q2, q3⟩ := x5.1.2.2.cells
  obtain ⟨c0, c1, c2, c3⟩ := x5.2.1.cells
  obtain ⟨d0, d1, d2, d3⟩ := x5.2.2.cells
  obtain ⟨f0, f1, f2, f3⟩ := x5.2.1.free
  obtain ⟨h0, h1, h2, h3⟩ := x5.2.2.free
  have X5 := Lib.hid x5
  clear x5
  have xe := (X5.out.ys gy)
  clear X5
  go_wp2_with fail
  clear p0 p1 p2 p3 q0 q1 q2 q3 c0 c1 c2 c3 d0 d1 d2 d3 f0 f1 f2 f3 h0 h1 h2 h3
  generalize (World.setCell (World.setCell (World.setCell (World.setCell w5 ⟨w.heap.size + 1 + 1 + 1, 0, none⟩ (uV gy.1.1)) ⟨w.heap.size + 1 + 1 + 1, 1, none⟩ (uV gy.1.2)) ⟨w.heap.size + 1 + 1 + 1, 2, none⟩ (.int .u64 gy.2.1)) ⟨w.heap.size + 1 + 1 + 1, 3, none⟩ (.int .u64 gy.2.2)) = uf at *
  obtain ⟨p0, p1, p2, p3⟩ := xe.1.2.1.cells
  obtain ⟨q0, q1, q2, q3⟩ := xe.1.2.2.cells
  obtain ⟨c0, c1, c2, c3⟩ := xe.2.1.cells
  obtain ⟨d0, d1, d2, d3⟩ := xe.2.2.cells
  obtain ⟨f0, f1, f2, f3⟩ := xe.2.1.free
  obtain ⟨h0, h1, h2, h3⟩ := xe.2.2.free
  have XE := Lib.hid (((xe.xs gx).ys gy).after (Below.drew (Below.refl _ _)))
  clear xe
  go_region
  go_wp2_with fail
  exact bodyPost_ret (v := fTV gx gy true) (by simp [results, Try.results68, go_sem, c0, c1, c2, c3, d0, d1, d2, d3]) rfl ⟨rfl, XE.out.1.1⟩

set_option maxRecDepth 100000 in
set_option maxHeartbeats 4000000 in
theorem fp_nar_f1 (a b : Fc) (w : World)
    (s1 : Sp) (I1 : Hid (∀ w, Calls Try.prog 99 #[.int .u8 16, sV a.2, sV b.2] w (Gives (sBV s1 true) w)))
    (t : Int) (T : Hid (∀ w, Calls Try.prog 98 #[.int .u8 16] w (Gives (.tuple #[.int .u8 t, .bool true]) w)))
    (s2 : Sp) (I2 : Hid (∀ w, Calls Try.prog 99 #[.int .u8 t, sV b.2, sV a.2] w (Gives (sBV s2 true) w)))
    (m : Tn) (M : Hid (∀ w, Calls Try.prog 78 #[tV a.1, tV b.1] w (Gives (tBV m true) w)))
    (gx : Fc) (S1 : Hid (∀ w, Calls Try.prog 12 #[fV (m, s1)] w (Gives (fBV gx false) w))) :
    Calls Try.prog 68 #[.int .u8 16, fV a, fV b] w (Gives (fTV gx (m, s2) false) w) := by
  have hx : Hid (FQ a b fZ fZ w ((((w.alloc (.cells #[uV a.1.1, uV a.1.2, .int .u64 a.2.1, .int .u64 a.2.2] 28)).alloc (.cells #[uV b.1.1, uV b.1.2, .int .u64 b.2.1, .int .u64 b.2.2] 28)).alloc (.cells #[.int .u64 0, .int .u64 0, .int .u64 0, .int .u64 0] 28)).alloc (.cells #[.int .u64 0, .int .u64 0, .int .u64 0, .int .u64 0] 28))) := Lib.hid (FQ.new a b fZ fZ w)
  go_enter Try.func68, Try.ntmps68
  go_wp2_with fail
  generalize (((w.alloc (.cells #[uV a.1.1, uV a.1.2, .int .u64 a.2.1, .int .u64 a.2.2] 28)).alloc (.cells #[uV b.1.1, uV b.1.2, .int .u64 b.2.1, .int .u64 b.2.2] 28)).alloc (.cells #[.int .u64 0, .int .u64 0, .int .u64 0, .int .u64 0] 28)).alloc (.cells #[.int .u64 0, .int .u64 0, .int .u64 0, .int .u64 0] 28) = u at *
  obtain ⟨p0, p1, p2, p3⟩ := hx.out.1.2.1.cells
  obtain ⟨q0, q1, q2, q3⟩ := hx.out.1.2.2.cells
  obtain ⟨c0, c1, c2, c3⟩ := hx.out.2.1.cells
  obtain ⟨d0, d1, d2, d3⟩ := hx.out.2.2.cells
  obtain ⟨f0, f1, f2, f3⟩ := hx.out.2.1.free
  obtain ⟨h0, h1, h2, h3⟩ := hx.out.2.2.free
  go_region
  have x0 := ((hx.out.xs a).ys b).after (Below.drew (Below.refl _ _))
  clear hx p0 p1 p2 p3 q0 q1 q2 q3 c0 c1 c2 c3 d0 d1 d2 d3 f0 f1 f2 f3 h0 h1 h2 h3
  generalize World.drew _ = u1 at *
  obtain ⟨p0, p1, p2, p3⟩ := x0.1.2.1.cells
  obtain ⟨q0, q1, q2, q3⟩ := x0.1.2.2.cells
  obtain ⟨c0, c1, c2, c3⟩ := x0.2.1.cells
  obtain ⟨d0, d1, d2, d3⟩ := x0.2.2.cells
  obtain ⟨f0, f1, f2, f3⟩ := x0.2.1.free
  obtain ⟨h0, h1, h2, h3⟩ := x0.2.2.free
  have X0 := Lib.hid x0
  clear x0
  go_wp2_with fail
  refine (I1.out _).mono ?_; rintro e w1 ⟨rfl, b1⟩
  have x1 := X0.out.after b1
  clear X0 b1 I1 p0 p1 p2 p3 q0 q1 q2 q3 c0 c1 c2 c3 d0 d1 d2 d3 f0 f1 f2 f3 h0 h1 h2 h3
  obtain ⟨p0, p1, p2, p3⟩ := x1.1.2.1.cells
  obtain ⟨q0, q1, q2, q3⟩ := x1.1.2.2.cells
  obtain ⟨c0, c1, c2, c3⟩ := x1.2.1.cells
  obtain ⟨d0, d1, d2, d3⟩ := x1.2.2.cells
  obtain ⟨f0, f1, f2, f3⟩ := x1.2.1.free
  obtain ⟨h0, h1, h2, h3⟩ := x1.2.2.free
  have X1 := Lib.hid x1
  clear x1
  go_wp2_with fail
  refine (T.out _).mono ?_; rintro e w2 ⟨rfl, b2⟩
  have x2 := (X1.out.x2 s1).after b2
  clear X1 b2 T p0 p1 p2 p3 q0 q1 q2 q3 c0 c1 c2 c3 d0 d1 d2 d3 f0 f1 f2 f3 h0 h1 h2 h3
  obtain ⟨p0, p1, p2, p3⟩ := x2.1.2.1.cells
  obtain ⟨q0, q1, q2, q3⟩ := x2.1.2.2.cells
  obtain ⟨c0, c1, c2, c3⟩ := x2.2.1.cells
  obtain ⟨d0, d1, d2, d3⟩ := x2.2.2.cells
  obtain ⟨f0, f1, f2, f3⟩ := x2.2.1.free
  obtain ⟨h0, h1, h2, h3⟩ := x2.2.2.free
  have X2 := Lib.hid x2
  clear x2
  go_wp2_with fail
  refine (I2.out _).mono ?_; rintro e w3 ⟨rfl, b3⟩
  have x3 := X2.out.after b3
  clear X2 b3 I2 p0 p1 p2 p3 q0 q1 q2 q3 c0 c1 c2 c3 d0 d1 d2 d3 f0 f1 f2 f3 h0 h1 h2 h3
  obtain ⟨p0, p1, p2, p3⟩ := x3.1.2.1.cells
  obtain ⟨q0, q1, q2, q3⟩ := x3.1.2.2.cells
  obtain ⟨c0, c1, c2, c3⟩ := x3.2.1.cells
  obtain ⟨d0, d1, d2, d3⟩ := x3.2.2.cells
  obtain ⟨f0, f1, f2, f3⟩ := x3.2.1.free
  obtain ⟨h0, h1, h2, h3⟩ := x3.2.2.free
  have X3 := Lib.hid x3
  clear x3
  go_wp2_with fail
  refine (M.out _).mono ?_; rintro e w4 ⟨rfl, b4⟩
  have x4 := (X3.out.y2 s2).after b4
  clear X3 b4 M p0 p1 p2 p3 q0 q1 q2 q3 c0 c1 c2 c3 d0 d1 d2 d3 f0 f1 f2 f3 h0 h1 h2 h3
  obtain ⟨p0, p1, p2, p3⟩ := x4.1.2.1.cells
  obtain ⟨q0, q1, q2, q3⟩ := x4.1.2.2.cells
  obtain ⟨c0, c1, c2, c3⟩ := x4.2.1.cells
  obtain ⟨d0, d1, d2, d3⟩ := x4.2.2.cells
  obtain ⟨f0, f1, f2, f3⟩ := x4.2.1.free
  obtain ⟨h0, h1, h2, h3⟩ := x4.2.2.free
  have X4 := Lib.hid x4
  clear x4
  go_wp2_with fail
  refine (S1.out _).mono ?_; rintro e w5 ⟨rfl, b5⟩
  have x5 := ((X4.out.x1 m).y1 m).after b5
  clear X4 b5 S1 p0 p1 p2 p3 q0 q1 q2 q3 c0 c1 c2 c3 d0 d1 d2 d3 f0 f1 f2 f3 h0 h1 h2 h3
  obtain ⟨p0, p1, p2, p3⟩ := x5.1.2.1.cells
  obtain ⟨q0, q1, q2, q3⟩ := x5.1.2.2.cells
  obtain ⟨c0, c1, c2, c3⟩ := x5.2.1.cells
  obtain ⟨d0, d1, d2, d3⟩ := x5.2.2.cells
  obtain ⟨f0, f1, f2, f3⟩ := x5.2.1.free
  obtain ⟨h0, h1, h2, h3⟩ := x5.2.2.free
  have X5 := Lib.hid x5
  clear x5
  have xe := (X5.out.xs gx)
  clear X5
  go_wp2_with fail
  clear p0 p1 p2 p3 q0 q1 q2 q3 c0 c1 c2 c3 d0 d1 d2 d3 f0 f1 f2 f3 h0 h1 h2 h3
  generalize (World.setCell (World.setCell (World.setCell (World.setCell w5 ⟨w.heap.size + 1 + 1, 0, none⟩ (uV gx.1.1)) ⟨w.heap.size + 1 + 1, 1, none⟩ (uV gx.1.2)) ⟨w.heap.size + 1 + 1, 2, none⟩ (.int .u64 gx.2.1)) ⟨w.heap.size + 1 + 1, 3, none⟩ (.int .u64 gx.2.2)) = uf at *
  obtain ⟨p0, p1, p2, p3⟩ := xe.1.2.1.cells
  obtain ⟨q0, q1, q2, q3⟩ := xe.1.2.2.cells
  obtain ⟨c0, c1, c2, c3⟩ := xe.2.1.cells
  obtain ⟨d0, d1, d2, d3⟩ := xe.2.2.cells
  obtain ⟨f0, f1, f2, f3⟩ := xe.2.1.free
  obtain ⟨h0, h1, h2, h3⟩ := xe.2.2.free
  have XE := Lib.hid (((xe.xs gx).ys (m, s2)).after (Below.drew (Below.refl _ _)))
  clear xe
  go_region
  go_wp2_with fail
  exact bodyPost_ret (v := fTV gx (m, s2) false) (by simp [results, Try.results68, go_sem, c0, c1, c2, c3, d0, d1, d2, d3]) rfl ⟨rfl, XE.out.1.1⟩

set_option maxRecDepth 100000 in
set_option maxHeartbeats 4000000 in
theorem fp_nar_f2 (a b : Fc) (w : World)
    (s1 : Sp) (I1 : Hid (∀ w, Calls Try.prog 99 #[.int .u8 16, sV a.2, sV b.2] w (Gives (sBV s1 true) w)))
    (t : Int) (T : Hid (∀ w, Calls Try.prog 98 #[.int .u8 16] w (Gives (.tuple #[.int .u8 t, .bool true]) w)))
    (s2 : Sp) (I2 : Hid (∀ w, Calls Try.prog 99 #[.int .u8 t, sV b.2, sV a.2] w (Gives (sBV s2 true) w)))
    (m : Tn) (M : Hid (∀ w, Calls Try.prog 78 #[tV a.1, tV b.1] w (Gives (tBV m true) w)))
    (gx : Fc) (S1 : Hid (∀ w, Calls Try.prog 12 #[fV (m, s1)] w (Gives (fBV gx true) w)))
    (gy : Fc) (S2 : Hid (∀ w, Calls Try.prog 12 #[fV (m, s2)] w (Gives (fBV gy false) w))) :
    Calls Try.prog 68 #[.int .u8 16, fV a, fV b] w (Gives (fTV gx gy false) w) := by
  have hx : Hid (FQ a b fZ fZ w ((((w.alloc (.cells #[uV a.1.1, uV a.1.2, .int .u64 a.2.1, .int .u64 a.2.2] 28)).alloc (.cells #[uV b.1.1, uV b.1.2, .int .u64 b.2.1, .int .u64 b.2.2] 28)).alloc (.cells #[.int .u64 0, .int .u64 0, .int .u64 0, .int .u64 0] 28)).alloc (.cells #[.int .u64 0, .int .u64 0, .int .u64 0, .int .u64 0] 28))) := Lib.hid (FQ.new a b fZ fZ w)
  go_enter Try.func68, Try.ntmps68
  go_wp2_with fail
  generalize (((w.alloc (.cells #[uV a.1.1, uV a.1.2, .int .u64 a.2.1, .int .u64 a.2.2] 28)).alloc (.cells #[uV b.1.1, uV b.1.2, .int .u64 b.2.1, .int .u64 b.2.2] 28)).alloc (.cells #[.int .u64 0, .int .u64 0, .int .u64 0, .int .u64 0] 28)).alloc (.cells #[.int .u64 0, .int .u64 0, .int .u64 0, .int .u64 0] 28) = u at *
  obtain ⟨p0, p1, p2, p3⟩ := hx.out.1.2.1.cells
  obtain ⟨q0, q1, q2, q3⟩ := hx.out.1.2.2.cells
  obtain ⟨c0, c1, c2, c3⟩ := hx.out.2.1.cells
  obtain ⟨d0, d1, d2, d3⟩ := hx.out.2.2.cells
  obtain ⟨f0, f1, f2, f3⟩ := hx.out.2.1.free
  obtain ⟨h0, h1, h2, h3⟩ := hx.out.2.2.free
  go_region
  have x0 := ((hx.out.xs a).ys b).after (Below.drew (Below.refl _ _))
  clear hx p0 p1 p2 p3 q0 q1 q2 q3 c0 c1 c2 c3 d0 d1 d2 d3 f0 f1 f2 f3 h0 h1 h2 h3
  generalize World.drew _ = u1 at *
  obtain ⟨p0, p1, p2, p3⟩ := x0.1.2.1.cells
  obtain ⟨q0, q1, q2, q3⟩ := x0.1.2.2.cells
  obtain ⟨c0, c1, c2, c3⟩ := x0.2.1.cells
  obtain ⟨d0, d1, d2, d3⟩ := x0.2.2.cells
  obtain ⟨f0, f1, f2, f3⟩ := x0.2.1.free
  obtain ⟨h0, h1, h2, h3⟩ := x0.2.2.free
  have X0 := Lib.hid x0
  clear x0
  go_wp2_with fail
  refine (I1.out _).mono ?_; rintro e w1 ⟨rfl, b1⟩
  have x1 := X0.out.after b1
  clear X0 b1 I1 p0 p1 p2 p3 q0 q1 q2 q3 c0 c1 c2 c3 d0 d1 d2 d3 f0 f1 f2 f3 h0 h1 h2 h3
  obtain ⟨p0, p1, p2, p3⟩ := x1.1.2.1.cells
  obtain ⟨q0, q1, q2, q3⟩ := x1.1.2.2.cells
  obtain ⟨c0, c1, c2, c3⟩ := x1.2.1.cells
  obtain ⟨d0, d1, d2, d3⟩ := x1.2.2.cells
  obtain ⟨f0, f1, f2, f3⟩ := x1.2.1.free
  obtain ⟨h0, h1, h2, h3⟩ := x1.2.2.free
  have X1 := Lib.hid x1
  clear x1
  go_wp2_with fail
  refine (T.out _).mono ?_; rintro e w2 ⟨rfl, b2⟩
  have x2 := (X1.out.x2 s1).after b2
  clear X1 b2 T p0 p1 p2 p3 q0 q1 q2 q3 c0 c1 c2 c3 d0 d1 d2 d3 f0 f1 f2 f3 h0 h1 h2 h3
  obtain ⟨p0, p1, p2, p3⟩ := x2.1.2.1.cells
  obtain ⟨q0, q1, q2, q3⟩ := x2.1.2.2.cells
  obtain ⟨c0, c1, c2, c3⟩ := x2.2.1.cells
  obtain ⟨d0, d1, d2, d3⟩ := x2.2.2.cells
  obtain ⟨f0, f1, f2, f3⟩ := x2.2.1.free
  obtain ⟨h0, h1, h2, h3⟩ := x2.2.2.free
  have X2 := Lib.hid x2
  clear x2
  go_wp2_with fail
  refine (I2.out _).mono ?_; rintro e w3 ⟨rfl, b3⟩
  have x3 := X2.out.after b3
  clear X2 b3 I2 p0 p1 p2 p3 q0 q1 q2 q3 c0 c1 c2 c3 d0 d1 d2 d3 f0 f1 f2 f3 h0 h1 h2 h3
  obtain ⟨p0, p1, p2, p3⟩ := x3.1.2.1.cells
  obtain ⟨q0, q1, q2, q3⟩ := x3.1.2.2.cells
  obtain ⟨c0, c1, c2, c3⟩ := x3.2.1.cells
  obtain ⟨d0, d1, d2, d3⟩ := x3.2.2.cells
  obtain ⟨f0, f1, f2, f3⟩ := x3.2.1.free
  obtain ⟨h0, h1, h2, h3⟩ := x3.2.2.free
  have X3 := Lib.hid x3
  clear x3
  go_wp2_with fail
  refine (M.out _).mono ?_; rintro e w4 ⟨rfl, b4⟩
  have x4 := (X3.out.y2 s2).after b4
  clear X3 b4 M p0 p1 p2 p3 q0 q1 q2 q3 c0 c1 c2 c3 d0 d1 d2 d3 f0 f1 f2 f3 h0 h1 h2 h3
  obtain ⟨p0, p1, p2, p3⟩ := x4.1.2.1.cells
  obtain ⟨q0, q1, q2, q3⟩ := x4.1.2.2.cells
  obtain ⟨c0, c1, c2, c3⟩ := x4.2.1.cells
  obtain ⟨d0, d1, d2, d3⟩ := x4.2.2.cells
  obtain ⟨f0, f1, f2, f3⟩ := x4.2.1.free
  obtain ⟨h0, h1, h2, h3⟩ := x4.2.2.free
  have X4 := Lib.hid x4
  clear x4
  go_wp2_with fail
  refine (S1.out _).mono ?_; rintro e w5 ⟨rfl, b5⟩
  have x5 := ((X4.out.x1 m).y1 m).after b5
  clear X4 b5 S1 p0 p1 p2 p3 q0 q1 q2 q3 c0 c1 c2 c3 d0 d1 d2 d3 f0 f1 f2 f3 h0 h1 h2 h3
  obtain ⟨p0, p1, p2, p3⟩ := x5.1.2.1.cells
  obtain ⟨q0, q1, q2, q3⟩ := x5.1.2.2.cells
  obtain ⟨c0, c1, c2, c3⟩ := x5.2.1.cells
  obtain ⟨d0, d1, d2, d3⟩ := x5.2.2.cells
  obtain ⟨f0, f1, f2, f3⟩ := x5.2.1.free
  obtain ⟨h0, h1, h2, h3⟩ := x5.2.2.free
  have X5 := Lib.hid x5
  clear x5
  go_wp2_with fail
  refine (S2.out _).mono ?_; rintro e w6 ⟨rfl, b6⟩
  have x6 := (X5.out.xs gx).after b6
  clear X5 b6 S2 p0 p1 p2 p3 q0 q1 q2 q3 c0 c1 c2 c3 d0 d1 d2 d3 f0 f1 f2 f3 h0 h1 h2 h3
  obtain ⟨p0, p1, p2, p3⟩ := x6.1.2.1.cells
  obtain ⟨q0, q1, q2, q3⟩ := x6.1.2.2.cells
  obtain ⟨c0, c1, c2, c3⟩ := x6.2.1.cells
  obtain ⟨d0, d1, d2, d3⟩ := x6.2.2.cells
  obtain ⟨f0, f1, f2, f3⟩ := x6.2.1.free
  obtain ⟨h0, h1, h2, h3⟩ := x6.2.2.free
  have X6 := Lib.hid x6
  clear x6
  have xe := (X6.out.ys gy)
  clear X6
  go_wp2_with fail
  clear p0 p1 p2 p3 q0 q1 q2 q3 c0 c1 c2 c3 d0 d1 d2 d3 f0 f1 f2 f3 h0 h1 h2 h3
  generalize (World.setCell (World.setCell (World.setCell (World.setCell w6 ⟨w.heap.size + 1 + 1 + 1, 0, none⟩ (uV gy.1.1)) ⟨w.heap.size + 1 + 1 + 1, 1, none⟩ (uV gy.1.2)) ⟨w.heap.size + 1 + 1 + 1, 2, none⟩ (.int .u64 gy.2.1)) ⟨w.heap.size + 1 + 1 + 1, 3, none⟩ (.int .u64 gy.2.2)) = uf at *
  obtain ⟨p0, p1, p2, p3⟩ := xe.1.2.1.cells
  obtain ⟨q0, q1, q2, q3⟩ := xe.1.2.2.cells
  obtain ⟨c0, c1, c2, c3⟩ := xe.2.1.cells
  obtain ⟨d0, d1, d2, d3⟩ := xe.2.2.cells
  obtain ⟨f0, f1, f2, f3⟩ := xe.2.1.free
  obtain ⟨h0, h1, h2, h3⟩ := xe.2.2.free
  have XE := Lib.hid (((xe.xs gx).ys gy).after (Below.drew (Below.refl _ _)))
  clear xe
  go_region
  go_wp2_with fail
  exact bodyPost_ret (v := fTV gx gy false) (by simp [results, Try.results68, go_sem, c0, c1, c2, c3, d0, d1, d2, d3]) rfl ⟨rfl, XE.out.1.1⟩

set_option maxRecDepth 100000 in
set_option maxHeartbeats 4000000 in
theorem fp_nar_f3 (a b : Fc) (w : World)
    (s1 : Sp) (I1 : Hid (∀ w, Calls Try.prog 99 #[.int .u8 16, sV a.2, sV b.2] w (Gives (sBV s1 true) w)))
    (t : Int) (T : Hid (∀ w, Calls Try.prog 98 #[.int .u8 16] w (Gives (.tuple #[.int .u8 t, .bool true]) w)))
    (s2 : Sp) (I2 : Hid (∀ w, Calls Try.prog 99 #[.int .u8 t, sV b.2, sV a.2] w (Gives (sBV s2 true) w)))
    (m : Tn) (M : Hid (∀ w, Calls Try.prog 78 #[tV a.1, tV b.1] w (Gives (tBV m true) w)))
    (gx : Fc) (S1 : Hid (∀ w, Calls Try.prog 12 #[fV (m, s1)] w (Gives (fBV gx true) w)))
    (gy : Fc) (S2 : Hid (∀ w, Calls Try.prog 12 #[fV (m, s2)] w (Gives (fBV gy true) w))) :
    Calls Try.prog 68 #[.int .u8 16, fV a, fV b] w (Gives (fTV gx gy true) w) := by
  have hx : Hid (FQ a b fZ fZ w ((((w.alloc (.cells #[uV a.1.1, uV a.1.2, .int .u64 a.2.1, .int .u64 a.2.2] 28)).alloc (.cells #[uV b.1.1, uV b.1.2, .int .u64 b.2.1, .int .u64 b.2.2] 28)).alloc (.cells #[.int .u64 0, .int .u64 0, .int .u64 0, .int .u64 0] 28)).alloc (.cells #[.int .u64 0, .int .u64 0, .int .u64 0, .int .u64 0] 28))) := Lib.hid (FQ.new a b fZ fZ w)
  go_enter Try.func68, Try.ntmps68
  go_wp2_with fail
  generalize (((w.alloc (.cells #[uV a.1.1, uV a.1.2, .int .u64 a.2.1, .int .u64 a.2.2] 28)).alloc (.cells #[uV b.1.1, uV b.1.2, .int .u64 b.2.1, .int .u64 b.2.2] 28)).alloc (.cells #[.int .u64 0, .int .u64 0, .int .u64 0, .int .u64 0] 28)).alloc (.cells #[.int .u64 0, .int .u64 0, .int .u64 0, .int .u64 0] 28) = u at *
  obtain ⟨p0, p1, p2, p3⟩ := hx.out.1.2.1.cells
  obtain ⟨q0, q1, q2, q3⟩ := hx.out.1.2.2.cells
  obtain ⟨c0, c1, c2, c3⟩ := hx.out.2.1.cells
  obtain ⟨d0, d1, d2, d3⟩ := hx.out.2.2.cells
  obtain ⟨f0, f1, f2, f3⟩ := hx.out.2.1.free
  obtain ⟨h0, h1, h2, h3⟩ := hx.out.2.2.free
  go_region
  have x0 := ((hx.out.xs a).ys b).after (Below.drew (Below.refl _ _))
  clear hx p0 p1 p2 p3 q0 q1 q2 q3 c0 c1 c2 c3 d0 d1 d2 d3 f0 f1 f2 f3 h0 h1 h2 h3
  generalize World.drew _ = u1 at *
  obtain ⟨p0, p1, p2, p3⟩ := x0.1.2.1.cells
  obtain ⟨q0, q1, q2, q3⟩ := x0.1.2.2.cells
  obtain ⟨c0, c1, c2, c3⟩ := x0.2.1.cells
  obtain ⟨d0, d1, d2, d3⟩ := x0.2.2.cells
  obtain ⟨f0, f1, f2, f3⟩ := x0.2.1.free
  obtain ⟨h0, h1, h2, h3⟩ := x0.2.2.free
  have X0 := Lib.hid x0
  clear x0
  go_wp2_with fail
  refine (I1.out _).mono ?_; rintro e w1 ⟨rfl, b1⟩
  have x1 := X0.out.after b1
  clear X0 b1 I1 p0 p1 p2 p3 q0 q1 q2 q3 c0 c1 c2 c3 d0 d1 d2 d3 f0 f1 f2 f3 h0 h1 h2 h3
  obtain ⟨p0, p1, p2, p3⟩ := x1.1.2.1.cells
  obtain ⟨q0, q1, q2, q3⟩ := x1.1.2.2.cells
  obtain ⟨c0, c1, c2, c3⟩ := x1.2.1.cells
  obtain ⟨d0, d1, d2, d3⟩ := x1.2.2.cells
  obtain ⟨f0, f1, f2, f3⟩ := x1.2.1.free
  obtain ⟨h0, h1, h2, h3⟩ := x1.2.2.free
  have X1 := Lib.hid x1
  clear x1
  go_wp2_with fail
  refine (T.out _).mono ?_; rintro e w2 ⟨rfl, b2⟩
  have x2 := (X1.out.x2 s1).after b2
  clear X1 b2 T p0 p1 p2 p3 q0 q1 q2 q3 c0 c1 c2 c3 d0 d1 d2 d3 f0 f1 f2 f3 h0 h1 h2 h3
  obtain ⟨p0, p1, p2, p3⟩ := x2.1.2.1.cells
  obtain ⟨q0, q1, q2, q3⟩ := x2.1.2.2.cells
  obtain ⟨c0, c1, c2, c3⟩ := x2.2.1.cells
  obtain ⟨d0, d1, d2, d3⟩ := x2.2.2.cells
  obtain ⟨f0, f1, f2, f3⟩ := x2.2.1.free
  obtain ⟨h0, h1, h2, h3⟩ := x2.2.2.free
  have X2 := Lib.hid x2
  clear x2
  go_wp2_with fail
  refine (I2.out _).mono ?_; rintro e w3 ⟨rfl, b3⟩
  have x3 := X2.out.after b3
  clear X2 b3 I2 p0 p1 p2 p3 q0 q1 q2 q3 c0 c1 c2 c3 d0 d1 d2 d3 f0 f1 f2 f3 h0 h1 h2 h3
  obtain ⟨p0, p1, p2, p3⟩ := x3.1.2.1.cells
  obtain ⟨q0, q1, q2, q3⟩ := x3.1.2.2.cells
  obtain ⟨c0, c1, c2, c3⟩ := x3.2.1.cells
  obtain ⟨d0, d1, d2, d3⟩ := x3.2.2.cells
  obtain ⟨f0, f1, f2, f3⟩ := x3.2.1.free
  obtain ⟨h0, h1, h2, h3⟩ := x3.2.2.free
  have X3 := Lib.hid x3
  clear x3
  go_wp2_with fail
  refine (M.out _).mono ?_; rintro e w4 ⟨rfl, b4⟩
  have x4 := (X3.out.y2 s2).after b4
  clear X3 b4 M p0 p1 p2 p3 q0 q1 q2 q3 c0 c1 c2 c3 d0 d1 d2 d3 f0 f1 f2 f3 h0 h1 h2 h3
  obtain ⟨p0, p1, p2, p3⟩ := x4.1.2.1.cells
  obtain ⟨q0, q1, q2, q3⟩ := x4.1.2.2.cells
  obtain ⟨c0, c1, c2, c3⟩ := x4.2.1.cells
  obtain ⟨d0, d1, d2, d3⟩ := x4.2.2.cells
  obtain ⟨f0, f1, f2, f3⟩ := x4.2.1.free
  obtain ⟨h0, h1, h2, h3⟩ := x4.2.2.free
  have X4 := Lib.hid x4
  clear x4
  go_wp2_with fail
  refine (S1.out _).mono ?_; rintro e w5 ⟨rfl, b5⟩
  have x5 := ((X4.out.x1 m).y1 m).after b5
  clear X4 b5 S1 p0 p1 p2 p3 q0 q1 q2 q3 c0 c1 c2 c3 d0 d1 d2 d3 f0 f1 f2 f3 h0 h1 h2 h3
  obtain ⟨p0, p1, p2, p3⟩ := x5.1.2.1.cells
  obtain ⟨q0, q1, q2, q3⟩ := x5.1.2.2.cells
  obtain ⟨c0, c1, c2, c3⟩ := x5.2.1.cells
  obtain ⟨d0, d1, d2, d3⟩ := x5.2.2.cells
  obtain ⟨f0, f1, f2, f3⟩ := x5.2.1.free
  obtain ⟨h0, h1, h2, h3⟩ := x5.2.2.free
  have X5 := Lib.hid x5
  clear x5
  go_wp2_with fail
  refine (S2.out _).mono ?_; rintro e w6 ⟨rfl, b6⟩
  have x6 := (X5.out.xs gx).after b6
  clear X5 b6 S2 p0 p1 p2 p3 q0 q1 q2 q3 c0 c1 c2 c3 d0 d1 d2 d3 f0 f1 f2 f3 h0 h1 h2 h3
  obtain ⟨p0, p1, p2, p3⟩ := x6.1.2.1.cells
  obtain ⟨q0, q1, q2, q3⟩ := x6.1.2.2.cells
  obtain ⟨c0, c1, c2, c3⟩ := x6.2.1.cells
  obtain ⟨d0, d1, d2, d3⟩ := x6.2.2.cells
  obtain ⟨f0, f1, f2, f3⟩ := x6.2.1.free
  obtain ⟨h0, h1, h2, h3⟩ := x6.2.2.free
  have X6 := Lib.hid x6
  clear x6
  have xe := (X6.out.ys gy)
  clear X6
  go_wp2_with fail
  clear p0 p1 p2 p3 q0 q1 q2 q3 c0 c1 c2 c3 d0 d1 d2 d3 f0 f1 f2 f3 h0 h1 h2 h3
  generalize (World.setCell (World.setCell (World.setCell (World.setCell w6 ⟨w.heap.size + 1 + 1 + 1, 0, none⟩ (uV gy.1.1)) ⟨w.heap.size + 1 + 1 + 1, 1, none⟩ (uV gy.1.2)) ⟨w.heap.size + 1 + 1 + 1, 2, none⟩ (.int .u64 gy.2.1)) ⟨w.heap.size + 1 + 1 + 1, 3, none⟩ (.int .u64 gy.2.2)) = uf at *
  obtain ⟨p0, p1, p2, p3⟩ := xe.1.2.1.cells
  obtain ⟨q0, q1, q2, q3⟩ := xe.1.2.2.cells
  obtain ⟨c0, c1, c2, c3⟩ := xe.2.1.cells
  obtain ⟨d0, d1, d2, d3⟩ := xe.2.2.cells
  obtain ⟨f0, f1, f2, f3⟩ := xe.2.1.free
  obtain ⟨h0, h1, h2, h3⟩ := xe.2.2.free
  have XE := Lib.hid (((xe.xs gx).ys gy).after (Below.drew (Below.refl _ _)))
  clear xe
  go_region
  go_wp2_with fail
  exact bodyPost_ret (v := fTV gx gy true) (by simp [results, Try.results68, go_sem, c0, c1, c2, c3, d0, d1, d2, d3]) rfl ⟨rfl, XE.out.1.1⟩

end Go.Proofs.Ytfepokiibdkoeaa


/-
  The program's fact: both parts' If, all its ways.
  Conditions: the numbers fit their kinds; the facts are settled.
-/
namespace Go.Proofs.Ytfepokiibdkoeaa
open Go.RowKit
set_option linter.unusedVariables false

theorem turn_pair (op : Int) : pairOf turnPairs op = (turnOf op, turns op) := by
  by_cases h : op = 16 ∨ op = 80 ∨ op = 64 ∨ op = 32 ∨ op = 160 ∨ op = 48 ∨ op = 176 ∨ op = 96 ∨ op = 192 ∨ op = 112 ∨ op = 208
  · rcases h with rfl | rfl | rfl | rfl | rfl | rfl | rfl | rfl | rfl | rfl | rfl <;> decide
  · have e1 : turns op = false := by
      unfold turns
      simp only [Bool.or_eq_false_iff, beq_eq_false_iff_ne]
      omega
    have e2 : turnOf op = 0 := by
      unfold turnOf
      rw [if_neg (by omega), if_neg (by omega), if_neg (by omega), if_neg (by omega), if_neg (by omega), if_neg (by omega), if_neg (by omega), if_neg (by omega), if_neg (by omega), if_neg (by omega), if_neg (by omega)]
    rw [e1, e2]
    unfold turnPairs
    simp only [pairOf]
    rw [if_neg (by omega), if_neg (by omega), if_neg (by omega), if_neg (by omega), if_neg (by omega), if_neg (by omega), if_neg (by omega), if_neg (by omega), if_neg (by omega), if_neg (by omega), if_neg (by omega), if_neg (by omega), if_neg (by omega), if_neg (by omega)]

/-- What Settle answers. -/
theorem settle_says {f : Fc} (hf : fIn f) : (∃ g, fS f = some g ∧ ∀ w, Calls Try.prog 12 #[fV f] w (Gives (fBV g true) w)) ∨ (fS f = none ∧ ∀ w, Calls Try.prog 12 #[fV f] w (Gives (fBV fZ false) w)) := by
  have S := fun w => fp_settle f w hf
  cases h : fS f with
  | none => rw [h] at S; exact .inr ⟨rfl, S⟩
  | some g => rw [h] at S; exact .inl ⟨g, rfl, S⟩

theorem fp_narrowed (op : Int) (a b : Fc) (ia : fIn a) (ib : fIn b) (ra : sR a.2 = true) (rb : sR b.2 = true) :
    ∃ x y, (∀ w, Calls Try.prog 68 #[.int .u8 op, fV a, fV b] w (Gives (fTV x y (fI op a b).isSome) w)) ∧ ∀ p, fI op a b = some p → p = (x, y) := by
  have I1 := Lib.hid fun w => sif_says op a.2 b.2 w ia ib
  have T : Hid (∀ w, Calls Try.prog 98 #[.int .u8 op] w (Gives (.tuple #[.int .u8 (turnOf op), .bool (turns op)]) w)) := Lib.hid fun w => by
    have h := turned_any op w
    unfold Paired at h
    rw [turn_pair] at h
    exact h
  have I2 := Lib.hid fun w => sif_says (turnOf op) b.2 a.2 w ib ia
  have M := Lib.hid fun w => meet_says a.1 b.1 w
  cases k1 : sIfok op a.2 b.2
  · -- the first one can't
    have hn : fI op a b = none := by
      unfold fI fIx
      rw [k1]
      cases fItok op a b <;> rfl
    rw [k1] at I1
    rw [hn]
    refine ⟨(a.1, sIf op a.2 b.2), b, ?_, fun p h => by cases h⟩
    intro w
    show Calls _ _ _ _ (Gives (fTV _ _ false) w)
    by_cases o : op = 16
    · subst o
      exact fp_nar_a3 a b w _ I1 _ T
    · cases t : turns op
      · rw [t] at T
        exact fp_nar_a1 op o a b w _ I1 _ T
      · rw [t] at T
        exact fp_nar_a2 op o a b w _ I1 _ T
  rw [k1] at I1
  have n1 := sIf_in (op := op) ia ra k1
  cases t : turns op
  · -- there is no other way about
    have o : ¬ op = 16 := fun h => by rw [h] at t; cases t
    rw [t] at T
    have e1 : fI op a b = (fS (a.1, sIf op a.2 b.2)).bind fun x => (fS (b.1, b.2)).map fun y => (x, y) := by
      unfold fI fIx fIy fItok fIt1 fIt2 fIrok fIr
      rw [if_neg o, if_neg o, if_neg o, t, k1]
      rfl
    rw [e1]
    rcases settle_says (f := (a.1, sIf op a.2 b.2)) n1 with ⟨x, h1, S1⟩ | ⟨h1, S1⟩
    · rcases settle_says (f := b) ib with ⟨y, h2, S2⟩ | ⟨h2, S2⟩
      · rw [h1, show fS (b.1, b.2) = some y from h2]
        refine ⟨x, y, fun w => ?_, fun p h => (Option.some.inj h).symm⟩
        exact fp_nar_d3 op o a b w _ I1 _ T _ (Lib.hid S1) _ (Lib.hid S2)
      · rw [h1, show fS (b.1, b.2) = none from h2]
        refine ⟨x, fZ, fun w => ?_, fun p h => by cases h⟩
        exact fp_nar_d2 op o a b w _ I1 _ T _ (Lib.hid S1) _ (Lib.hid S2)
    · rw [h1]
      refine ⟨fZ, b, fun w => ?_, fun p h => by cases h⟩
      exact fp_nar_d1 op o a b w _ I1 _ T _ (Lib.hid S1)
  rw [t] at T
  cases k2 : sIfok (turnOf op) b.2 a.2
  · have hn : fI op a b = none := by
      unfold fI fIy fIrok
      rw [t, if_pos rfl, k2]
      cases fItok op a b
      · rfl
      · show ((fIx op a b).bind fun x => (none : Option Fc).map fun y => (x, y)) = none
        cases fIx op a b <;> rfl
    rw [k2] at I2
    rw [hn]
    refine ⟨(a.1, sIf op a.2 b.2), (b.1, sIf (turnOf op) b.2 a.2), fun w => ?_, fun p h => by cases h⟩
    show Calls _ _ _ _ (Gives (fTV _ _ false) w)
    by_cases o : op = 16
    · subst o
      exact fp_nar_c1 a b w _ I1 _ T _ I2
    · exact fp_nar_b1 op o a b w _ I1 _ T _ I2
  rw [k2] at I2
  have n2 := sIf_in (op := turnOf op) ib rb k2
  by_cases o : op = 16
  · -- they must be the same
    cases k3 : tMok a.1 b.1
    · have hn : fI op a b = none := by
        unfold fI fItok
        rw [if_pos o, k3]
        rfl
      rw [k3] at M
      rw [hn]
      refine ⟨(tM a.1 b.1, sIf op a.2 b.2), (tM a.1 b.1, sIf (turnOf op) b.2 a.2), fun w => ?_, fun p h => by cases h⟩
      show Calls _ _ _ _ (Gives (fTV _ _ false) w)
      subst o
      exact fp_nar_f0 a b w _ I1 _ T _ I2 _ M
    · rw [k3] at M
      have e1 : fI op a b = (fS (tM a.1 b.1, sIf op a.2 b.2)).bind fun x => (fS (tM a.1 b.1, sIf (turnOf op) b.2 a.2)).map fun y => (x, y) := by
        unfold fI fIx fIy fItok fIt1 fIt2 fIrok fIr
        rw [if_pos o, if_pos o, if_pos o, t, k1, if_pos rfl, if_pos rfl, k2, k3]
        rfl
      rw [e1]
      subst o
      rcases settle_says (f := (tM a.1 b.1, sIf 16 a.2 b.2)) n1 with ⟨x, h1, S1⟩ | ⟨h1, S1⟩
      · rcases settle_says (f := (tM a.1 b.1, sIf (turnOf 16) b.2 a.2)) n2 with ⟨y, h2, S2⟩ | ⟨h2, S2⟩
        · rw [h1, h2]
          refine ⟨x, y, fun w => ?_, fun p h => (Option.some.inj h).symm⟩
          exact fp_nar_f3 a b w _ I1 _ T _ I2 _ M _ (Lib.hid S1) _ (Lib.hid S2)
        · rw [h1, h2]
          refine ⟨x, fZ, fun w => ?_, fun p h => by cases h⟩
          exact fp_nar_f2 a b w _ I1 _ T _ I2 _ M _ (Lib.hid S1) _ (Lib.hid S2)
      · rw [h1]
        refine ⟨fZ, (tM a.1 b.1, sIf (turnOf 16) b.2 a.2), fun w => ?_, fun p h => by cases h⟩
        exact fp_nar_f1 a b w _ I1 _ T _ I2 _ M _ (Lib.hid S1)
  · have e1 : fI op a b = (fS (a.1, sIf op a.2 b.2)).bind fun x => (fS (b.1, sIf (turnOf op) b.2 a.2)).map fun y => (x, y) := by
      unfold fI fIx fIy fItok fIt1 fIt2 fIrok fIr
      rw [if_neg o, if_neg o, if_neg o, t, k1, if_pos rfl, if_pos rfl, k2]
      rfl
    rw [e1]
    rcases settle_says (f := (a.1, sIf op a.2 b.2)) n1 with ⟨x, h1, S1⟩ | ⟨h1, S1⟩
    · rcases settle_says (f := (b.1, sIf (turnOf op) b.2 a.2)) n2 with ⟨y, h2, S2⟩ | ⟨h2, S2⟩
      · rw [h1, h2]
        refine ⟨x, y, fun w => ?_, fun p h => (Option.some.inj h).symm⟩
        exact fp_nar_e3 op o a b w _ I1 _ T _ I2 _ (Lib.hid S1) _ (Lib.hid S2)
      · rw [h1, h2]
        refine ⟨x, fZ, fun w => ?_, fun p h => by cases h⟩
        exact fp_nar_e2 op o a b w _ I1 _ T _ I2 _ (Lib.hid S1) _ (Lib.hid S2)
    · rw [h1]
      refine ⟨fZ, (b.1, sIf (turnOf op) b.2 a.2), fun w => ?_, fun p h => by cases h⟩
      exact fp_nar_e1 op o a b w _ I1 _ T _ I2 _ (Lib.hid S1)

end Go.Proofs.Ytfepokiibdkoeaa


/-
  The program's fact: If.
  Conditions: the numbers fit their kinds.
-/
namespace Go.Proofs.Ytfepokiibdkoeaa
open Go.RowKit
set_option linter.unusedVariables false

set_option maxRecDepth 100000 in
set_option maxHeartbeats 4000000 in
theorem fp_if_not (op : Int) (wide : Bool) (a b : Fc) (w : World)
    (R : Hid (∀ w, Calls Try.prog 53 #[fV a, fV b] w (Gives (.bool false) w))) :
    Calls Try.prog 33 #[.int .u8 op, .bool wide, fV a, fV b] w (Gives (fTV fZ fZ false) w) := by
  have hx : Hid (FQ a b fZ fZ w ((((w.alloc (.cells #[uV a.1.1, uV a.1.2, .int .u64 a.2.1, .int .u64 a.2.2] 28)).alloc (.cells #[uV b.1.1, uV b.1.2, .int .u64 b.2.1, .int .u64 b.2.2] 28)).alloc (.cells #[.int .u64 0, .int .u64 0, .int .u64 0, .int .u64 0] 28)).alloc (.cells #[.int .u64 0, .int .u64 0, .int .u64 0, .int .u64 0] 28))) := Lib.hid (FQ.new a b fZ fZ w)
  go_enter Try.func33, Try.ntmps33
  go_wp2_with fail
  refine (R.out _).mono ?_; rintro e w1 ⟨rfl, b1⟩
  have x1 := hx.out.after b1
  clear hx b1 R 
  obtain ⟨p0, p1, p2, p3⟩ := x1.1.2.1.cells
  obtain ⟨q0, q1, q2, q3⟩ := x1.1.2.2.cells
  obtain ⟨c0, c1, c2, c3⟩ := x1.2.1.cells
  obtain ⟨d0, d1, d2, d3⟩ := x1.2.2.cells
  obtain ⟨f0, f1, f2, f3⟩ := x1.2.1.free
  obtain ⟨h0, h1, h2, h3⟩ := x1.2.2.free
  have X1 := Lib.hid x1
  clear x1
  have XE : Hid (FQ a b fZ fZ w (World.setCell (World.setCell (World.setCell (World.setCell (World.setCell (World.setCell (World.setCell (World.setCell w1 ⟨w.heap.size + 1 + 1, 0, none⟩ (.int .u64 0)) ⟨w.heap.size + 1 + 1, 1, none⟩ (.int .u64 0)) ⟨w.heap.size + 1 + 1, 2, none⟩ (.int .u64 0)) ⟨w.heap.size + 1 + 1, 3, none⟩ (.int .u64 0)) ⟨w.heap.size + 1 + 1 + 1, 0, none⟩ (.int .u64 0)) ⟨w.heap.size + 1 + 1 + 1, 1, none⟩ (.int .u64 0)) ⟨w.heap.size + 1 + 1 + 1, 2, none⟩ (.int .u64 0)) ⟨w.heap.size + 1 + 1 + 1, 3, none⟩ (.int .u64 0))) := Lib.hid ((X1.out.xs fZ).ys fZ)
  clear X1
  go_wp2_with fail
  clear p0 p1 p2 p3 q0 q1 q2 q3 c0 c1 c2 c3 d0 d1 d2 d3 f0 f1 f2 f3 h0 h1 h2 h3
  generalize (World.setCell (World.setCell (World.setCell (World.setCell (World.setCell (World.setCell (World.setCell (World.setCell w1 ⟨w.heap.size + 1 + 1, 0, none⟩ (.int .u64 0)) ⟨w.heap.size + 1 + 1, 1, none⟩ (.int .u64 0)) ⟨w.heap.size + 1 + 1, 2, none⟩ (.int .u64 0)) ⟨w.heap.size + 1 + 1, 3, none⟩ (.int .u64 0)) ⟨w.heap.size + 1 + 1 + 1, 0, none⟩ (.int .u64 0)) ⟨w.heap.size + 1 + 1 + 1, 1, none⟩ (.int .u64 0)) ⟨w.heap.size + 1 + 1 + 1, 2, none⟩ (.int .u64 0)) ⟨w.heap.size + 1 + 1 + 1, 3, none⟩ (.int .u64 0)) = uf at *
  obtain ⟨p0, p1, p2, p3⟩ := XE.out.1.2.1.cells
  obtain ⟨q0, q1, q2, q3⟩ := XE.out.1.2.2.cells
  obtain ⟨c0, c1, c2, c3⟩ := XE.out.2.1.cells
  obtain ⟨d0, d1, d2, d3⟩ := XE.out.2.2.cells
  obtain ⟨f0, f1, f2, f3⟩ := XE.out.2.1.free
  obtain ⟨h0, h1, h2, h3⟩ := XE.out.2.2.free
  exact bodyPost_ret (v := fTV fZ fZ false) (by simp [results, Try.results33, go_sem, c0, c1, c2, c3, d0, d1, d2, d3, fZ]) rfl ⟨rfl, XE.out.1.1⟩

set_option maxRecDepth 100000 in
set_option maxHeartbeats 4000000 in
theorem fp_if_is (op : Int) (wide : Bool) (a b : Fc) (w : World)
    (R : Hid (∀ w, Calls Try.prog 53 #[fV a, fV b] w (Gives (.bool true) w)))
    (K : Hid (∀ w, Calls Try.prog 66 #[fV a, fV b] w (Gives (.bool true) w)))
    (er : Int) (J : Hid (∀ w, Calls Try.prog 67 #[.int .u8 op, .bool wide, uV a.1.1, uV b.1.1] w (Gives (.tuple #[.bool true, .int .i64 er]) w))) :
    Calls Try.prog 33 #[.int .u8 op, .bool wide, fV a, fV b] w (Gives (fTV a b true) w) := by
  have hx : Hid (FQ a b fZ fZ w ((((w.alloc (.cells #[uV a.1.1, uV a.1.2, .int .u64 a.2.1, .int .u64 a.2.2] 28)).alloc (.cells #[uV b.1.1, uV b.1.2, .int .u64 b.2.1, .int .u64 b.2.2] 28)).alloc (.cells #[.int .u64 0, .int .u64 0, .int .u64 0, .int .u64 0] 28)).alloc (.cells #[.int .u64 0, .int .u64 0, .int .u64 0, .int .u64 0] 28))) := Lib.hid (FQ.new a b fZ fZ w)
  go_enter Try.func33, Try.ntmps33
  go_wp2_with fail
  refine (R.out _).mono ?_; rintro e w1 ⟨rfl, b1⟩
  have x1 := hx.out.after b1
  clear hx b1 R 
  obtain ⟨p0, p1, p2, p3⟩ := x1.1.2.1.cells
  obtain ⟨q0, q1, q2, q3⟩ := x1.1.2.2.cells
  obtain ⟨c0, c1, c2, c3⟩ := x1.2.1.cells
  obtain ⟨d0, d1, d2, d3⟩ := x1.2.2.cells
  obtain ⟨f0, f1, f2, f3⟩ := x1.2.1.free
  obtain ⟨h0, h1, h2, h3⟩ := x1.2.2.free
  have X1 := Lib.hid x1
  clear x1
  go_wp2_with fail
  refine (K.out _).mono ?_; rintro e w2 ⟨rfl, b2⟩
  have x2 := X1.out.after b2
  clear X1 b2 K p0 p1 p2 p3 q0 q1 q2 q3 c0 c1 c2 c3 d0 d1 d2 d3 f0 f1 f2 f3 h0 h1 h2 h3
  obtain ⟨p0, p1, p2, p3⟩ := x2.1.2.1.cells
  obtain ⟨q0, q1, q2, q3⟩ := x2.1.2.2.cells
  obtain ⟨c0, c1, c2, c3⟩ := x2.2.1.cells
  obtain ⟨d0, d1, d2, d3⟩ := x2.2.2.cells
  obtain ⟨f0, f1, f2, f3⟩ := x2.2.1.free
  obtain ⟨h0, h1, h2, h3⟩ := x2.2.2.free
  have X2 := Lib.hid x2
  clear x2
  go_wp2_with fail
  go_region
  have x0 := ((X2.out.xs a).ys b).after (Below.drew (Below.refl _ _))
  clear X2 p0 p1 p2 p3 q0 q1 q2 q3 c0 c1 c2 c3 d0 d1 d2 d3 f0 f1 f2 f3 h0 h1 h2 h3
  generalize World.drew _ = u1 at *
  obtain ⟨p0, p1, p2, p3⟩ := x0.1.2.1.cells
  obtain ⟨q0, q1, q2, q3⟩ := x0.1.2.2.cells
  obtain ⟨c0, c1, c2, c3⟩ := x0.2.1.cells
  obtain ⟨d0, d1, d2, d3⟩ := x0.2.2.cells
  obtain ⟨f0, f1, f2, f3⟩ := x0.2.1.free
  obtain ⟨h0, h1, h2, h3⟩ := x0.2.2.free
  have X0 := Lib.hid x0
  clear x0
  go_wp2_with fail
  refine (J.out _).mono ?_; rintro e w3 ⟨rfl, b3⟩
  have x3 := X0.out.after b3
  clear X0 b3 J p0 p1 p2 p3 q0 q1 q2 q3 c0 c1 c2 c3 d0 d1 d2 d3 f0 f1 f2 f3 h0 h1 h2 h3
  obtain ⟨p0, p1, p2, p3⟩ := x3.1.2.1.cells
  obtain ⟨q0, q1, q2, q3⟩ := x3.1.2.2.cells
  obtain ⟨c0, c1, c2, c3⟩ := x3.2.1.cells
  obtain ⟨d0, d1, d2, d3⟩ := x3.2.2.cells
  obtain ⟨f0, f1, f2, f3⟩ := x3.2.1.free
  obtain ⟨h0, h1, h2, h3⟩ := x3.2.2.free
  have X3 := Lib.hid x3
  clear x3
  have xe := X3.out
  go_wp2_with fail
  clear p0 p1 p2 p3 q0 q1 q2 q3 c0 c1 c2 c3 d0 d1 d2 d3 f0 f1 f2 f3 h0 h1 h2 h3
  generalize w3 = uf at *
  obtain ⟨p0, p1, p2, p3⟩ := xe.1.2.1.cells
  obtain ⟨q0, q1, q2, q3⟩ := xe.1.2.2.cells
  obtain ⟨c0, c1, c2, c3⟩ := xe.2.1.cells
  obtain ⟨d0, d1, d2, d3⟩ := xe.2.2.cells
  obtain ⟨f0, f1, f2, f3⟩ := xe.2.1.free
  obtain ⟨h0, h1, h2, h3⟩ := xe.2.2.free
  have XE := Lib.hid (((xe.xs a).ys b).after (Below.drew (Below.refl _ _)))
  clear xe
  go_region
  go_wp2_with fail
  exact bodyPost_ret (v := fTV a b true) (by simp [results, Try.results33, go_sem, c0, c1, c2, c3, d0, d1, d2, d3]) rfl ⟨rfl, XE.out.1.1⟩

set_option maxRecDepth 100000 in
set_option maxHeartbeats 4000000 in
theorem fp_if_isnt (op : Int) (wide : Bool) (a b : Fc) (w : World)
    (R : Hid (∀ w, Calls Try.prog 53 #[fV a, fV b] w (Gives (.bool true) w)))
    (K : Hid (∀ w, Calls Try.prog 66 #[fV a, fV b] w (Gives (.bool true) w)))
    (er : Int) (J : Hid (∀ w, Calls Try.prog 67 #[.int .u8 op, .bool wide, uV a.1.1, uV b.1.1] w (Gives (.tuple #[.bool false, .int .i64 er]) w))) :
    Calls Try.prog 33 #[.int .u8 op, .bool wide, fV a, fV b] w (Gives (fTV fZ fZ false) w) := by
  have hx : Hid (FQ a b fZ fZ w ((((w.alloc (.cells #[uV a.1.1, uV a.1.2, .int .u64 a.2.1, .int .u64 a.2.2] 28)).alloc (.cells #[uV b.1.1, uV b.1.2, .int .u64 b.2.1, .int .u64 b.2.2] 28)).alloc (.cells #[.int .u64 0, .int .u64 0, .int .u64 0, .int .u64 0] 28)).alloc (.cells #[.int .u64 0, .int .u64 0, .int .u64 0, .int .u64 0] 28))) := Lib.hid (FQ.new a b fZ fZ w)
  go_enter Try.func33, Try.ntmps33
  go_wp2_with fail
  refine (R.out _).mono ?_; rintro e w1 ⟨rfl, b1⟩
  have x1 := hx.out.after b1
  clear hx b1 R 
  obtain ⟨p0, p1, p2, p3⟩ := x1.1.2.1.cells
  obtain ⟨q0, q1, q2, q3⟩ := x1.1.2.2.cells
  obtain ⟨c0, c1, c2, c3⟩ := x1.2.1.cells
  obtain ⟨d0, d1, d2, d3⟩ := x1.2.2.cells
  obtain ⟨f0, f1, f2, f3⟩ := x1.2.1.free
  obtain ⟨h0, h1, h2, h3⟩ := x1.2.2.free
  have X1 := Lib.hid x1
  clear x1
  go_wp2_with fail
  refine (K.out _).mono ?_; rintro e w2 ⟨rfl, b2⟩
  have x2 := X1.out.after b2
  clear X1 b2 K p0 p1 p2 p3 q0 q1 q2 q3 c0 c1 c2 c3 d0 d1 d2 d3 f0 f1 f2 f3 h0 h1 h2 h3
  obtain ⟨p0, p1, p2, p3⟩ := x2.1.2.1.cells
  obtain ⟨q0, q1, q2, q3⟩ := x2.1.2.2.cells
  obtain ⟨c0, c1, c2, c3⟩ := x2.2.1.cells
  obtain ⟨d0, d1, d2, d3⟩ := x2.2.2.cells
  obtain ⟨f0, f1, f2, f3⟩ := x2.2.1.free
  obtain ⟨h0, h1, h2, h3⟩ := x2.2.2.free
  have X2 := Lib.hid x2
  clear x2
  go_wp2_with fail
  go_region
  have x0 := ((X2.out.xs a).ys b).after (Below.drew (Below.refl _ _))
  clear X2 p0 p1 p2 p3 q0 q1 q2 q3 c0 c1 c2 c3 d0 d1 d2 d3 f0 f1 f2 f3 h0 h1 h2 h3
  generalize World.drew _ = u1 at *
  obtain ⟨p0, p1, p2, p3⟩ := x0.1.2.1.cells
  obtain ⟨q0, q1, q2, q3⟩ := x0.1.2.2.cells
  obtain ⟨c0, c1, c2, c3⟩ := x0.2.1.cells
  obtain ⟨d0, d1, d2, d3⟩ := x0.2.2.cells
  obtain ⟨f0, f1, f2, f3⟩ := x0.2.1.free
  obtain ⟨h0, h1, h2, h3⟩ := x0.2.2.free
  have X0 := Lib.hid x0
  clear x0
  go_wp2_with fail
  refine (J.out _).mono ?_; rintro e w3 ⟨rfl, b3⟩
  have x3 := X0.out.after b3
  clear X0 b3 J p0 p1 p2 p3 q0 q1 q2 q3 c0 c1 c2 c3 d0 d1 d2 d3 f0 f1 f2 f3 h0 h1 h2 h3
  obtain ⟨p0, p1, p2, p3⟩ := x3.1.2.1.cells
  obtain ⟨q0, q1, q2, q3⟩ := x3.1.2.2.cells
  obtain ⟨c0, c1, c2, c3⟩ := x3.2.1.cells
  obtain ⟨d0, d1, d2, d3⟩ := x3.2.2.cells
  obtain ⟨f0, f1, f2, f3⟩ := x3.2.1.free
  obtain ⟨h0, h1, h2, h3⟩ := x3.2.2.free
  have X3 := Lib.hid x3
  clear x3
  have XE : Hid (FQ a b fZ fZ w (World.setCell (World.setCell (World.setCell (World.setCell (World.setCell (World.setCell (World.setCell (World.setCell w3 ⟨w.heap.size + 1 + 1, 0, none⟩ (.int .u64 0)) ⟨w.heap.size + 1 + 1, 1, none⟩ (.int .u64 0)) ⟨w.heap.size + 1 + 1, 2, none⟩ (.int .u64 0)) ⟨w.heap.size + 1 + 1, 3, none⟩ (.int .u64 0)) ⟨w.heap.size + 1 + 1 + 1, 0, none⟩ (.int .u64 0)) ⟨w.heap.size + 1 + 1 + 1, 1, none⟩ (.int .u64 0)) ⟨w.heap.size + 1 + 1 + 1, 2, none⟩ (.int .u64 0)) ⟨w.heap.size + 1 + 1 + 1, 3, none⟩ (.int .u64 0))) := Lib.hid ((X3.out.xs fZ).ys fZ)
  clear X3
  go_wp2_with fail
  clear p0 p1 p2 p3 q0 q1 q2 q3 c0 c1 c2 c3 d0 d1 d2 d3 f0 f1 f2 f3 h0 h1 h2 h3
  generalize (World.setCell (World.setCell (World.setCell (World.setCell (World.setCell (World.setCell (World.setCell (World.setCell w3 ⟨w.heap.size + 1 + 1, 0, none⟩ (.int .u64 0)) ⟨w.heap.size + 1 + 1, 1, none⟩ (.int .u64 0)) ⟨w.heap.size + 1 + 1, 2, none⟩ (.int .u64 0)) ⟨w.heap.size + 1 + 1, 3, none⟩ (.int .u64 0)) ⟨w.heap.size + 1 + 1 + 1, 0, none⟩ (.int .u64 0)) ⟨w.heap.size + 1 + 1 + 1, 1, none⟩ (.int .u64 0)) ⟨w.heap.size + 1 + 1 + 1, 2, none⟩ (.int .u64 0)) ⟨w.heap.size + 1 + 1 + 1, 3, none⟩ (.int .u64 0)) = uf at *
  obtain ⟨p0, p1, p2, p3⟩ := XE.out.1.2.1.cells
  obtain ⟨q0, q1, q2, q3⟩ := XE.out.1.2.2.cells
  obtain ⟨c0, c1, c2, c3⟩ := XE.out.2.1.cells
  obtain ⟨d0, d1, d2, d3⟩ := XE.out.2.2.cells
  obtain ⟨f0, f1, f2, f3⟩ := XE.out.2.1.free
  obtain ⟨h0, h1, h2, h3⟩ := XE.out.2.2.free
  exact bodyPost_ret (v := fTV fZ fZ false) (by simp [results, Try.results33, go_sem, c0, c1, c2, c3, d0, d1, d2, d3, fZ]) rfl ⟨rfl, XE.out.1.1⟩

set_option maxRecDepth 100000 in
set_option maxHeartbeats 4000000 in
theorem fp_if_long_a (op : Int) (a b : Fc) (w : World)
    (R : Hid (∀ w, Calls Try.prog 53 #[fV a, fV b] w (Gives (.bool true) w)))
    (K : Hid (∀ w, Calls Try.prog 66 #[fV a, fV b] w (Gives (.bool false) w)))
    (A : Hid (∀ w, Calls Try.prog 60 #[fV a] w (Gives (.bool false) w))) :
    Calls Try.prog 33 #[.int .u8 op, .bool false, fV a, fV b] w (Gives (fTV a b true) w) := by
  have hx : Hid (FQ a b fZ fZ w ((((w.alloc (.cells #[uV a.1.1, uV a.1.2, .int .u64 a.2.1, .int .u64 a.2.2] 28)).alloc (.cells #[uV b.1.1, uV b.1.2, .int .u64 b.2.1, .int .u64 b.2.2] 28)).alloc (.cells #[.int .u64 0, .int .u64 0, .int .u64 0, .int .u64 0] 28)).alloc (.cells #[.int .u64 0, .int .u64 0, .int .u64 0, .int .u64 0] 28))) := Lib.hid (FQ.new a b fZ fZ w)
  go_enter Try.func33, Try.ntmps33
  go_wp2_with fail
  refine (R.out _).mono ?_; rintro e w1 ⟨rfl, b1⟩
  have x1 := hx.out.after b1
  clear hx b1 R 
  obtain ⟨p0, p1, p2, p3⟩ := x1.1.2.1.cells
  obtain ⟨q0, q1, q2, q3⟩ := x1.1.2.2.cells
  obtain ⟨c0, c1, c2, c3⟩ := x1.2.1.cells
  obtain ⟨d0, d1, d2, d3⟩ := x1.2.2.cells
  obtain ⟨f0, f1, f2, f3⟩ := x1.2.1.free
  obtain ⟨h0, h1, h2, h3⟩ := x1.2.2.free
  have X1 := Lib.hid x1
  clear x1
  go_wp2_with fail
  refine (K.out _).mono ?_; rintro e w2 ⟨rfl, b2⟩
  have x2 := X1.out.after b2
  clear X1 b2 K p0 p1 p2 p3 q0 q1 q2 q3 c0 c1 c2 c3 d0 d1 d2 d3 f0 f1 f2 f3 h0 h1 h2 h3
  obtain ⟨p0, p1, p2, p3⟩ := x2.1.2.1.cells
  obtain ⟨q0, q1, q2, q3⟩ := x2.1.2.2.cells
  obtain ⟨c0, c1, c2, c3⟩ := x2.2.1.cells
  obtain ⟨d0, d1, d2, d3⟩ := x2.2.2.cells
  obtain ⟨f0, f1, f2, f3⟩ := x2.2.1.free
  obtain ⟨h0, h1, h2, h3⟩ := x2.2.2.free
  have X2 := Lib.hid x2
  clear x2
  go_wp2_with fail
  refine (A.out _).mono ?_; rintro e w3 ⟨rfl, b3⟩
  have x3 := X2.out.after b3
  clear X2 b3 A p0 p1 p2 p3 q0 q1 q2 q3 c0 c1 c2 c3 d0 d1 d2 d3 f0 f1 f2 f3 h0 h1 h2 h3
  obtain ⟨p0, p1, p2, p3⟩ := x3.1.2.1.cells
  obtain ⟨q0, q1, q2, q3⟩ := x3.1.2.2.cells
  obtain ⟨c0, c1, c2, c3⟩ := x3.2.1.cells
  obtain ⟨d0, d1, d2, d3⟩ := x3.2.2.cells
  obtain ⟨f0, f1, f2, f3⟩ := x3.2.1.free
  obtain ⟨h0, h1, h2, h3⟩ := x3.2.2.free
  have X3 := Lib.hid x3
  clear x3
  have xe := X3.out
  go_wp2_with fail
  clear p0 p1 p2 p3 q0 q1 q2 q3 c0 c1 c2 c3 d0 d1 d2 d3 f0 f1 f2 f3 h0 h1 h2 h3
  generalize w3 = uf at *
  obtain ⟨p0, p1, p2, p3⟩ := xe.1.2.1.cells
  obtain ⟨q0, q1, q2, q3⟩ := xe.1.2.2.cells
  obtain ⟨c0, c1, c2, c3⟩ := xe.2.1.cells
  obtain ⟨d0, d1, d2, d3⟩ := xe.2.2.cells
  obtain ⟨f0, f1, f2, f3⟩ := xe.2.1.free
  obtain ⟨h0, h1, h2, h3⟩ := xe.2.2.free
  have XE := Lib.hid (((xe.xs a).ys b).after (Below.drew (Below.refl _ _)))
  clear xe
  go_region
  go_wp2_with fail
  exact bodyPost_ret (v := fTV a b true) (by simp [results, Try.results33, go_sem, c0, c1, c2, c3, d0, d1, d2, d3]) rfl ⟨rfl, XE.out.1.1⟩

set_option maxRecDepth 100000 in
set_option maxHeartbeats 4000000 in
theorem fp_if_long_b (op : Int) (a b : Fc) (w : World)
    (R : Hid (∀ w, Calls Try.prog 53 #[fV a, fV b] w (Gives (.bool true) w)))
    (K : Hid (∀ w, Calls Try.prog 66 #[fV a, fV b] w (Gives (.bool false) w)))
    (A : Hid (∀ w, Calls Try.prog 60 #[fV a] w (Gives (.bool true) w)))
    (B : Hid (∀ w, Calls Try.prog 60 #[fV b] w (Gives (.bool false) w))) :
    Calls Try.prog 33 #[.int .u8 op, .bool false, fV a, fV b] w (Gives (fTV a b true) w) := by
  have hx : Hid (FQ a b fZ fZ w ((((w.alloc (.cells #[uV a.1.1, uV a.1.2, .int .u64 a.2.1, .int .u64 a.2.2] 28)).alloc (.cells #[uV b.1.1, uV b.1.2, .int .u64 b.2.1, .int .u64 b.2.2] 28)).alloc (.cells #[.int .u64 0, .int .u64 0, .int .u64 0, .int .u64 0] 28)).alloc (.cells #[.int .u64 0, .int .u64 0, .int .u64 0, .int .u64 0] 28))) := Lib.hid (FQ.new a b fZ fZ w)
  go_enter Try.func33, Try.ntmps33
  go_wp2_with fail
  refine (R.out _).mono ?_; rintro e w1 ⟨rfl, b1⟩
  have x1 := hx.out.after b1
  clear hx b1 R 
  obtain ⟨p0, p1, p2, p3⟩ := x1.1.2.1.cells
  obtain ⟨q0, q1, q2, q3⟩ := x1.1.2.2.cells
  obtain ⟨c0, c1, c2, c3⟩ := x1.2.1.cells
  obtain ⟨d0, d1, d2, d3⟩ := x1.2.2.cells
  obtain ⟨f0, f1, f2, f3⟩ := x1.2.1.free
  obtain ⟨h0, h1, h2, h3⟩ := x1.2.2.free
  have X1 := Lib.hid x1
  clear x1
  go_wp2_with fail
  refine (K.out _).mono ?_; rintro e w2 ⟨rfl, b2⟩
  have x2 := X1.out.after b2
  clear X1 b2 K p0 p1 p2 p3 q0 q1 q2 q3 c0 c1 c2 c3 d0 d1 d2 d3 f0 f1 f2 f3 h0 h1 h2 h3
  obtain ⟨p0, p1, p2, p3⟩ := x2.1.2.1.cells
  obtain ⟨q0, q1, q2, q3⟩ := x2.1.2.2.cells
  obtain ⟨c0, c1, c2, c3⟩ := x2.2.1.cells
  obtain ⟨d0, d1, d2, d3⟩ := x2.2.2.cells
  obtain ⟨f0, f1, f2, f3⟩ := x2.2.1.free
  obtain ⟨h0, h1, h2, h3⟩ := x2.2.2.free
  have X2 := Lib.hid x2
  clear x2
  go_wp2_with fail
  refine (A.out _).mono ?_; rintro e w3 ⟨rfl, b3⟩
  have x3 := X2.out.after b3
  clear X2 b3 A p0 p1 p2 p3 q0 q1 q2 q3 c0 c1 c2 c3 d0 d1 d2 d3 f0 f1 f2 f3 h0 h1 h2 h3
  obtain ⟨p0, p1, p2, p3⟩ := x3.1.2.1.cells
  obtain ⟨q0, q1, q2, q3⟩ := x3.1.2.2.cells
  obtain ⟨c0, c1, c2, c3⟩ := x3.2.1.cells
  obtain ⟨d0, d1, d2, d3⟩ := x3.2.2.cells
  obtain ⟨f0, f1, f2, f3⟩ := x3.2.1.free
  obtain ⟨h0, h1, h2, h3⟩ := x3.2.2.free
  have X3 := Lib.hid x3
  clear x3
  go_wp2_with fail
  refine (B.out _).mono ?_; rintro e w4 ⟨rfl, b4⟩
  have x4 := X3.out.after b4
  clear X3 b4 B p0 p1 p2 p3 q0 q1 q2 q3 c0 c1 c2 c3 d0 d1 d2 d3 f0 f1 f2 f3 h0 h1 h2 h3
  obtain ⟨p0, p1, p2, p3⟩ := x4.1.2.1.cells
  obtain ⟨q0, q1, q2, q3⟩ := x4.1.2.2.cells
  obtain ⟨c0, c1, c2, c3⟩ := x4.2.1.cells
  obtain ⟨d0, d1, d2, d3⟩ := x4.2.2.cells
  obtain ⟨f0, f1, f2, f3⟩ := x4.2.1.free
  obtain ⟨h0, h1, h2, h3⟩ := x4.2.2.free
  have X4 := Lib.hid x4
  clear x4
  have xe := X4.out
  go_wp2_with fail
  clear p0 p1 p2 p3 q0 q1 q2 q3 c0 c1 c2 c3 d0 d1 d2 d3 f0 f1 f2 f3 h0 h1 h2 h3
  generalize w4 = uf at *
  obtain ⟨p0, p1, p2, p3⟩ := xe.1.2.1.cells
  obtain ⟨q0, q1, q2, q3⟩ := xe.1.2.2.cells
  obtain ⟨c0, c1, c2, c3⟩ := xe.2.1.cells
  obtain ⟨d0, d1, d2, d3⟩ := xe.2.2.cells
  obtain ⟨f0, f1, f2, f3⟩ := xe.2.1.free
  obtain ⟨h0, h1, h2, h3⟩ := xe.2.2.free
  have XE := Lib.hid (((xe.xs a).ys b).after (Below.drew (Below.refl _ _)))
  clear xe
  go_region
  go_wp2_with fail
  exact bodyPost_ret (v := fTV a b true) (by simp [results, Try.results33, go_sem, c0, c1, c2, c3, d0, d1, d2, d3]) rfl ⟨rfl, XE.out.1.1⟩

set_option maxRecDepth 100000 in
set_option maxHeartbeats 4000000 in
theorem fp_if_wide (op : Int) (a b : Fc) (w : World)
    (R : Hid (∀ w, Calls Try.prog 53 #[fV a, fV b] w (Gives (.bool true) w)))
    (K : Hid (∀ w, Calls Try.prog 66 #[fV a, fV b] w (Gives (.bool false) w)))
    (x y : Fc) (M : Hid (∀ w, Calls Try.prog 68 #[.int .u8 op, fV a, fV b] w (Gives (fTV x y true) w))) :
    Calls Try.prog 33 #[.int .u8 op, .bool true, fV a, fV b] w (Gives (fTV x y true) w) := by
  have hx : Hid (FQ a b fZ fZ w ((((w.alloc (.cells #[uV a.1.1, uV a.1.2, .int .u64 a.2.1, .int .u64 a.2.2] 28)).alloc (.cells #[uV b.1.1, uV b.1.2, .int .u64 b.2.1, .int .u64 b.2.2] 28)).alloc (.cells #[.int .u64 0, .int .u64 0, .int .u64 0, .int .u64 0] 28)).alloc (.cells #[.int .u64 0, .int .u64 0, .int .u64 0, .int .u64 0] 28))) := Lib.hid (FQ.new a b fZ fZ w)
  go_enter Try.func33, Try.ntmps33
  go_wp2_with fail
  refine (R.out _).mono ?_; rintro e w1 ⟨rfl, b1⟩
  have x1 := hx.out.after b1
  clear hx b1 R 
  obtain ⟨p0, p1, p2, p3⟩ := x1.1.2.1.cells
  obtain ⟨q0, q1, q2, q3⟩ := x1.1.2.2.cells
  obtain ⟨c0, c1, c2, c3⟩ := x1.2.1.cells
  obtain ⟨d0, d1, d2, d3⟩ := x1.2.2.cells
  obtain ⟨f0, f1, f2, f3⟩ := x1.2.1.free
  obtain ⟨h0, h1, h2, h3⟩ := x1.2.2.free
  have X1 := Lib.hid x1
  clear x1
  go_wp2_with fail
  refine (K.out _).mono ?_; rintro e w2 ⟨rfl, b2⟩
  have x2 := X1.out.after b2
  clear X1 b2 K p0 p1 p2 p3 q0 q1 q2 q3 c0 c1 c2 c3 d0 d1 d2 d3 f0 f1 f2 f3 h0 h1 h2 h3
  obtain ⟨p0, p1, p2, p3⟩ := x2.1.2.1.cells
  obtain ⟨q0, q1, q2, q3⟩ := x2.1.2.2.cells
  obtain ⟨c0, c1, c2, c3⟩ := x2.2.1.cells
  obtain ⟨d0, d1, d2, d3⟩ := x2.2.2.cells
  obtain ⟨f0, f1, f2, f3⟩ := x2.2.1.free
  obtain ⟨h0, h1, h2, h3⟩ := x2.2.2.free
  have X2 := Lib.hid x2
  clear x2
  go_wp2_with fail
  refine (M.out _).mono ?_; rintro e w3 ⟨rfl, b3⟩
  have x3 := X2.out.after b3
  clear X2 b3 M p0 p1 p2 p3 q0 q1 q2 q3 c0 c1 c2 c3 d0 d1 d2 d3 f0 f1 f2 f3 h0 h1 h2 h3
  obtain ⟨p0, p1, p2, p3⟩ := x3.1.2.1.cells
  obtain ⟨q0, q1, q2, q3⟩ := x3.1.2.2.cells
  obtain ⟨c0, c1, c2, c3⟩ := x3.2.1.cells
  obtain ⟨d0, d1, d2, d3⟩ := x3.2.2.cells
  obtain ⟨f0, f1, f2, f3⟩ := x3.2.1.free
  obtain ⟨h0, h1, h2, h3⟩ := x3.2.2.free
  have X3 := Lib.hid x3
  clear x3
  have xe := ((X3.out.xs x).ys y)
  go_wp2_with fail
  clear p0 p1 p2 p3 q0 q1 q2 q3 c0 c1 c2 c3 d0 d1 d2 d3 f0 f1 f2 f3 h0 h1 h2 h3
  generalize (World.setCell (World.setCell (World.setCell (World.setCell (World.setCell (World.setCell (World.setCell (World.setCell w3 ⟨w.heap.size + 1 + 1, 0, none⟩ (uV x.1.1)) ⟨w.heap.size + 1 + 1, 1, none⟩ (uV x.1.2)) ⟨w.heap.size + 1 + 1, 2, none⟩ (.int .u64 x.2.1)) ⟨w.heap.size + 1 + 1, 3, none⟩ (.int .u64 x.2.2)) ⟨w.heap.size + 1 + 1 + 1, 0, none⟩ (uV y.1.1)) ⟨w.heap.size + 1 + 1 + 1, 1, none⟩ (uV y.1.2)) ⟨w.heap.size + 1 + 1 + 1, 2, none⟩ (.int .u64 y.2.1)) ⟨w.heap.size + 1 + 1 + 1, 3, none⟩ (.int .u64 y.2.2)) = uf at *
  obtain ⟨p0, p1, p2, p3⟩ := xe.1.2.1.cells
  obtain ⟨q0, q1, q2, q3⟩ := xe.1.2.2.cells
  obtain ⟨c0, c1, c2, c3⟩ := xe.2.1.cells
  obtain ⟨d0, d1, d2, d3⟩ := xe.2.2.cells
  obtain ⟨f0, f1, f2, f3⟩ := xe.2.1.free
  obtain ⟨h0, h1, h2, h3⟩ := xe.2.2.free
  have XE := Lib.hid (((xe.xs x).ys y).after (Below.drew (Below.refl _ _)))
  clear xe
  go_region
  go_wp2_with fail
  exact bodyPost_ret (v := fTV x y true) (by simp [results, Try.results33, go_sem, c0, c1, c2, c3, d0, d1, d2, d3]) rfl ⟨rfl, XE.out.1.1⟩

set_option maxRecDepth 100000 in
set_option maxHeartbeats 4000000 in
theorem fp_if_widenot (op : Int) (a b : Fc) (w : World)
    (R : Hid (∀ w, Calls Try.prog 53 #[fV a, fV b] w (Gives (.bool true) w)))
    (K : Hid (∀ w, Calls Try.prog 66 #[fV a, fV b] w (Gives (.bool false) w)))
    (x y : Fc) (M : Hid (∀ w, Calls Try.prog 68 #[.int .u8 op, fV a, fV b] w (Gives (fTV x y false) w))) :
    Calls Try.prog 33 #[.int .u8 op, .bool true, fV a, fV b] w (Gives (fTV fZ fZ false) w) := by
  have hx : Hid (FQ a b fZ fZ w ((((w.alloc (.cells #[uV a.1.1, uV a.1.2, .int .u64 a.2.1, .int .u64 a.2.2] 28)).alloc (.cells #[uV b.1.1, uV b.1.2, .int .u64 b.2.1, .int .u64 b.2.2] 28)).alloc (.cells #[.int .u64 0, .int .u64 0, .int .u64 0, .int .u64 0] 28)).alloc (.cells #[.int .u64 0, .int .u64 0, .int .u64 0, .int .u64 0] 28))) := Lib.hid (FQ.new a b fZ fZ w)
  go_enter Try.func33, Try.ntmps33
  go_wp2_with fail
  refine (R.out _).mono ?_; rintro e w1 ⟨rfl, b1⟩
  have x1 := hx.out.after b1
  clear hx b1 R 
  obtain ⟨p0, p1, p2, p3⟩ := x1.1.2.1.cells
  obtain ⟨q0, q1, q2, q3⟩ := x1.1.2.2.cells
  obtain ⟨c0, c1, c2, c3⟩ := x1.2.1.cells
  obtain ⟨d0, d1, d2, d3⟩ := x1.2.2.cells
  obtain ⟨f0, f1, f2, f3⟩ := x1.2.1.free
  obtain ⟨h0, h1, h2, h3⟩ := x1.2.2.free
  have X1 := Lib.hid x1
  clear x1
  go_wp2_with fail
  refine (K.out _).mono ?_; rintro e w2 ⟨rfl, b2⟩
  have x2 := X1.out.after b2
  clear X1 b2 K p0 p1 p2 p3 q0 q1 q2 q3 c0 c1 c2 c3 d0 d1 d2 d3 f0 f1 f2 f3 h0 h1 h2 h3
  obtain ⟨p0, p1, p2, p3⟩ := x2.1.2.1.cells
  obtain ⟨q0, q1, q2, q3⟩ := x2.1.2.2.cells
  obtain ⟨c0, c1, c2, c3⟩ := x2.2.1.cells
  obtain ⟨d0, d1, d2, d3⟩ := x2.2.2.cells
  obtain ⟨f0, f1, f2, f3⟩ := x2.2.1.free
  obtain ⟨h0, h1, h2, h3⟩ := x2.2.2.free
  have X2 := Lib.hid x2
  clear x2
  go_wp2_with fail
  refine (M.out _).mono ?_; rintro e w3 ⟨rfl, b3⟩
  have x3 := X2.out.after b3
  clear X2 b3 M p0 p1 p2 p3 q0 q1 q2 q3 c0 c1 c2 c3 d0 d1 d2 d3 f0 f1 f2 f3 h0 h1 h2 h3
  obtain ⟨p0, p1, p2, p3⟩ := x3.1.2.1.cells
  obtain ⟨q0, q1, q2, q3⟩ := x3.1.2.2.cells
  obtain ⟨c0, c1, c2, c3⟩ := x3.2.1.cells
  obtain ⟨d0, d1, d2, d3⟩ := x3.2.2.cells
  obtain ⟨f0, f1, f2, f3⟩ := x3.2.1.free
  obtain ⟨h0, h1, h2, h3⟩ := x3.2.2.free
  have X3 := Lib.hid x3
  clear x3
  have XE : Hid (FQ a b fZ fZ w (World.setCell (World.setCell (World.setCell (World.setCell (World.setCell (World.setCell (World.setCell (World.setCell (World.setCell (World.setCell (World.setCell (World.setCell (World.setCell (World.setCell (World.setCell (World.setCell w3 ⟨w.heap.size + 1 + 1, 0, none⟩ (uV x.1.1)) ⟨w.heap.size + 1 + 1, 1, none⟩ (uV x.1.2)) ⟨w.heap.size + 1 + 1, 2, none⟩ (.int .u64 x.2.1)) ⟨w.heap.size + 1 + 1, 3, none⟩ (.int .u64 x.2.2)) ⟨w.heap.size + 1 + 1 + 1, 0, none⟩ (uV y.1.1)) ⟨w.heap.size + 1 + 1 + 1, 1, none⟩ (uV y.1.2)) ⟨w.heap.size + 1 + 1 + 1, 2, none⟩ (.int .u64 y.2.1)) ⟨w.heap.size + 1 + 1 + 1, 3, none⟩ (.int .u64 y.2.2)) ⟨w.heap.size + 1 + 1, 0, none⟩ (.int .u64 0)) ⟨w.heap.size + 1 + 1, 1, none⟩ (.int .u64 0)) ⟨w.heap.size + 1 + 1, 2, none⟩ (.int .u64 0)) ⟨w.heap.size + 1 + 1, 3, none⟩ (.int .u64 0)) ⟨w.heap.size + 1 + 1 + 1, 0, none⟩ (.int .u64 0)) ⟨w.heap.size + 1 + 1 + 1, 1, none⟩ (.int .u64 0)) ⟨w.heap.size + 1 + 1 + 1, 2, none⟩ (.int .u64 0)) ⟨w.heap.size + 1 + 1 + 1, 3, none⟩ (.int .u64 0))) := Lib.hid ((((X3.out.xs x).ys y).xs fZ).ys fZ)
  clear X3
  go_wp2_with fail
  clear p0 p1 p2 p3 q0 q1 q2 q3 c0 c1 c2 c3 d0 d1 d2 d3 f0 f1 f2 f3 h0 h1 h2 h3
  generalize (World.setCell (World.setCell (World.setCell (World.setCell (World.setCell (World.setCell (World.setCell (World.setCell (World.setCell (World.setCell (World.setCell (World.setCell (World.setCell (World.setCell (World.setCell (World.setCell w3 ⟨w.heap.size + 1 + 1, 0, none⟩ (uV x.1.1)) ⟨w.heap.size + 1 + 1, 1, none⟩ (uV x.1.2)) ⟨w.heap.size + 1 + 1, 2, none⟩ (.int .u64 x.2.1)) ⟨w.heap.size + 1 + 1, 3, none⟩ (.int .u64 x.2.2)) ⟨w.heap.size + 1 + 1 + 1, 0, none⟩ (uV y.1.1)) ⟨w.heap.size + 1 + 1 + 1, 1, none⟩ (uV y.1.2)) ⟨w.heap.size + 1 + 1 + 1, 2, none⟩ (.int .u64 y.2.1)) ⟨w.heap.size + 1 + 1 + 1, 3, none⟩ (.int .u64 y.2.2)) ⟨w.heap.size + 1 + 1, 0, none⟩ (.int .u64 0)) ⟨w.heap.size + 1 + 1, 1, none⟩ (.int .u64 0)) ⟨w.heap.size + 1 + 1, 2, none⟩ (.int .u64 0)) ⟨w.heap.size + 1 + 1, 3, none⟩ (.int .u64 0)) ⟨w.heap.size + 1 + 1 + 1, 0, none⟩ (.int .u64 0)) ⟨w.heap.size + 1 + 1 + 1, 1, none⟩ (.int .u64 0)) ⟨w.heap.size + 1 + 1 + 1, 2, none⟩ (.int .u64 0)) ⟨w.heap.size + 1 + 1 + 1, 3, none⟩ (.int .u64 0)) = uf at *
  obtain ⟨p0, p1, p2, p3⟩ := XE.out.1.2.1.cells
  obtain ⟨q0, q1, q2, q3⟩ := XE.out.1.2.2.cells
  obtain ⟨c0, c1, c2, c3⟩ := XE.out.2.1.cells
  obtain ⟨d0, d1, d2, d3⟩ := XE.out.2.2.cells
  obtain ⟨f0, f1, f2, f3⟩ := XE.out.2.1.free
  obtain ⟨h0, h1, h2, h3⟩ := XE.out.2.2.free
  exact bodyPost_ret (v := fTV fZ fZ false) (by simp [results, Try.results33, go_sem, c0, c1, c2, c3, d0, d1, d2, d3, fZ]) rfl ⟨rfl, XE.out.1.1⟩

set_option maxRecDepth 100000 in
set_option maxHeartbeats 4000000 in
theorem fp_if_short (op : Int) (a b : Fc) (w : World)
    (R : Hid (∀ w, Calls Try.prog 53 #[fV a, fV b] w (Gives (.bool true) w)))
    (K : Hid (∀ w, Calls Try.prog 66 #[fV a, fV b] w (Gives (.bool false) w)))
    (A : Hid (∀ w, Calls Try.prog 60 #[fV a] w (Gives (.bool true) w)))
    (B : Hid (∀ w, Calls Try.prog 60 #[fV b] w (Gives (.bool true) w)))
    (x y : Fc) (M : Hid (∀ w, Calls Try.prog 68 #[.int .u8 op, fV a, fV b] w (Gives (fTV x y true) w))) :
    Calls Try.prog 33 #[.int .u8 op, .bool false, fV a, fV b] w (Gives (fTV x y true) w) := by
  have hx : Hid (FQ a b fZ fZ w ((((w.alloc (.cells #[uV a.1.1, uV a.1.2, .int .u64 a.2.1, .int .u64 a.2.2] 28)).alloc (.cells #[uV b.1.1, uV b.1.2, .int .u64 b.2.1, .int .u64 b.2.2] 28)).alloc (.cells #[.int .u64 0, .int .u64 0, .int .u64 0, .int .u64 0] 28)).alloc (.cells #[.int .u64 0, .int .u64 0, .int .u64 0, .int .u64 0] 28))) := Lib.hid (FQ.new a b fZ fZ w)
  go_enter Try.func33, Try.ntmps33
  go_wp2_with fail
  refine (R.out _).mono ?_; rintro e w1 ⟨rfl, b1⟩
  have x1 := hx.out.after b1
  clear hx b1 R 
  obtain ⟨p0, p1, p2, p3⟩ := x1.1.2.1.cells
  obtain ⟨q0, q1, q2, q3⟩ := x1.1.2.2.cells
  obtain ⟨c0, c1, c2, c3⟩ := x1.2.1.cells
  obtain ⟨d0, d1, d2, d3⟩ := x1.2.2.cells
  obtain ⟨f0, f1, f2, f3⟩ := x1.2.1.free
  obtain ⟨h0, h1, h2, h3⟩ := x1.2.2.free
  have X1 := Lib.hid x1
  clear x1
  go_wp2_with fail
  refine (K.out _).mono ?_; rintro e w2 ⟨rfl, b2⟩
  have x2 := X1.out.after b2
  clear X1 b2 K p0 p1 p2 p3 q0 q1 q2 q3 c0 c1 c2 c3 d0 d1 d2 d3 f0 f1 f2 f3 h0 h1 h2 h3
  obtain ⟨p0, p1, p2, p3⟩ := x2.1.2.1.cells
  obtain ⟨q0, q1, q2, q3⟩ := x2.1.2.2.cells
  obtain ⟨c0, c1, c2, c3⟩ := x2.2.1.cells
  obtain ⟨d0, d1, d2, d3⟩ := x2.2.2.cells
  obtain ⟨f0, f1, f2, f3⟩ := x2.2.1.free
  obtain ⟨h0, h1, h2, h3⟩ := x2.2.2.free
  have X2 := Lib.hid x2
  clear x2
  go_wp2_with fail
  refine (A.out _).mono ?_; rintro e w3 ⟨rfl, b3⟩
  have x3 := X2.out.after b3
  clear X2 b3 A p0 p1 p2 p3 q0 q1 q2 q3 c0 c1 c2 c3 d0 d1 d2 d3 f0 f1 f2 f3 h0 h1 h2 h3
  obtain ⟨p0, p1, p2, p3⟩ := x3.1.2.1.cells
  obtain ⟨q0, q1, q2, q3⟩ := x3.1.2.2.cells
  obtain ⟨c0, c1, c2, c3⟩ := x3.2.1.cells
  obtain ⟨d0, d1, d2, d3⟩ := x3.2.2.cells
  obtain ⟨f0, f1, f2, f3⟩ := x3.2.1.free
  obtain ⟨h0, h1, h2, h3⟩ := x3.2.2.free
  have X3 := Lib.hid x3
  clear x3
  go_wp2_with fail
  refine (B.out _).mono ?_; rintro e w4 ⟨rfl, b4⟩
  have x4 := X3.out.after b4
  clear X3 b4 B p0 p1 p2 p3 q0 q1 q2 q3 c0 c1 c2 c3 d0 d1 d2 d3 f0 f1 f2 f3 h0 h1 h2 h3
  obtain ⟨p0, p1, p2, p3⟩ := x4.1.2.1.cells
  obtain ⟨q0, q1, q2, q3⟩ := x4.1.2.2.cells
  obtain ⟨c0, c1, c2, c3⟩ := x4.2.1.cells
  obtain ⟨d0, d1, d2, d3⟩ := x4.2.2.cells
  obtain ⟨f0, f1, f2, f3⟩ := x4.2.1.free
  obtain ⟨h0, h1, h2, h3⟩ := x4.2.2.free
  have X4 := Lib.hid x4
  clear x4
  go_wp2_with fail
  refine (M.out _).mono ?_; rintro e w5 ⟨rfl, b5⟩
  have x5 := X4.out.after b5
  clear X4 b5 M p0 p1 p2 p3 q0 q1 q2 q3 c0 c1 c2 c3 d0 d1 d2 d3 f0 f1 f2 f3 h0 h1 h2 h3
  obtain ⟨p0, p1, p2, p3⟩ := x5.1.2.1.cells
  obtain ⟨q0, q1, q2, q3⟩ := x5.1.2.2.cells
  obtain ⟨c0, c1, c2, c3⟩ := x5.2.1.cells
  obtain ⟨d0, d1, d2, d3⟩ := x5.2.2.cells
  obtain ⟨f0, f1, f2, f3⟩ := x5.2.1.free
  obtain ⟨h0, h1, h2, h3⟩ := x5.2.2.free
  have X5 := Lib.hid x5
  clear x5
  have xe := ((X5.out.xs x).ys y)
  go_wp2_with fail
  clear p0 p1 p2 p3 q0 q1 q2 q3 c0 c1 c2 c3 d0 d1 d2 d3 f0 f1 f2 f3 h0 h1 h2 h3
  generalize (World.setCell (World.setCell (World.setCell (World.setCell (World.setCell (World.setCell (World.setCell (World.setCell w5 ⟨w.heap.size + 1 + 1, 0, none⟩ (uV x.1.1)) ⟨w.heap.size + 1 + 1, 1, none⟩ (uV x.1.2)) ⟨w.heap.size + 1 + 1, 2, none⟩ (.int .u64 x.2.1)) ⟨w.heap.size + 1 + 1, 3, none⟩ (.int .u64 x.2.2)) ⟨w.heap.size + 1 + 1 + 1, 0, none⟩ (uV y.1.1)) ⟨w.heap.size + 1 + 1 + 1, 1, none⟩ (uV y.1.2)) ⟨w.heap.size + 1 + 1 + 1, 2, none⟩ (.int .u64 y.2.1)) ⟨w.heap.size + 1 + 1 + 1, 3, none⟩ (.int .u64 y.2.2)) = uf at *
  obtain ⟨p0, p1, p2, p3⟩ := xe.1.2.1.cells
  obtain ⟨q0, q1, q2, q3⟩ := xe.1.2.2.cells
  obtain ⟨c0, c1, c2, c3⟩ := xe.2.1.cells
  obtain ⟨d0, d1, d2, d3⟩ := xe.2.2.cells
  obtain ⟨f0, f1, f2, f3⟩ := xe.2.1.free
  obtain ⟨h0, h1, h2, h3⟩ := xe.2.2.free
  have XE := Lib.hid (((xe.xs x).ys y).after (Below.drew (Below.refl _ _)))
  clear xe
  go_region
  go_wp2_with fail
  exact bodyPost_ret (v := fTV x y true) (by simp [results, Try.results33, go_sem, c0, c1, c2, c3, d0, d1, d2, d3]) rfl ⟨rfl, XE.out.1.1⟩

set_option maxRecDepth 100000 in
set_option maxHeartbeats 4000000 in
theorem fp_if_shortnot (op : Int) (a b : Fc) (w : World)
    (R : Hid (∀ w, Calls Try.prog 53 #[fV a, fV b] w (Gives (.bool true) w)))
    (K : Hid (∀ w, Calls Try.prog 66 #[fV a, fV b] w (Gives (.bool false) w)))
    (A : Hid (∀ w, Calls Try.prog 60 #[fV a] w (Gives (.bool true) w)))
    (B : Hid (∀ w, Calls Try.prog 60 #[fV b] w (Gives (.bool true) w)))
    (x y : Fc) (M : Hid (∀ w, Calls Try.prog 68 #[.int .u8 op, fV a, fV b] w (Gives (fTV x y false) w))) :
    Calls Try.prog 33 #[.int .u8 op, .bool false, fV a, fV b] w (Gives (fTV fZ fZ false) w) := by
  have hx : Hid (FQ a b fZ fZ w ((((w.alloc (.cells #[uV a.1.1, uV a.1.2, .int .u64 a.2.1, .int .u64 a.2.2] 28)).alloc (.cells #[uV b.1.1, uV b.1.2, .int .u64 b.2.1, .int .u64 b.2.2] 28)).alloc (.cells #[.int .u64 0, .int .u64 0, .int .u64 0, .int .u64 0] 28)).alloc (.cells #[.int .u64 0, .int .u64 0, .int .u64 0, .int .u64 0] 28))) := Lib.hid (FQ.new a b fZ fZ w)
  go_enter Try.func33, Try.ntmps33
  go_wp2_with fail
  refine (R.out _).mono ?_; rintro e w1 ⟨rfl, b1⟩
  have x1 := hx.out.after b1
  clear hx b1 R 
  obtain ⟨p0, p1, p2, p3⟩ := x1.1.2.1.cells
  obtain ⟨q0, q1, q2, q3⟩ := x1.1.2.2.cells
  obtain ⟨c0, c1, c2, c3⟩ := x1.2.1.cells
  obtain ⟨d0, d1, d2, d3⟩ := x1.2.2.cells
  obtain ⟨f0, f1, f2, f3⟩ := x1.2.1.free
  obtain ⟨h0, h1, h2, h3⟩ := x1.2.2.free
  have X1 := Lib.hid x1
  clear x1
  go_wp2_with fail
  refine (K.out _).mono ?_; rintro e w2 ⟨rfl, b2⟩
  have x2 := X1.out.after b2
  clear X1 b2 K p0 p1 p2 p3 q0 q1 q2 q3 c0 c1 c2 c3 d0 d1 d2 d3 f0 f1 f2 f3 h0 h1 h2 h3
  obtain ⟨p0, p1, p2, p3⟩ := x2.1.2.1.cells
  obtain ⟨q0, q1, q2, q3⟩ := x2.1.2.2.cells
  obtain ⟨c0, c1, c2, c3⟩ := x2.2.1.cells
  obtain ⟨d0, d1, d2, d3⟩ := x2.2.2.cells
  obtain ⟨f0, f1, f2, f3⟩ := x2.2.1.free
  obtain ⟨h0, h1, h2, h3⟩ := x2.2.2.free
  have X2 := Lib.hid x2
  clear x2
  go_wp2_with fail
  refine (A.out _).mono ?_; rintro e w3 ⟨rfl, b3⟩
  have x3 := X2.out.after b3
  clear X2 b3 A p0 p1 p2 p3 q0 q1 q2 q3 c0 c1 c2 c3 d0 d1 d2 d3 f0 f1 f2 f3 h0 h1 h2 h3
  obtain ⟨p0, p1, p2, p3⟩ := x3.1.2.1.cells
  obtain ⟨q0, q1, q2, q3⟩ := x3.1.2.2.cells
  obtain ⟨c0, c1, c2, c3⟩ := x3.2.1.cells
  obtain ⟨d0, d1, d2, d3⟩ := x3.2.2.cells
  obtain ⟨f0, f1, f2, f3⟩ := x3.2.1.free
  obtain ⟨h0, h1, h2, h3⟩ := x3.2.2.free
  have X3 := Lib.hid x3
  clear x3
  go_wp2_with fail
  refine (B.out _).mono ?_; rintro e w4 ⟨rfl, b4⟩
  have x4 := X3.out.after b4
  clear X3 b4 B p0 p1 p2 p3 q0 q1 q2 q3 c0 c1 c2 c3 d0 d1 d2 d3 f0 f1 f2 f3 h0 h1 h2 h3
  obtain ⟨p0, p1, p2, p3⟩ := x4.1.2.1.cells
  obtain ⟨q0, q1, q2, q3⟩ := x4.1.2.2.cells
  obtain ⟨c0, c1, c2, c3⟩ := x4.2.1.cells
  obtain ⟨d0, d1, d2, d3⟩ := x4.2.2.cells
  obtain ⟨f0, f1, f2, f3⟩ := x4.2.1.free
  obtain ⟨h0, h1, h2, h3⟩ := x4.2.2.free
  have X4 := Lib.hid x4
  clear x4
  go_wp2_with fail
  refine (M.out _).mono ?_; rintro e w5 ⟨rfl, b5⟩
  have x5 := X4.out.after b5
  clear X4 b5 M p0 p1 p2 p3 q0 q1 q2 q3 c0 c1 c2 c3 d0 d1 d2 d3 f0 f1 f2 f3 h0 h1 h2 h3
  obtain ⟨p0, p1, p2, p3⟩ := x5.1.2.1.cells
  obtain ⟨q0, q1, q2, q3⟩ := x5.1.2.2.cells
  obtain ⟨c0, c1, c2, c3⟩ := x5.2.1.cells
  obtain ⟨d0, d1, d2, d3⟩ := x5.2.2.cells
  obtain ⟨f0, f1, f2, f3⟩ := x5.2.1.free
  obtain ⟨h0, h1, h2, h3⟩ := x5.2.2.free
  have X5 := Lib.hid x5
  clear x5
  have XE : Hid (FQ a b fZ fZ w (World.setCell (World.setCell (World.setCell (World.setCell (World.setCell (World.setCell (World.setCell (World.setCell (World.setCell (World.setCell (World.setCell (World.setCell (World.setCell (World.setCell (World.setCell (World.setCell w5 ⟨w.heap.size + 1 + 1, 0, none⟩ (uV x.1.1)) ⟨w.heap.size + 1 + 1, 1, none⟩ (uV x.1.2)) ⟨w.heap.size + 1 + 1, 2, none⟩ (.int .u64 x.2.1)) ⟨w.heap.size + 1 + 1, 3, none⟩ (.int .u64 x.2.2)) ⟨w.heap.size + 1 + 1 + 1, 0, none⟩ (uV y.1.1)) ⟨w.heap.size + 1 + 1 + 1, 1, none⟩ (uV y.1.2)) ⟨w.heap.size + 1 + 1 + 1, 2, none⟩ (.int .u64 y.2.1)) ⟨w.heap.size + 1 + 1 + 1, 3, none⟩ (.int .u64 y.2.2)) ⟨w.heap.size + 1 + 1, 0, none⟩ (.int .u64 0)) ⟨w.heap.size + 1 + 1, 1, none⟩ (.int .u64 0)) ⟨w.heap.size + 1 + 1, 2, none⟩ (.int .u64 0)) ⟨w.heap.size + 1 + 1, 3, none⟩ (.int .u64 0)) ⟨w.heap.size + 1 + 1 + 1, 0, none⟩ (.int .u64 0)) ⟨w.heap.size + 1 + 1 + 1, 1, none⟩ (.int .u64 0)) ⟨w.heap.size + 1 + 1 + 1, 2, none⟩ (.int .u64 0)) ⟨w.heap.size + 1 + 1 + 1, 3, none⟩ (.int .u64 0))) := Lib.hid ((((X5.out.xs x).ys y).xs fZ).ys fZ)
  clear X5
  go_wp2_with fail
  clear p0 p1 p2 p3 q0 q1 q2 q3 c0 c1 c2 c3 d0 d1 d2 d3 f0 f1 f2 f3 h0 h1 h2 h3
  generalize (World.setCell (World.setCell (World.setCell (World.setCell (World.setCell (World.setCell (World.setCell (World.setCell (World.setCell (World.setCell (World.setCell (World.setCell (World.setCell (World.setCell (World.setCell (World.setCell w5 ⟨w.heap.size + 1 + 1, 0, none⟩ (uV x.1.1)) ⟨w.heap.size + 1 + 1, 1, none⟩ (uV x.1.2)) ⟨w.heap.size + 1 + 1, 2, none⟩ (.int .u64 x.2.1)) ⟨w.heap.size + 1 + 1, 3, none⟩ (.int .u64 x.2.2)) ⟨w.heap.size + 1 + 1 + 1, 0, none⟩ (uV y.1.1)) ⟨w.heap.size + 1 + 1 + 1, 1, none⟩ (uV y.1.2)) ⟨w.heap.size + 1 + 1 + 1, 2, none⟩ (.int .u64 y.2.1)) ⟨w.heap.size + 1 + 1 + 1, 3, none⟩ (.int .u64 y.2.2)) ⟨w.heap.size + 1 + 1, 0, none⟩ (.int .u64 0)) ⟨w.heap.size + 1 + 1, 1, none⟩ (.int .u64 0)) ⟨w.heap.size + 1 + 1, 2, none⟩ (.int .u64 0)) ⟨w.heap.size + 1 + 1, 3, none⟩ (.int .u64 0)) ⟨w.heap.size + 1 + 1 + 1, 0, none⟩ (.int .u64 0)) ⟨w.heap.size + 1 + 1 + 1, 1, none⟩ (.int .u64 0)) ⟨w.heap.size + 1 + 1 + 1, 2, none⟩ (.int .u64 0)) ⟨w.heap.size + 1 + 1 + 1, 3, none⟩ (.int .u64 0)) = uf at *
  obtain ⟨p0, p1, p2, p3⟩ := XE.out.1.2.1.cells
  obtain ⟨q0, q1, q2, q3⟩ := XE.out.1.2.2.cells
  obtain ⟨c0, c1, c2, c3⟩ := XE.out.2.1.cells
  obtain ⟨d0, d1, d2, d3⟩ := XE.out.2.2.cells
  obtain ⟨f0, f1, f2, f3⟩ := XE.out.2.1.free
  obtain ⟨h0, h1, h2, h3⟩ := XE.out.2.2.free
  exact bodyPost_ret (v := fTV fZ fZ false) (by simp [results, Try.results33, go_sem, c0, c1, c2, c3, d0, d1, d2, d3, fZ]) rfl ⟨rfl, XE.out.1.1⟩

/-- If: what is known of both, or nothing. -/
theorem fp_if (op : Int) (wide : Bool) (a b : Fc) (w : World) (ia : fIn a) (ib : fIn b) :
    Calls Try.prog 33 #[.int .u8 op, .bool wide, fV a, fV b] w (Gives (match fIf op wide a b with | some p => fTV p.1 p.2 true | none => fTV fZ fZ false) w) := by
  have R := Lib.hid fun w => fp_both a b w ia ib
  unfold fIf
  cases hr : (fR a && fR b)
  · rw [hr] at R
    exact fp_if_not op wide a b w R
  rw [hr] at R
  obtain ⟨r1, r2⟩ := Bool.and_eq_true_iff.mp hr
  have fa := fR_iff.mp r1
  have fb := fR_iff.mp r2
  have K := Lib.hid (fp_bothKnown a b)
  rw [fK_both fa fb] at K
  rw [if_pos rfl]
  cases hk : (fK a && fK b)
  · rw [hk] at K
    rw [if_neg (by decide)]
    have A := Lib.hid (fp_short a)
    have B := Lib.hid (fp_short b)
    obtain ⟨x, y, N, hN⟩ := fp_narrowed op a b ia ib (fRR_iff.mp fa.1).2 (fRR_iff.mp fb.1).2
    have M := Lib.hid N
    cases wide
    · by_cases la : 4294967296 ≤ a.2.2
      · rw [decide_eq_false (by omega)] at A
        rw [if_pos ⟨rfl, Or.inl la⟩]
        exact fp_if_long_a op a b w R K A
      rw [decide_eq_true (by omega)] at A
      by_cases lb : 4294967296 ≤ b.2.2
      · rw [decide_eq_false (by omega)] at B
        rw [if_pos ⟨rfl, Or.inr lb⟩]
        exact fp_if_long_b op a b w R K A B
      rw [decide_eq_true (by omega)] at B
      have hn : ¬ (false = false ∧ (4294967296 ≤ a.2.2 ∨ 4294967296 ≤ b.2.2)) := by
        rintro ⟨_, h | h⟩ <;> omega
      rw [if_neg hn]
      cases hf : fI op a b with
      | none =>
        rw [hf] at M
        exact fp_if_shortnot op a b w R K A B x y M
      | some p =>
        rw [hf] at M
        rw [hN p hf]
        exact fp_if_short op a b w R K A B x y M
    · rw [if_neg (fun h => by cases h.1)]
      cases hf : fI op a b with
      | none =>
        rw [hf] at M
        exact fp_if_widenot op a b w R K x y M
      | some p =>
        rw [hf] at M
        rw [hN p hf]
        exact fp_if_wide op a b w R K x y M
  · rw [hk] at K
    rw [if_pos rfl]
    obtain ⟨k1, k2⟩ := Bool.and_eq_true_iff.mp hk
    rw [fKv_of k1, fKv_of k2]
    have J : Hid (∀ w, Calls Try.prog 67 #[.int .u8 op, .bool wide, uV a.1.1, uV b.1.1] w (Gives (.tuple #[.bool (condV op wide (a.1.1.toNat : Int) (b.1.1.toNat : Int)), .int .i64 (condE op)]) w)) := Lib.hid fun w => is_any op wide (a.1.1.toNat : Int) (b.1.1.toNat : Int) w (bv_rng _) (bv_rng _)
    cases hv : condV op wide (a.1.1.toNat : Int) (b.1.1.toNat : Int)
    · rw [hv] at J
      rw [if_neg (fun h => by cases h.2)]
      exact fp_if_isnt op wide a b w R K _ J
    · rw [hv] at J
      rw [if_pos ⟨condV_fits hv, rfl⟩]
      exact fp_if_is op wide a b w R K _ J

end Go.Proofs.Ytfepokiibdkoeaa


/-
  The document's own Sign of layer 2, at 32 and 64 bits.
  Conditions: the number fits its kind.
-/
namespace Go.Proofs.Ytfepokiibdkoeaa
open Go.RowKit
set_option linter.unusedVariables false

theorem rcut_64 (n : Int) (w : World) (h : 0 ≤ n) (h' : n ≤ 18446744073709551615) :
    Calls Try.prog 73 #[.int .u64 n, .int .i64 64] w fun e w' => e = .returned (.int .u64 n) ∧ w = w' := by
  go_enter Try.func73, Try.ntmps73
  go_wp2
  go_ret
  exact ⟨rfl, rfl⟩
theorem rcut_32 (n : Int) (w : World) (h : 0 ≤ n) :
    Calls Try.prog 73 #[.int .u64 n, .int .i64 32] w fun e w' => e = .returned (.int .u64 (n % 4294967296)) ∧ w = w' := by
  go_enter Try.func73, Try.ntmps73
  go_wp2
  go_ret
  exact ⟨end_int (by omega), rfl⟩

set_option maxHeartbeats 1000000 in
theorem rsign_64 (n : Int) (w : World) (h : 0 ≤ n) (h' : n ≤ 18446744073709551615) :
    Calls Try.prog 74 #[.int .u64 n, .int .i64 64] w fun e w' => e = .returned (.int .u64 (signW n 64)) ∧ w = w' := by
  have e9 : signW n 64 = n := by rw [signW_64]; omega
  rw [e9]
  clear e9
  by_cases hz : n / 9223372036854775808 = 0
  all_goals
    have hz2 := hz
    clear hz
    go_enter Try.func74, Try.ntmps74
    go_wp2_with (go_at_call 73; refine (rcut_64 _ _ (by omega) (by omega)).mono ?_; rintro e w' ⟨rfl, rfl⟩)
    go_ret
    exact ⟨rfl, rfl⟩

set_option maxHeartbeats 1000000 in
theorem rsign_32 (n : Int) (w : World) (h : 0 ≤ n) (h' : n ≤ 18446744073709551615) :
    Calls Try.prog 74 #[.int .u64 n, .int .i64 32] w fun e w' => e = .returned (.int .u64 (signW n 32)) ∧ w = w' := by
  have hc := Lib.hid fun w => rcut_32 n w h
  have e9 : signW n 32 = wrap32 n % 18446744073709551616 := signW_32 n
  rw [e9]
  have e8 := Lib.hid (show n % 4294967296 / 2147483648 = 0 → n % 4294967296 = wrap32 n % 18446744073709551616 by unfold wrap32; omega)
  have e7 := Lib.hid (show ¬ n % 4294967296 / 2147483648 = 0 → IntKind.u64.wrap (n % 4294967296 - 4294967296) = wrap32 n % 18446744073709551616 by rw [IntKind.wrap_u64]; unfold wrap32; omega)
  have x1 : 0 ≤ n % 4294967296 := by omega
  have x2 : n % 4294967296 ≤ 4294967295 := by omega
  generalize wrap32 n % 18446744073709551616 = r at *
  generalize n % 4294967296 = x at *
  by_cases hz : x / 2147483648 = 0
  · have hz1 : (x / 2147483648 == 0) = true := beq_iff_eq.mpr hz
    have e6 := Lib.hid (e8.out hz)
    clear e9 e8 e7 hz
    go_enter Try.func74, Try.ntmps74
    go_wp2_with (go_at_call 73; refine (hc.out _).mono ?_; rintro e w' ⟨rfl, rfl⟩)
    go_ret
    exact ⟨end_int e6.out, rfl⟩
  · have hz1 : (x / 2147483648 == 0) = false := beq_eq_false_iff_ne.mpr hz
    have e6 := Lib.hid (e7.out hz)
    clear e9 e8 e7 hz
    go_enter Try.func74, Try.ntmps74
    go_wp2_with (go_at_call 73; refine (hc.out _).mono ?_; rintro e w' ⟨rfl, rfl⟩)
    go_ret
    exact ⟨end_int e6.out, rfl⟩

end Go.Proofs.Ytfepokiibdkoeaa


/-
  The document's own Is of layer 3, wide.
  Conditions: the numbers fit their kinds.
-/
namespace Go.Proofs.Ytfepokiibdkoeaa
open Go.RowKit
set_option linter.unusedVariables false

/-- A signed number, moved by half of all numbers. -/
theorem half_moved (S : Int) (h : 0 ≤ S) (h' : S ≤ 18446744073709551615) : (S + 9223372036854775808) % 18446744073709551616 = wrap64 S + 9223372036854775808 := by unfold wrap64; omega

set_option maxHeartbeats 2000000 in
theorem ref_is_64 (op a b : Int) (w : World) (ha : 0 ≤ a ∧ a ≤ 18446744073709551615) (hb : 0 ≤ b ∧ b ≤ 18446744073709551615)
    (ho : op = 0 ∨ op = 16 ∨ op = 80 ∨ op = 32 ∨ op = 48 ∨ op = 160 ∨ op = 176 ∨ op = 96 ∨ op = 112 ∨ op = 192 ∨ op = 208 ∨ op = 64) :
    Calls Try.prog 37 #[.int .u8 op, .bool true, .int .u64 a, .int .u64 b] w (Told (condXY true op a b) 0 w) := by
  obtain ⟨a1, a2⟩ := ha
  obtain ⟨b1, b2⟩ := hb
  have hs1 := Lib.hid fun w => rsign_64 a w a1 (by omega)
  have hs2 := Lib.hid fun w => rsign_64 b w b1 (by omega)
  obtain ⟨r1, r2⟩ := signW_range a 64 a1 (by omega)
  obtain ⟨r3, r4⟩ := signW_range b 64 b1 (by omega)
  have e1 := (s64_64 a a1 a2).symm
  have e2 := (s64_64 b b1 b2).symm
  have m1 := half_moved _ r1 r2
  have m2 := half_moved _ r3 r4
  rw [← e1] at m1
  rw [← e2] at m2
  have n1 : IntKind.u64.wrap (signW a 64 + 9223372036854775808) = sg true a + 9223372036854775808 := by rw [IntKind.wrap_u64]; exact m1
  have n2 : IntKind.u64.wrap (signW b 64 + 9223372036854775808) = sg true b + 9223372036854775808 := by rw [IntKind.wrap_u64]; exact m2
  clear e1 e2
  have hbits := Lib.hid (bits_none a b a1 (by omega) b1 (by omega))
  have hbeq := Lib.hid (show (a == b) = decide (a = b) from rfl)
  have hbne := Lib.hid (show (a != b) = !decide (a = b) from rfl)
  unfold condXY
  generalize sg true a = s at *
  generalize sg true b = t at *
  generalize signW a 64 = p at *
  generalize signW b 64 = q at *
  rcases ho with rfl | rfl | rfl | rfl | rfl | rfl | rfl | rfl | rfl | rfl | rfl | rfl
  · go_enter Try.func37, Try.ntmps37
    go_wp2_with fail
    refine (hs1.out _).mono ?_; rintro e w' ⟨rfl, rfl⟩
    go_wp2_with fail
    refine (hs2.out _).mono ?_; rintro e w' ⟨rfl, rfl⟩
    go_wp2_with fail
    go_ret2
    exact ⟨rfl, Below.refl _ _⟩
  · go_enter Try.func37, Try.ntmps37
    go_wp2_with fail
    refine (hs1.out _).mono ?_; rintro e w' ⟨rfl, rfl⟩
    go_wp2_with fail
    refine (hs2.out _).mono ?_; rintro e w' ⟨rfl, rfl⟩
    go_wp2_with fail
    go_ret2
    exact ⟨end_told hbeq.out, Below.refl _ _⟩
  · go_enter Try.func37, Try.ntmps37
    go_wp2_with fail
    refine (hs1.out _).mono ?_; rintro e w' ⟨rfl, rfl⟩
    go_wp2_with fail
    refine (hs2.out _).mono ?_; rintro e w' ⟨rfl, rfl⟩
    go_wp2_with fail
    go_ret2
    exact ⟨end_told hbne.out, Below.refl _ _⟩
  · go_enter Try.func37, Try.ntmps37
    go_wp2_with fail
    refine (hs1.out _).mono ?_; rintro e w' ⟨rfl, rfl⟩
    go_wp2_with fail
    refine (hs2.out _).mono ?_; rintro e w' ⟨rfl, rfl⟩
    go_wp2_with fail
    go_ret2
    exact ⟨rfl, Below.refl _ _⟩
  · go_enter Try.func37, Try.ntmps37
    go_wp2_with fail
    refine (hs1.out _).mono ?_; rintro e w' ⟨rfl, rfl⟩
    go_wp2_with fail
    refine (hs2.out _).mono ?_; rintro e w' ⟨rfl, rfl⟩
    go_wp2_with fail
    go_ret2
    exact ⟨rfl, Below.refl _ _⟩
  · go_enter Try.func37, Try.ntmps37
    go_wp2_with fail
    refine (hs1.out _).mono ?_; rintro e w' ⟨rfl, rfl⟩
    go_wp2_with fail
    refine (hs2.out _).mono ?_; rintro e w' ⟨rfl, rfl⟩
    go_wp2_with fail
    go_ret2
    exact ⟨rfl, Below.refl _ _⟩
  · go_enter Try.func37, Try.ntmps37
    go_wp2_with fail
    refine (hs1.out _).mono ?_; rintro e w' ⟨rfl, rfl⟩
    go_wp2_with fail
    refine (hs2.out _).mono ?_; rintro e w' ⟨rfl, rfl⟩
    go_wp2_with fail
    go_ret2
    exact ⟨rfl, Below.refl _ _⟩
  · go_enter Try.func37, Try.ntmps37
    go_wp2_with fail
    refine (hs1.out _).mono ?_; rintro e w' ⟨rfl, rfl⟩
    go_wp2_with fail
    refine (hs2.out _).mono ?_; rintro e w' ⟨rfl, rfl⟩
    go_wp2_with fail
    go_ret2
    exact ⟨end_told (decide_eq_decide.mpr (by omega)), Below.refl _ _⟩
  · go_enter Try.func37, Try.ntmps37
    go_wp2_with fail
    refine (hs1.out _).mono ?_; rintro e w' ⟨rfl, rfl⟩
    go_wp2_with fail
    refine (hs2.out _).mono ?_; rintro e w' ⟨rfl, rfl⟩
    go_wp2_with fail
    go_ret2
    exact ⟨end_told (decide_eq_decide.mpr (by omega)), Below.refl _ _⟩
  · go_enter Try.func37, Try.ntmps37
    go_wp2_with fail
    refine (hs1.out _).mono ?_; rintro e w' ⟨rfl, rfl⟩
    go_wp2_with fail
    refine (hs2.out _).mono ?_; rintro e w' ⟨rfl, rfl⟩
    go_wp2_with fail
    go_ret2
    exact ⟨end_told (decide_eq_decide.mpr (by omega)), Below.refl _ _⟩
  · go_enter Try.func37, Try.ntmps37
    go_wp2_with fail
    refine (hs1.out _).mono ?_; rintro e w' ⟨rfl, rfl⟩
    go_wp2_with fail
    refine (hs2.out _).mono ?_; rintro e w' ⟨rfl, rfl⟩
    go_wp2_with fail
    go_ret2
    exact ⟨end_told (decide_eq_decide.mpr (by omega)), Below.refl _ _⟩
  · go_enter Try.func37, Try.ntmps37
    go_wp2_with fail
    refine (hs1.out _).mono ?_; rintro e w' ⟨rfl, rfl⟩
    go_wp2_with fail
    refine (hs2.out _).mono ?_; rintro e w' ⟨rfl, rfl⟩
    go_wp2_with fail
    go_ret2
    exact ⟨end_told (by rw [hbits.out]; simp), Below.refl _ _⟩

set_option maxHeartbeats 1000000 in
theorem ref_is_none_64 (op a b : Int) (w : World) (ha : 0 ≤ a ∧ a ≤ 18446744073709551615) (hb : 0 ≤ b ∧ b ≤ 18446744073709551615) (ho : condFits op = false) :
    Calls Try.prog 37 #[.int .u8 op, .bool true, .int .u64 a, .int .u64 b] w (Told false 1 w) := by
  obtain ⟨h1, h2, h3, h4, h5, h6, h7, h8, h9, h10, h11, h12⟩ := fits_not ho
  have k1 : (op == 0) = false := beq_eq_false_iff_ne.mpr h1
  have k2 : (op == 16) = false := beq_eq_false_iff_ne.mpr h2
  have k3 : (op == 80) = false := beq_eq_false_iff_ne.mpr h3
  have k4 : (op == 64) = false := beq_eq_false_iff_ne.mpr h4
  have k5 : (op == 32) = false := beq_eq_false_iff_ne.mpr h5
  have k6 : (op == 48) = false := beq_eq_false_iff_ne.mpr h6
  have k7 : (op == 160) = false := beq_eq_false_iff_ne.mpr h7
  have k8 : (op == 176) = false := beq_eq_false_iff_ne.mpr h8
  have k9 : (op == 96) = false := beq_eq_false_iff_ne.mpr h9
  have k10 : (op == 112) = false := beq_eq_false_iff_ne.mpr h10
  have k11 : (op == 192) = false := beq_eq_false_iff_ne.mpr h11
  have k12 : (op == 208) = false := beq_eq_false_iff_ne.mpr h12
  clear h1 h2 h3 h4 h5 h6 h7 h8 h9 h10 h11 h12 ho
  obtain ⟨a1, a2⟩ := ha
  obtain ⟨b1, b2⟩ := hb
  have hs1 := Lib.hid fun w => rsign_64 a w a1 (by omega)
  have hs2 := Lib.hid fun w => rsign_64 b w b1 (by omega)
  obtain ⟨r1, r2⟩ := signW_range a 64 a1 (by omega)
  obtain ⟨r3, r4⟩ := signW_range b 64 b1 (by omega)
  have e1 := (s64_64 a a1 a2).symm
  have e2 := (s64_64 b b1 b2).symm
  have m1 := half_moved _ r1 r2
  have m2 := half_moved _ r3 r4
  rw [← e1] at m1
  rw [← e2] at m2
  have n1 : IntKind.u64.wrap (signW a 64 + 9223372036854775808) = sg true a + 9223372036854775808 := by rw [IntKind.wrap_u64]; exact m1
  have n2 : IntKind.u64.wrap (signW b 64 + 9223372036854775808) = sg true b + 9223372036854775808 := by rw [IntKind.wrap_u64]; exact m2
  clear e1 e2
  generalize sg true a = s at *
  generalize sg true b = t at *
  generalize signW a 64 = p at *
  generalize signW b 64 = q at *
  go_enter Try.func37, Try.ntmps37
  go_wp2_with fail
  refine (hs1.out _).mono ?_; rintro e w' ⟨rfl, rfl⟩
  go_wp2_with fail
  refine (hs2.out _).mono ?_; rintro e w' ⟨rfl, rfl⟩
  go_wp2_with fail
  go_ret2
  exact ⟨rfl, Below.refl _ _⟩

end Go.Proofs.Ytfepokiibdkoeaa


/-
  The document's own Is of layer 3, narrow.
  Conditions: the numbers fit their kinds.
-/
namespace Go.Proofs.Ytfepokiibdkoeaa
open Go.RowKit
set_option linter.unusedVariables false

set_option maxHeartbeats 2000000 in
theorem ref_is_32 (op a b : Int) (w : World) (ha : 0 ≤ a ∧ a ≤ 18446744073709551615) (hb : 0 ≤ b ∧ b ≤ 18446744073709551615)
    (ho : op = 0 ∨ op = 16 ∨ op = 80 ∨ op = 32 ∨ op = 48 ∨ op = 160 ∨ op = 176 ∨ op = 96 ∨ op = 112 ∨ op = 192 ∨ op = 208 ∨ op = 64) :
    Calls Try.prog 37 #[.int .u8 op, .bool false, .int .u64 a, .int .u64 b] w (Told (condXY false op (a % 4294967296) (b % 4294967296)) 0 w) := by
  obtain ⟨a1, a2⟩ := ha
  obtain ⟨b1, b2⟩ := hb
  have x1 : 0 ≤ a % 4294967296 := by omega
  have x2 : a % 4294967296 ≤ 4294967295 := by omega
  have y1 : 0 ≤ b % 4294967296 := by omega
  have y2 : b % 4294967296 ≤ 4294967295 := by omega
  generalize hx : a % 4294967296 = x at *
  generalize hy : b % 4294967296 = y at *
  have hs1 := Lib.hid fun w => rsign_32 x w x1 (by omega)
  have hs2 := Lib.hid fun w => rsign_32 y w y1 (by omega)
  obtain ⟨r1, r2⟩ := signW_range x 32 x1 (by omega)
  obtain ⟨r3, r4⟩ := signW_range y 32 y1 (by omega)
  have e1 := (s64_32 x x1 x2).symm
  have e2 := (s64_32 y y1 y2).symm
  have m1 := half_moved _ r1 r2
  have m2 := half_moved _ r3 r4
  rw [← e1] at m1
  rw [← e2] at m2
  have n1 : IntKind.u64.wrap (signW x 32 + 9223372036854775808) = sg false x + 9223372036854775808 := by rw [IntKind.wrap_u64]; exact m1
  have n2 : IntKind.u64.wrap (signW y 32 + 9223372036854775808) = sg false y + 9223372036854775808 := by rw [IntKind.wrap_u64]; exact m2
  clear e1 e2
  have hbits := Lib.hid (bits_none x y x1 (by omega) y1 (by omega))
  have hbeq := Lib.hid (show (x == y) = decide (x = y) from rfl)
  have hbne := Lib.hid (show (x != y) = !decide (x = y) from rfl)
  unfold condXY
  generalize sg false x = s at *
  generalize sg false y = t at *
  generalize signW x 32 = p at *
  generalize signW y 32 = q at *
  rcases ho with rfl | rfl | rfl | rfl | rfl | rfl | rfl | rfl | rfl | rfl | rfl | rfl
  · go_enter Try.func37, Try.ntmps37
    go_wp2_with fail
    refine (hs1.out _).mono ?_; rintro e w' ⟨rfl, rfl⟩
    go_wp2_with fail
    refine (hs2.out _).mono ?_; rintro e w' ⟨rfl, rfl⟩
    go_wp2_with fail
    go_ret2
    exact ⟨rfl, Below.refl _ _⟩
  · go_enter Try.func37, Try.ntmps37
    go_wp2_with fail
    refine (hs1.out _).mono ?_; rintro e w' ⟨rfl, rfl⟩
    go_wp2_with fail
    refine (hs2.out _).mono ?_; rintro e w' ⟨rfl, rfl⟩
    go_wp2_with fail
    go_ret2
    exact ⟨end_told hbeq.out, Below.refl _ _⟩
  · go_enter Try.func37, Try.ntmps37
    go_wp2_with fail
    refine (hs1.out _).mono ?_; rintro e w' ⟨rfl, rfl⟩
    go_wp2_with fail
    refine (hs2.out _).mono ?_; rintro e w' ⟨rfl, rfl⟩
    go_wp2_with fail
    go_ret2
    exact ⟨end_told hbne.out, Below.refl _ _⟩
  · go_enter Try.func37, Try.ntmps37
    go_wp2_with fail
    refine (hs1.out _).mono ?_; rintro e w' ⟨rfl, rfl⟩
    go_wp2_with fail
    refine (hs2.out _).mono ?_; rintro e w' ⟨rfl, rfl⟩
    go_wp2_with fail
    go_ret2
    exact ⟨rfl, Below.refl _ _⟩
  · go_enter Try.func37, Try.ntmps37
    go_wp2_with fail
    refine (hs1.out _).mono ?_; rintro e w' ⟨rfl, rfl⟩
    go_wp2_with fail
    refine (hs2.out _).mono ?_; rintro e w' ⟨rfl, rfl⟩
    go_wp2_with fail
    go_ret2
    exact ⟨rfl, Below.refl _ _⟩
  · go_enter Try.func37, Try.ntmps37
    go_wp2_with fail
    refine (hs1.out _).mono ?_; rintro e w' ⟨rfl, rfl⟩
    go_wp2_with fail
    refine (hs2.out _).mono ?_; rintro e w' ⟨rfl, rfl⟩
    go_wp2_with fail
    go_ret2
    exact ⟨rfl, Below.refl _ _⟩
  · go_enter Try.func37, Try.ntmps37
    go_wp2_with fail
    refine (hs1.out _).mono ?_; rintro e w' ⟨rfl, rfl⟩
    go_wp2_with fail
    refine (hs2.out _).mono ?_; rintro e w' ⟨rfl, rfl⟩
    go_wp2_with fail
    go_ret2
    exact ⟨rfl, Below.refl _ _⟩
  · go_enter Try.func37, Try.ntmps37
    go_wp2_with fail
    refine (hs1.out _).mono ?_; rintro e w' ⟨rfl, rfl⟩
    go_wp2_with fail
    refine (hs2.out _).mono ?_; rintro e w' ⟨rfl, rfl⟩
    go_wp2_with fail
    go_ret2
    exact ⟨end_told (decide_eq_decide.mpr (by omega)), Below.refl _ _⟩
  · go_enter Try.func37, Try.ntmps37
    go_wp2_with fail
    refine (hs1.out _).mono ?_; rintro e w' ⟨rfl, rfl⟩
    go_wp2_with fail
    refine (hs2.out _).mono ?_; rintro e w' ⟨rfl, rfl⟩
    go_wp2_with fail
    go_ret2
    exact ⟨end_told (decide_eq_decide.mpr (by omega)), Below.refl _ _⟩
  · go_enter Try.func37, Try.ntmps37
    go_wp2_with fail
    refine (hs1.out _).mono ?_; rintro e w' ⟨rfl, rfl⟩
    go_wp2_with fail
    refine (hs2.out _).mono ?_; rintro e w' ⟨rfl, rfl⟩
    go_wp2_with fail
    go_ret2
    exact ⟨end_told (decide_eq_decide.mpr (by omega)), Below.refl _ _⟩
  · go_enter Try.func37, Try.ntmps37
    go_wp2_with fail
    refine (hs1.out _).mono ?_; rintro e w' ⟨rfl, rfl⟩
    go_wp2_with fail
    refine (hs2.out _).mono ?_; rintro e w' ⟨rfl, rfl⟩
    go_wp2_with fail
    go_ret2
    exact ⟨end_told (decide_eq_decide.mpr (by omega)), Below.refl _ _⟩
  · go_enter Try.func37, Try.ntmps37
    go_wp2_with fail
    refine (hs1.out _).mono ?_; rintro e w' ⟨rfl, rfl⟩
    go_wp2_with fail
    refine (hs2.out _).mono ?_; rintro e w' ⟨rfl, rfl⟩
    go_wp2_with fail
    go_ret2
    exact ⟨end_told (by rw [hbits.out]; simp), Below.refl _ _⟩

set_option maxHeartbeats 1000000 in
theorem ref_is_none_32 (op a b : Int) (w : World) (ha : 0 ≤ a ∧ a ≤ 18446744073709551615) (hb : 0 ≤ b ∧ b ≤ 18446744073709551615) (ho : condFits op = false) :
    Calls Try.prog 37 #[.int .u8 op, .bool false, .int .u64 a, .int .u64 b] w (Told false 1 w) := by
  obtain ⟨h1, h2, h3, h4, h5, h6, h7, h8, h9, h10, h11, h12⟩ := fits_not ho
  have k1 : (op == 0) = false := beq_eq_false_iff_ne.mpr h1
  have k2 : (op == 16) = false := beq_eq_false_iff_ne.mpr h2
  have k3 : (op == 80) = false := beq_eq_false_iff_ne.mpr h3
  have k4 : (op == 64) = false := beq_eq_false_iff_ne.mpr h4
  have k5 : (op == 32) = false := beq_eq_false_iff_ne.mpr h5
  have k6 : (op == 48) = false := beq_eq_false_iff_ne.mpr h6
  have k7 : (op == 160) = false := beq_eq_false_iff_ne.mpr h7
  have k8 : (op == 176) = false := beq_eq_false_iff_ne.mpr h8
  have k9 : (op == 96) = false := beq_eq_false_iff_ne.mpr h9
  have k10 : (op == 112) = false := beq_eq_false_iff_ne.mpr h10
  have k11 : (op == 192) = false := beq_eq_false_iff_ne.mpr h11
  have k12 : (op == 208) = false := beq_eq_false_iff_ne.mpr h12
  clear h1 h2 h3 h4 h5 h6 h7 h8 h9 h10 h11 h12 ho
  obtain ⟨a1, a2⟩ := ha
  obtain ⟨b1, b2⟩ := hb
  have x1 : 0 ≤ a % 4294967296 := by omega
  have x2 : a % 4294967296 ≤ 4294967295 := by omega
  have y1 : 0 ≤ b % 4294967296 := by omega
  have y2 : b % 4294967296 ≤ 4294967295 := by omega
  generalize hx : a % 4294967296 = x at *
  generalize hy : b % 4294967296 = y at *
  have hs1 := Lib.hid fun w => rsign_32 x w x1 (by omega)
  have hs2 := Lib.hid fun w => rsign_32 y w y1 (by omega)
  obtain ⟨r1, r2⟩ := signW_range x 32 x1 (by omega)
  obtain ⟨r3, r4⟩ := signW_range y 32 y1 (by omega)
  have e1 := (s64_32 x x1 x2).symm
  have e2 := (s64_32 y y1 y2).symm
  have m1 := half_moved _ r1 r2
  have m2 := half_moved _ r3 r4
  rw [← e1] at m1
  rw [← e2] at m2
  have n1 : IntKind.u64.wrap (signW x 32 + 9223372036854775808) = sg false x + 9223372036854775808 := by rw [IntKind.wrap_u64]; exact m1
  have n2 : IntKind.u64.wrap (signW y 32 + 9223372036854775808) = sg false y + 9223372036854775808 := by rw [IntKind.wrap_u64]; exact m2
  clear e1 e2
  generalize sg false x = s at *
  generalize sg false y = t at *
  generalize signW x 32 = p at *
  generalize signW y 32 = q at *
  go_enter Try.func37, Try.ntmps37
  go_wp2_with fail
  refine (hs1.out _).mono ?_; rintro e w' ⟨rfl, rfl⟩
  go_wp2_with fail
  refine (hs2.out _).mono ?_; rintro e w' ⟨rfl, rfl⟩
  go_wp2_with fail
  go_ret2
  exact ⟨rfl, Below.refl _ _⟩

end Go.Proofs.Ytfepokiibdkoeaa


/-
  The document's own Is of layer 3, of whatever op and numbers.
  Conditions: the numbers fit their kinds.
-/
namespace Go.Proofs.Ytfepokiibdkoeaa
open Go.RowKit
set_option linter.unusedVariables false

/-- The document's own Is, of whatever op and numbers. -/
theorem ref_is_any (op : Int) (wide : Bool) (a b : Int) (w : World) (ha : 0 ≤ a ∧ a ≤ 18446744073709551615) (hb : 0 ≤ b ∧ b ≤ 18446744073709551615) :
    Calls Try.prog 37 #[.int .u8 op, .bool wide, .int .u64 a, .int .u64 b] w (Told (condV op wide a b) (condE op) w) := by
  cases hf : condFits op
  · have e : condE op = 1 := by unfold condE; rw [hf]; rfl
    rw [e, condV_none hf]
    cases wide
    · exact ref_is_none_32 op a b w ha hb hf
    · exact ref_is_none_64 op a b w ha hb hf
  · have e : condE op = 0 := by unfold condE; rw [hf]; rfl
    rw [e]
    unfold condV
    have ho : op = 0 ∨ op = 16 ∨ op = 80 ∨ op = 32 ∨ op = 48 ∨ op = 160 ∨ op = 176 ∨ op = 96 ∨ op = 112 ∨ op = 192 ∨ op = 208 ∨ op = 64 := by have h := fits_is hf; omega
    cases wide
    · exact ref_is_32 op a b w ha hb ho
    · have ea : a % aM true = a := Int.emod_eq_of_lt ha.1 (by show a < 18446744073709551616; omega)
      have eb : b % aM true = b := Int.emod_eq_of_lt hb.1 (by show b < 18446744073709551616; omega)
      rw [ea, eb]
      exact ref_is_64 op a b w ha hb ho

end Go.Proofs.Ytfepokiibdkoeaa

