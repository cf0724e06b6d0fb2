/-
  Texts, one behind the other: AluDo, AluSwap, Sign, CondPlain, ByteStr, Help1.
  Conditions: those that each theorem states.
-/
import Derived.Test.YtfniahmfoigceaaGreatPz4
import Derived.Below
import Derived.WalkSmall
import Derived.Test.YtfniahmfoigceaaGreatPz3
import Derived.Test.YtfniahmfoigceaaGreatPz1
import Derived.Laws.BytesArg
import Derived.Laws.BytesString
import Derived.LoopTactic

namespace Go.Proofs.YtfniahmfoigceaaGreat
open Go.RowKit
set_option linter.unusedVariables false

/-- One number, and draws. -/
def Made (v : Int) (w : World) (e : Ending) (w' : World) : Prop := e = .returned (.int .u64 v) ∧ ∃ n, w' = w.drewN n
theorem made_of {P : Program} {f : FuncId} {args : Array Value} {w : World} {v : Int} (h : Calls P f args w fun e w' => e = .returned (.int .u64 v) ∧ w = w') : Calls P f args w (Made v w) :=
  h.mono fun _ _ ⟨he, hw⟩ => ⟨he, 0, hw.symm⟩

theorem made_64 (op off x y : Int) (w : World) (hf : aluFits op true off = true) (hx : 0 ≤ x) (hx' : x ≤ 18446744073709551615) (hy : 0 ≤ y) (hy' : y ≤ 18446744073709551615) :
    Calls Tryz.prog 165 #[.int .u8 op, .int .i64 64, .int .i64 off, .int .u64 x, .int .u64 y] w (Made (aluZ true op off x y % 18446744073709551616) w) := by
  rcases fits_ops hf with ⟨rfl, rfl⟩ | ⟨rfl, rfl⟩ | ⟨rfl, rfl⟩ | ⟨rfl, rfl⟩ | ⟨rfl, rfl⟩ | ⟨rfl, rfl⟩ | ⟨rfl, rfl⟩ | ⟨rfl, rfl⟩ | ⟨rfl, rfl⟩ | ⟨rfl, rfl⟩ | ⟨rfl, _⟩ | ⟨rfl, rfl | rfl⟩ | ⟨rfl, rfl | rfl⟩
  · exact made_of (made_add_64 x y w hx hx' hy hy')
  · exact made_of (made_sub_64 x y w hx hx' hy hy')
  · exact made_of (made_mul_64 x y w hx hx' hy hy')
  · exact made_of (made_or_64 x y w hx hx' hy hy')
  · exact made_of (made_and_64 x y w hx hx' hy hy')
  · exact made_of (made_xor_64 x y w hx hx' hy hy')
  · exact made_of (made_lsh_64 x y w hx hx' hy hy')
  · exact made_of (made_rsh_64 x y w hx hx' hy hy')
  · exact made_of (made_arsh_64 x y w hx hx' hy hy')
  · exact made_of (made_neg_64 x y w hx hx' hy hy')
  · exact made_of (made_mov_64 x y off w hx hx' hy hy')
  · exact made_div0_64 x y w hx hx' hy hy'
  · exact made_div1_64 x y w hx hx' hy hy'
  · exact made_mod0_64 x y w hx hx' hy hy'
  · exact made_mod1_64 x y w hx hx' hy hy'

theorem made_32 (op off x y : Int) (w : World) (hf : aluFits op false off = true) (hx : 0 ≤ x) (hx' : x ≤ 4294967295) (hy : 0 ≤ y) (hy' : y ≤ 4294967295) :
    Calls Tryz.prog 165 #[.int .u8 op, .int .i64 32, .int .i64 off, .int .u64 x, .int .u64 y] w (Made (aluZ false op off x y % 18446744073709551616) w) := by
  rcases fits_ops hf with ⟨rfl, rfl⟩ | ⟨rfl, rfl⟩ | ⟨rfl, rfl⟩ | ⟨rfl, rfl⟩ | ⟨rfl, rfl⟩ | ⟨rfl, rfl⟩ | ⟨rfl, rfl⟩ | ⟨rfl, rfl⟩ | ⟨rfl, rfl⟩ | ⟨rfl, rfl⟩ | ⟨rfl, _⟩ | ⟨rfl, rfl | rfl⟩ | ⟨rfl, rfl | rfl⟩
  · exact made_of (made_add_32 x y w hx hx' hy hy')
  · exact made_of (made_sub_32 x y w hx hx' hy hy')
  · exact made_of (made_mul_32 x y w hx hx' hy hy')
  · exact made_of (made_or_32 x y w hx hx' hy hy')
  · exact made_of (made_and_32 x y w hx hx' hy hy')
  · exact made_of (made_xor_32 x y w hx hx' hy hy')
  · exact made_of (made_lsh_32 x y w hx hx' hy hy')
  · exact made_of (made_rsh_32 x y w hx hx' hy hy')
  · exact made_of (made_arsh_32 x y w hx hx' hy hy')
  · exact made_of (made_neg_32 x y w hx hx' hy hy')
  · exact made_of (made_mov_32 x y off w hx hx' hy hy')
  · exact made_div0_32 x y w hx hx' hy hy'
  · exact made_div1_32 x y w hx hx' hy hy'
  · exact made_mod0_32 x y w hx hx' hy hy'
  · exact made_mod1_32 x y w hx hx' hy hy'

theorem did_none (op off a b : Int) (wide : Bool) (w : World) (hf : aluFits op wide off = false) :
    Calls Tryz.prog 112 #[.int .u8 op, .bool wide, .int .i16 off, .int .u64 a, .int .u64 b] w (Did (aluV wide op off a b) (aluE wide op off) w) := by
  have hc : ∀ w, Calls Tryz.prog 164 #[.int .u8 op, .bool wide, .int .i16 off] w fun e w' => e = .returned (.bool false) ∧ w = w' := fun w => by have h := fits_any op off wide w; rw [hf] at h; exact h
  have e1 : aluV wide op off a b = 0 := by unfold aluV; rw [hf]; rfl
  have e2 : aluE wide op off = 1 := by unfold aluE; rw [hf]; rfl
  rw [e1, e2]
  have HC := Lib.hid hc
  clear hc e1 e2 hf
  go_enter Tryz.func112, Tryz.ntmps112
  go_wp2_with (go_at_call 164; refine (HC.out _).mono ?_; rintro e w' ⟨rfl, rfl⟩)
  go_ret2
  exact ⟨rfl, 0, rfl⟩

set_option maxHeartbeats 1000000 in
theorem did_64 (op off a b : Int) (w : World) (ha : 0 ≤ a) (hb : 0 ≤ b) (hf : aluFits op true off = true) :
    Calls Tryz.prog 112 #[.int .u8 op, .bool true, .int .i16 off, .int .u64 a, .int .u64 b] w (Did (aluV true op off a b) (aluE true op off) w) := by
  have hc : ∀ w, Calls Tryz.prog 164 #[.int .u8 op, .bool true, .int .i16 off] w fun e w' => e = .returned (.bool true) ∧ w = w' := fun w => by have h := fits_any op off true w; rw [hf] at h; exact h
  have hm : ∀ w, Calls Tryz.prog 165 #[.int .u8 op, .int .i64 64, .int .i64 off, .int .u64 (a % 18446744073709551616), .int .u64 (b % 18446744073709551616)] w
      (Made (aluZ true op off (a % 18446744073709551616) (b % 18446744073709551616) % 18446744073709551616) w) := fun w => made_64 _ _ _ _ w hf (by omega) (by omega) (by omega) (by omega)
  have e1 : aluV true op off a b = aluZ true op off (a % 18446744073709551616) (b % 18446744073709551616) % 18446744073709551616 := by
    unfold aluV; rw [hf, if_pos rfl]; rfl
  have e2 : aluE true op off = 0 := by unfold aluE; rw [hf]; rfl
  rw [e1, e2]
  obtain ⟨ho, ho'⟩ := fits_off hf
  clear e1 e2 hf
  generalize aluZ _ op off _ _ = z at *
  have HC := Lib.hid hc
  have HM := Lib.hid hm
  clear hc hm
  go_enter Tryz.func112, Tryz.ntmps112
  go_wp2_with (first | (go_at_call 164; refine (HC.out _).mono ?_; rintro e w' ⟨rfl, rfl⟩) | (go_at_call 166; refine (cut_64 _ _ (by omega)).mono ?_; rintro e w' ⟨rfl, rfl⟩) | (go_at_call 165; refine (HM.out _).mono ?_; rintro e w' ⟨rfl, n, rfl⟩))
  go_ret2
  exact ⟨rfl, _, rfl⟩

set_option maxHeartbeats 1000000 in
theorem did_32 (op off a b : Int) (w : World) (ha : 0 ≤ a) (hb : 0 ≤ b) (hf : aluFits op false off = true) :
    Calls Tryz.prog 112 #[.int .u8 op, .bool false, .int .i16 off, .int .u64 a, .int .u64 b] w (Did (aluV false op off a b) (aluE false op off) w) := by
  have hc : ∀ w, Calls Tryz.prog 164 #[.int .u8 op, .bool false, .int .i16 off] w fun e w' => e = .returned (.bool true) ∧ w = w' := fun w => by have h := fits_any op off false w; rw [hf] at h; exact h
  have hm : ∀ w, Calls Tryz.prog 165 #[.int .u8 op, .int .i64 32, .int .i64 off, .int .u64 (a % 4294967296), .int .u64 (b % 4294967296)] w
      (Made (aluZ false op off (a % 4294967296) (b % 4294967296) % 18446744073709551616) w) := fun w => made_32 _ _ _ _ w hf (by omega) (by omega) (by omega) (by omega)
  have e1 : aluV false op off a b = aluZ false op off (a % 4294967296) (b % 4294967296) % 4294967296 := by
    unfold aluV; rw [hf, if_pos rfl]; rfl
  have e2 : aluE false op off = 0 := by unfold aluE; rw [hf]; rfl
  rw [e1, e2]
  obtain ⟨ho, ho'⟩ := fits_off hf
  clear e1 e2 hf
  generalize aluZ _ op off _ _ = z at *
  have HC := Lib.hid hc
  have HM := Lib.hid hm
  clear hc hm
  go_enter Tryz.func112, Tryz.ntmps112
  go_wp2_with (first | (go_at_call 164; refine (HC.out _).mono ?_; rintro e w' ⟨rfl, rfl⟩) | (go_at_call 166; refine (cut_32 _ _ (by omega)).mono ?_; rintro e w' ⟨rfl, rfl⟩) | (go_at_call 165; refine (HM.out _).mono ?_; rintro e w' ⟨rfl, n, rfl⟩))
  go_ret2
  exact ⟨rfl, _, rfl⟩

/-- Do, of whatever op and numbers. -/
theorem did_any (op off a b : Int) (wide : Bool) (w : World) (ha : 0 ≤ a) (hb : 0 ≤ b) :
    Calls Tryz.prog 112 #[.int .u8 op, .bool wide, .int .i16 off, .int .u64 a, .int .u64 b] w (Did (aluV wide op off a b) (aluE wide op off) w) := by
  cases hf : aluFits op wide off
  · exact did_none op off a b wide w hf
  · cases wide
    · exact did_32 op off a b w ha hb hf
    · exact did_64 op off a b w ha hb hf

end Go.Proofs.YtfniahmfoigceaaGreat

namespace Go.Proofs.YtfniahmfoigceaaGreat
open Go.RowKit
set_option linter.unusedVariables false

set_option maxHeartbeats 1000000 in
theorem reverse_any (n : Int) (w : World) (h : 0 ≤ n) (h' : n ≤ 18446744073709551615) :
    Calls Tryz.prog 169 #[.int .u64 n] w fun e w' => e = .returned (.int .u64 (swap64 n)) ∧ w = w' := by
  obtain ⟨a, b, c, d, rfl, ha, hb, hc, hd⟩ := nest_of n h h'
  have e1 := step8 ha hb hc hd
  have e2 := step16 (turn2_lt a ha) (turn2_lt b hb) (turn2_lt c hc) (turn2_lt d hd)
  have e3 := step32 (turn2_lt b hb) (turn2_lt a ha) (turn2_lt d hd) (turn2_lt c hc)
  have e4 := turned a b c d ha hb hc hd
  rw [← e4]
  have E1 := Lib.hid e1
  have E2 := Lib.hid e2
  have E3 := Lib.hid e3
  have r1 : 0 ≤ ((nest (turn2 a) (turn2 b) (turn2 c) (turn2 d) : Nat) : Int) := by omega
  have r2 : 0 ≤ ((nest (turn2 b) (turn2 a) (turn2 d) (turn2 c) : Nat) : Int) := by omega
  clear e1 e2 e3 e4
  go_enter Tryz.func169, Tryz.ntmps169
  go_wp2
  go_ret
  exact ⟨ret_int (by rw [E1.out, E2.out, E3.out]), rfl⟩

/-- What Swap makes, and its error. -/
def swapV (turn : Bool) (w a : Int) : Int := if w = 16 ∨ w = 32 ∨ w = 64 then (if turn then swapW w a else a % 2 ^ w.toNat) else 0
def swapE (w : Int) : Int := if w = 16 ∨ w = 32 ∨ w = 64 then 0 else 1
def Swapped (v k : Int) (w : World) (e : Ending) (w' : World) : Prop := e = .returned (.tuple #[.int .u64 v, .int .i64 k]) ∧ w = w'

set_option maxHeartbeats 1000000 in
theorem swap_none (turn : Bool) (k a : Int) (w : World) (h : ¬ (k = 16 ∨ k = 32 ∨ k = 64)) : Calls Tryz.prog 115 #[.bool turn, .int .i64 k, .int .u64 a] w (Swapped (swapV turn k a) (swapE k) w) := by
  have e1 : swapV turn k a = 0 := by unfold swapV; rw [if_neg h]
  have e2 : swapE k = 1 := by unfold swapE; rw [if_neg h]
  rw [e1, e2]
  clear e1 e2
  simp only [not_or] at h
  obtain ⟨h1, h2, h3⟩ := h
  have k1 : (k != 16) = true := bne_iff_ne.mpr h1
  have k2 : (k != 32) = true := bne_iff_ne.mpr h2
  have k3 : (k != 64) = true := bne_iff_ne.mpr h3
  go_enter Tryz.func115, Tryz.ntmps115
  go_wp2
  go_ret2
  exact ⟨rfl, rfl⟩

set_option maxHeartbeats 1000000 in
theorem swap_yes (k a : Int) (w : World) (ha : 0 ≤ a) (ha' : a ≤ 18446744073709551615) (h : k = 16 ∨ k = 32 ∨ k = 64) :
    Calls Tryz.prog 115 #[.bool true, .int .i64 k, .int .u64 a] w (Swapped (swapW k a) 0 w) := by
  have hd := Lib.hid (swap_down a)
  have hr := swap64_range a
  obtain ⟨r0, r1⟩ := hr
  rcases h with rfl | rfl | rfl
  all_goals
    go_enter Tryz.func115, Tryz.ntmps115
    go_wp2_with (go_at_call 169; refine (reverse_any _ _ (by omega) (by omega)).mono ?_; rintro e w' ⟨rfl, rfl⟩)
    go_ret2
  · exact ⟨ret_two hd.out.1 rfl, rfl⟩
  · exact ⟨ret_two hd.out.2 rfl, rfl⟩
  · exact ⟨ret_two (by show _ = swap64 a; omega) rfl, rfl⟩

set_option maxHeartbeats 1000000 in
theorem swap_cut (k a : Int) (w : World) (ha : 0 ≤ a) (ha' : a ≤ 18446744073709551615) (h : k = 16 ∨ k = 32 ∨ k = 64) :
    Calls Tryz.prog 115 #[.bool false, .int .i64 k, .int .u64 a] w (Swapped (a % 2 ^ k.toNat) 0 w) := by
  have hc := Lib.hid fun w => cut_any a k w ha (by omega) (by omega)
  rcases h with rfl | rfl | rfl
  all_goals
    go_enter Tryz.func115, Tryz.ntmps115
    go_wp2_with (go_at_call 166; refine (hc.out _).mono ?_; rintro e w' ⟨rfl, rfl⟩)
    go_ret2
    exact ⟨rfl, rfl⟩

/-- Swap, of whatever width and number. -/
theorem swap_any (turn : Bool) (k a : Int) (w : World) (ha : 0 ≤ a) (ha' : a ≤ 18446744073709551615) :
    Calls Tryz.prog 115 #[.bool turn, .int .i64 k, .int .u64 a] w (Swapped (swapV turn k a) (swapE k) w) := by
  by_cases h : k = 16 ∨ k = 32 ∨ k = 64
  · have e2 : swapE k = 0 := by unfold swapE; rw [if_pos h]
    cases turn
    · have e1 : swapV false k a = a % 2 ^ k.toNat := by unfold swapV; rw [if_pos h]; rfl
      rw [e1, e2]; exact swap_cut k a w ha ha' h
    · have e1 : swapV true k a = swapW k a := by unfold swapV; rw [if_pos h]; rfl
      rw [e1, e2]; exact swap_yes k a w ha ha' h
  · exact swap_none turn k a w h

end Go.Proofs.YtfniahmfoigceaaGreat

namespace Go.Proofs.YtfniahmfoigceaaGreat
open Go.RowKit
set_option linter.unusedVariables false

theorem sign_says (n k : Int) (w : World) (h : 0 ≤ n) (h' : n ≤ 18446744073709551615) :
    Calls Tryz.prog 155 #[.int .u64 n, .int .i64 k] w fun e w' => e = .returned (.int .u64 (signW n k)) ∧ w = w' := by
  by_cases h1 : 1 ≤ k
  · by_cases h2 : k ≤ 64
    · go_enter Tryz.func155, Tryz.ntmps155
      go_wp2
      go_ret
      exact ⟨end_int (by unfold signW; rw [if_pos ⟨h1, h2⟩, IntKind.wrap_u64, IntKind.wrap_u64, up_down_signed n k h1 h2]), rfl⟩
    · go_enter Tryz.func155, Tryz.ntmps155
      go_wp2
      go_ret
      exact ⟨end_int (by unfold signW; rw [if_neg (by omega)]), rfl⟩
  · go_enter Tryz.func155, Tryz.ntmps155
    go_wp2
    go_ret
    exact ⟨end_int (by unfold signW; rw [if_neg (by omega)]), rfl⟩

end Go.Proofs.YtfniahmfoigceaaGreat

namespace Go.Proofs.YtfniahmfoigceaaGreat
open Go Go.RowKit
set_option linter.unusedVariables false

/-- Which conditions there are. -/
def condFits (op : Int) : Bool := op == 0 || op == 16 || op == 80 || op == 64 || op == 32 || op == 48 || op == 160 || op == 176 || op == 96 || op == 112 || op == 192 || op == 208
/-- What a condition asks of two numbers that are cut already. -/
def condXY (wide : Bool) (op x y : Int) : Bool :=
  if op = 0 then true
  else if op = 16 then decide (x = y)
  else if op = 80 then !decide (x = y)
  else if op = 64 then !decide (((x.toNat &&& y.toNat : Nat) : Int) = 0)
  else if op = 32 then decide (y < x)
  else if op = 48 then decide (y ≤ x)
  else if op = 160 then decide (x < y)
  else if op = 176 then decide (x ≤ y)
  else if op = 96 then decide (sg wide y < sg wide x)
  else if op = 112 then decide (sg wide y ≤ sg wide x)
  else if op = 192 then decide (sg wide x < sg wide y)
  else if op = 208 then decide (sg wide x ≤ sg wide y)
  else false
def condV (op : Int) (wide : Bool) (a b : Int) : Bool := condXY wide op (a % aM wide) (b % aM wide)
def condE (op : Int) : Int := if condFits op then 0 else 1

/-- Two signed numbers are one just if they are one. -/
theorem sg_inj (wide : Bool) (x y : Int) (hx : 0 ≤ x ∧ x < aM wide) (hy : 0 ≤ y ∧ y < aM wide) : sg wide x = sg wide y ↔ x = y := by
  constructor
  · intro h
    have h1 := sg_mod wide x
    have h2 := sg_mod wide y
    rw [h] at h1
    rw [h1] at h2
    rw [Int.emod_eq_of_lt hx.1 hx.2, Int.emod_eq_of_lt hy.1 hy.2] at h2
    exact h2
  · rintro rfl; rfl

theorem fits_not {op : Int} (h : condFits op = false) : ¬ op = 0 ∧ ¬ op = 16 ∧ ¬ op = 80 ∧ ¬ op = 64 ∧ ¬ op = 32 ∧ ¬ op = 48 ∧ ¬ op = 160 ∧ ¬ op = 176 ∧ ¬ op = 96 ∧ ¬ op = 112 ∧ ¬ op = 192 ∧ ¬ op = 208 := by
  simpa [condFits, and_assoc] using h
theorem fits_is {op : Int} (h : condFits op = true) : op = 0 ∨ op = 16 ∨ op = 80 ∨ op = 64 ∨ op = 32 ∨ op = 48 ∨ op = 160 ∨ op = 176 ∨ op = 96 ∨ op = 112 ∨ op = 192 ∨ op = 208 := by
  simpa [condFits, or_assoc] using h

theorem condV_none {op : Int} (h : condFits op = false) (wide : Bool) (a b : Int) : condV op wide a b = false := by
  obtain ⟨h1, h2, h3, h4, h5, h6, h7, h8, h9, h10, h11, h12⟩ := fits_not h
  unfold condV condXY
  rw [if_neg h1, if_neg h2, if_neg h3, if_neg h4, if_neg h5, if_neg h6, if_neg h7, if_neg h8, if_neg h9, if_neg h10, if_neg h11, if_neg h12]

/-! Changed about. -/
end Go.Proofs.YtfniahmfoigceaaGreat

namespace Go.Proofs.YtfniahmfoigceaaGreat
open Go Go.RowKit
set_option linter.unusedVariables false
set_option linter.unusedSimpArgs false

theorem str_zero (w : World) (A : Option Addr) (c : Nat) : (convert 23 9 (.slice A 0 c)).run Tryz.prog w = .ok (.string (strOfNums [])) w := by
  rw [run_convert_bytes_string w 23 9 5 A 0 c Tryz.underlying23 Tryz.underlying5 Tryz.underlying9]
  cases A with
  | none => rfl
  | some a => rfl
theorem str_bytS {w : World} {A : Option Addr} {b : List Int} (h : BytS w A b) (c : Nat) : (convert 23 9 (.slice A b.length c)).run Tryz.prog w = .ok (.string (strOfNums b)) w := by
  by_cases hb : 0 < b.length
  · obtain ⟨g, o, rfl, hg, hc⟩ := h hb
    exact run_convert_bytes_arg w 23 5 Tryz.underlying23 Tryz.underlying5 g o b.length c b rfl (fun i hi => hc i hi) 9 Tryz.underlying9
  · have e : b = [] := List.eq_nil_of_length_eq_zero (by omega)
    subst e
    exact str_zero w A c
end Go.Proofs.YtfniahmfoigceaaGreat

namespace Go.Proofs.YtfniahmfoigceaaGreat
open Go.RowKit
set_option maxRecDepth 100000
set_option linter.unusedVariables false
set_option linter.unusedSimpArgs false

structure Sg where
  told : List Int
  tells : Int
  draws : Bool
  most : Int
def hAll : Int := 18446744073709551615
/-- What a helper is told, and tells. -/
def hS (i : Int) : Sg :=
  if i == 1 then ⟨[1, 2], 2, false, 0⟩ else if i == 2 then ⟨[1, 2, 3, 4], 1, false, hAll⟩ else if i == 3 then ⟨[1, 2], 1, false, hAll⟩ else
  if i == 5 then ⟨[], 1, true, hAll⟩ else if i == 6 then ⟨[4, 4], 1, false, 0⟩ else if i == 7 then ⟨[], 1, true, 4294967295⟩ else if i == 8 then ⟨[], 1, true, 63⟩ else ⟨[], 0, false, 0⟩
/-- Whether there is one. -/
def hOk (i : Int) : Bool := i == 1 || (i == 2 || (i == 3 || (i == 5 || (i == 6 || (i == 7 || i == 8)))))
def sgV (s : Sg) (A : Option Addr) (c : Nat) : Value := .agg #[.slice A s.told.length c, .int .u8 s.tells, .bool s.draws, .int .u64 s.most]
/-- Told so, in a row of its own. -/
def SigW (s : Sg) (ok : Bool) (w : World) (e : Ending) (w' : World) : Prop :=
  ∃ A c, e = .returned (.tuple #[sgV s A c, .bool ok]) ∧ Below w.heap.size w w' ∧ w'.ownsRow w.heap.size 5 1 (.slice A s.told.length c) s.told.length (byC s.told)
theorem hS_ways (i : Int) : i = 1 ∨ i = 2 ∨ i = 3 ∨ i = 5 ∨ i = 6 ∨ i = 7 ∨ i = 8 ∨ ((i == 1) = false ∧ (i == 2) = false ∧ (i == 3) = false ∧ (i == 5) = false ∧ (i == 6) = false ∧ (i == 7) = false ∧ (i == 8) = false) := by
  simp only [beq_eq_false_iff_ne]
  omega
theorem hS_none {i : Int} (h : (i == 1) = false ∧ (i == 2) = false ∧ (i == 3) = false ∧ (i == 5) = false ∧ (i == 6) = false ∧ (i == 7) = false ∧ (i == 8) = false) : hS i = ⟨[], 0, false, 0⟩ ∧ hOk i = false := by
  obtain ⟨h1, h2, h3, h5, h6, h7, h8⟩ := h
  simp [hS, hOk, h1, h2, h3, h5, h6, h7, h8]
theorem own_none_ (w : World) (base : Nat) (e : TypeId) : w.ownsRow base e 1 (.slice none 0 0) 0 [] := ⟨by simp, .inl ⟨rfl, rfl⟩⟩

theorem sig_row (w : World) (C : Obj) (cs : Array Value) (n : Nat) (hn : cs.size = n) (hm : n ≤ maxLen) :
    ((w.alloc C).alloc (.cells cs 5)).ownsRow w.heap.size 5 1 (.slice (some ⟨w.heap.size + 1, 0, none⟩) n n) n cs.toList := by
  refine ⟨by simp [hn], .inr ⟨w.heap.size + 1, n, cs, rfl, by omega, ?_, Nat.le_refl _, hm, by omega, ?_⟩⟩
  · exact Blk.new (w.alloc C) cs 5 (by simp)
  · rw [List.take_of_length_le (by simp [hn])]
theorem Blk.four {g : Nat} {a b c d : Value} {t : TypeId} {w : World} (h : Blk g #[a, b, c, d] t w) :
    (w.cell? ⟨g, 0, none⟩ = some a ∧ w.cell? ⟨g, 1, none⟩ = some b ∧ w.cell? ⟨g, 2, none⟩ = some c ∧ w.cell? ⟨g, 3, none⟩ = some d) ∧
    (w.frozen? ⟨g, 0, none⟩ = false ∧ w.frozen? ⟨g, 1, none⟩ = false ∧ w.frozen? ⟨g, 2, none⟩ = false ∧ w.frozen? ⟨g, 3, none⟩ = false) :=
  ⟨⟨Blk.cell h 0, Blk.cell h 1, Blk.cell h 2, Blk.cell h 3⟩, Blk.free h 0, Blk.free h 1, Blk.free h 2, Blk.free h 3⟩
/-- Four cells, stored. -/
def four (w : World) (g : Nat) (a b c d : Value) : World := (((w.setCell ⟨g, 0, none⟩ a).setCell ⟨g, 1, none⟩ b).setCell ⟨g, 2, none⟩ c).setCell ⟨g, 3, none⟩ d
theorem four_below {w0 w : World} {B g : Nat} (h : Below B w0 w) (hg : B ≤ g) (a b c d : Value) : Below B w0 (four w g a b c d) :=
  (((h.setCell hg a).setCell hg b).setCell hg c).setCell hg d
theorem four_blk {w : World} {g : Nat} {a0 b0 c0 d0 : Value} {t : TypeId} (h : Blk g #[a0, b0, c0, d0] t w) (a b c d : Value) : Blk g #[a, b, c, d] t (four w g a b c d) :=
  (((Blk.set h 0 a).set 1 b).set 2 c).set 3 d
set_option maxHeartbeats 2000000 in
theorem h10_drawn (m : Int) (w : World) : Calls Tryz.prog 157 #[.int .u64 m] w (Gives (.agg #[.slice none 0 0, .int .u8 1, .bool true, .int .u64 m]) w) := by
  have Z0 := Lib.hid (Blk.new w #[.slice none 0 0, .int .u8 1, .bool true, .int .u64 m] 176 rfl)
  have B0 := Lib.hid (below_alloc (Below.refl w.heap.size w) (.cells #[.slice none 0 0, .int .u8 1, .bool true, .int .u64 m] 176))
  go_enter Tryz.func157, Tryz.ntmps157
  go_wp2_with fail
  obtain ⟨⟨r0, r1, r2, r3⟩, -⟩ := Blk.four Z0.out
  exact bodyPost_ret (v := .agg #[.slice none 0 0, .int .u8 1, .bool true, .int .u64 m]) (by simp [results, Tryz.results157, go_sem, r0, r1, r2, r3]) rfl ⟨rfl, B0.out⟩

-- HERE
set_option maxHeartbeats 4000000 in
theorem h10_Sig (i : Int) (w : World) : Calls Tryz.prog 108 #[.int .i64 i] w (SigW (hS i) (hOk i) w) := by
  rcases hS_ways i with rfl | rfl | rfl | rfl | rfl | rfl | rfl | h
  · show Calls _ _ _ _ (SigW ⟨[1, 2], 2, false, 0⟩ true w)
    have Z0 := Lib.hid (Blk.new w #[.slice (some ⟨w.heap.size + 1, 0, none⟩) 2 2, .int .u8 2, .bool false, .int .u64 0] 176 rfl)
    have B0 := Lib.hid (below_alloc (Below.refl w.heap.size w) (.cells #[.slice (some ⟨w.heap.size + 1, 0, none⟩) 2 2, .int .u8 2, .bool false, .int .u64 0] 176))
    go_enter Tryz.func108, Tryz.ntmps108
    go_wp2_with fail
    have Z := Z0.out.after (below_alloc (Below.refl _ _) (.cells #[.int .u8 1, .int .u8 2] 5))
    obtain ⟨⟨r0, r1, r2, r3⟩, -⟩ := Blk.four Z
    exact bodyPost_ret (v := .tuple #[sgV ⟨[1, 2], 2, false, 0⟩ (some ⟨w.heap.size + 1, 0, none⟩) 2, .bool true]) (by simp [results, Tryz.results108, go_sem, r0, r1, r2, r3]; rfl) rfl ⟨_, _, rfl, below_alloc B0.out _, sig_row w _ #[.int .u8 1, .int .u8 2] 2 rfl (by decide)⟩
  · show Calls _ _ _ _ (SigW ⟨[1, 2, 3, 4], 1, false, 18446744073709551615⟩ true w)
    have Z0 := Lib.hid (Blk.new w #[.slice (some ⟨w.heap.size + 1, 0, none⟩) 4 4, .int .u8 1, .bool false, .int .u64 18446744073709551615] 176 rfl)
    have B0 := Lib.hid (below_alloc (Below.refl w.heap.size w) (.cells #[.slice (some ⟨w.heap.size + 1, 0, none⟩) 4 4, .int .u8 1, .bool false, .int .u64 18446744073709551615] 176))
    go_enter Tryz.func108, Tryz.ntmps108
    go_wp2_with fail
    have Z := Z0.out.after (below_alloc (Below.refl _ _) (.cells #[.int .u8 1, .int .u8 2, .int .u8 3, .int .u8 4] 5))
    obtain ⟨⟨r0, r1, r2, r3⟩, -⟩ := Blk.four Z
    exact bodyPost_ret (v := .tuple #[sgV ⟨[1, 2, 3, 4], 1, false, 18446744073709551615⟩ (some ⟨w.heap.size + 1, 0, none⟩) 4, .bool true]) (by simp [results, Tryz.results108, go_sem, r0, r1, r2, r3]; rfl) rfl ⟨_, _, rfl, below_alloc B0.out _, sig_row w _ #[.int .u8 1, .int .u8 2, .int .u8 3, .int .u8 4] 4 rfl (by decide)⟩
  · show Calls _ _ _ _ (SigW ⟨[1, 2], 1, false, 18446744073709551615⟩ true w)
    have Z0 := Lib.hid (Blk.new w #[.slice (some ⟨w.heap.size + 1, 0, none⟩) 2 2, .int .u8 1, .bool false, .int .u64 18446744073709551615] 176 rfl)
    have B0 := Lib.hid (below_alloc (Below.refl w.heap.size w) (.cells #[.slice (some ⟨w.heap.size + 1, 0, none⟩) 2 2, .int .u8 1, .bool false, .int .u64 18446744073709551615] 176))
    go_enter Tryz.func108, Tryz.ntmps108
    go_wp2_with fail
    have Z := Z0.out.after (below_alloc (Below.refl _ _) (.cells #[.int .u8 1, .int .u8 2] 5))
    obtain ⟨⟨r0, r1, r2, r3⟩, -⟩ := Blk.four Z
    exact bodyPost_ret (v := .tuple #[sgV ⟨[1, 2], 1, false, 18446744073709551615⟩ (some ⟨w.heap.size + 1, 0, none⟩) 2, .bool true]) (by simp [results, Tryz.results108, go_sem, r0, r1, r2, r3]; rfl) rfl ⟨_, _, rfl, below_alloc B0.out _, sig_row w _ #[.int .u8 1, .int .u8 2] 2 rfl (by decide)⟩
  · show Calls _ _ _ _ (SigW ⟨[], 1, true, 18446744073709551615⟩ true w)
    have Z0 := Lib.hid (Blk.new w #[.slice none 0 0, .int .u8 1, .bool true, .int .u64 18446744073709551615] 176 rfl)
    have B0 := Lib.hid (below_alloc (Below.refl w.heap.size w) (.cells #[.slice none 0 0, .int .u8 1, .bool true, .int .u64 18446744073709551615] 176))
    have ZZ := Lib.hid (Blk.new w #[.slice none 0 0, .int .u8 0, .bool false, .int .u64 0] 176 rfl)
    have BB := Lib.hid (below_alloc (Below.refl w.heap.size w) (.cells #[.slice none 0 0, .int .u8 0, .bool false, .int .u64 0] 176))
    have HD := Lib.hid fun m u => h10_drawn m u
    go_enter Tryz.func108, Tryz.ntmps108
    go_wp2_with fail
    refine (HD.out _ _).mono ?_
    rintro e w1 ⟨rfl, b1⟩
    have V := Lib.hid (below_next' BB.out b1)
    have ZY := Lib.hid (ZZ.out.after b1)
    obtain ⟨⟨z0, z1, z2, z3⟩, y0, y1, y2, y3⟩ := Blk.four ZY.out
    clear b1
    generalize hgr : w.heap.size = ρ at *
    go_wp2_with fail
    have R := four_blk ZY.out (.slice none 0 0) (.int .u8 1) (.bool true) (.int .u64 18446744073709551615)
    have RB := four_below V.out (Nat.le_refl _) (.slice none 0 0) (.int .u8 1) (.bool true) (.int .u64 18446744073709551615)
    obtain ⟨⟨r0, r1, r2, r3⟩, -⟩ := Blk.four R
    unfold four at r0 r1 r2 r3 RB
    exact bodyPost_ret (v := .tuple #[sgV ⟨[], 1, true, 18446744073709551615⟩ none 0, .bool true]) (by simp [results, Tryz.results108, go_sem, r0, r1, r2, r3]; rfl) rfl ⟨none, 0, rfl, by rw [hgr]; exact RB, by rw [hgr]; exact own_none_ _ _ _⟩
  · show Calls _ _ _ _ (SigW ⟨[4, 4], 1, false, 0⟩ true w)
    have Z0 := Lib.hid (Blk.new w #[.slice (some ⟨w.heap.size + 1, 0, none⟩) 2 2, .int .u8 1, .bool false, .int .u64 0] 176 rfl)
    have B0 := Lib.hid (below_alloc (Below.refl w.heap.size w) (.cells #[.slice (some ⟨w.heap.size + 1, 0, none⟩) 2 2, .int .u8 1, .bool false, .int .u64 0] 176))
    go_enter Tryz.func108, Tryz.ntmps108
    go_wp2_with fail
    have Z := Z0.out.after (below_alloc (Below.refl _ _) (.cells #[.int .u8 4, .int .u8 4] 5))
    obtain ⟨⟨r0, r1, r2, r3⟩, -⟩ := Blk.four Z
    exact bodyPost_ret (v := .tuple #[sgV ⟨[4, 4], 1, false, 0⟩ (some ⟨w.heap.size + 1, 0, none⟩) 2, .bool true]) (by simp [results, Tryz.results108, go_sem, r0, r1, r2, r3]; rfl) rfl ⟨_, _, rfl, below_alloc B0.out _, sig_row w _ #[.int .u8 4, .int .u8 4] 2 rfl (by decide)⟩
  · show Calls _ _ _ _ (SigW ⟨[], 1, true, 4294967295⟩ true w)
    have Z0 := Lib.hid (Blk.new w #[.slice none 0 0, .int .u8 1, .bool true, .int .u64 4294967295] 176 rfl)
    have B0 := Lib.hid (below_alloc (Below.refl w.heap.size w) (.cells #[.slice none 0 0, .int .u8 1, .bool true, .int .u64 4294967295] 176))
    have ZZ := Lib.hid (Blk.new w #[.slice none 0 0, .int .u8 0, .bool false, .int .u64 0] 176 rfl)
    have BB := Lib.hid (below_alloc (Below.refl w.heap.size w) (.cells #[.slice none 0 0, .int .u8 0, .bool false, .int .u64 0] 176))
    have HD := Lib.hid fun m u => h10_drawn m u
    go_enter Tryz.func108, Tryz.ntmps108
    go_wp2_with fail
    refine (HD.out _ _).mono ?_
    rintro e w1 ⟨rfl, b1⟩
    have V := Lib.hid (below_next' BB.out b1)
    have ZY := Lib.hid (ZZ.out.after b1)
    obtain ⟨⟨z0, z1, z2, z3⟩, y0, y1, y2, y3⟩ := Blk.four ZY.out
    clear b1
    generalize hgr : w.heap.size = ρ at *
    go_wp2_with fail
    have R := four_blk ZY.out (.slice none 0 0) (.int .u8 1) (.bool true) (.int .u64 4294967295)
    have RB := four_below V.out (Nat.le_refl _) (.slice none 0 0) (.int .u8 1) (.bool true) (.int .u64 4294967295)
    obtain ⟨⟨r0, r1, r2, r3⟩, -⟩ := Blk.four R
    unfold four at r0 r1 r2 r3 RB
    exact bodyPost_ret (v := .tuple #[sgV ⟨[], 1, true, 4294967295⟩ none 0, .bool true]) (by simp [results, Tryz.results108, go_sem, r0, r1, r2, r3]; rfl) rfl ⟨none, 0, rfl, by rw [hgr]; exact RB, by rw [hgr]; exact own_none_ _ _ _⟩
  · show Calls _ _ _ _ (SigW ⟨[], 1, true, 63⟩ true w)
    have Z0 := Lib.hid (Blk.new w #[.slice none 0 0, .int .u8 1, .bool true, .int .u64 63] 176 rfl)
    have B0 := Lib.hid (below_alloc (Below.refl w.heap.size w) (.cells #[.slice none 0 0, .int .u8 1, .bool true, .int .u64 63] 176))
    have ZZ := Lib.hid (Blk.new w #[.slice none 0 0, .int .u8 0, .bool false, .int .u64 0] 176 rfl)
    have BB := Lib.hid (below_alloc (Below.refl w.heap.size w) (.cells #[.slice none 0 0, .int .u8 0, .bool false, .int .u64 0] 176))
    have HD := Lib.hid fun m u => h10_drawn m u
    go_enter Tryz.func108, Tryz.ntmps108
    go_wp2_with fail
    refine (HD.out _ _).mono ?_
    rintro e w1 ⟨rfl, b1⟩
    have V := Lib.hid (below_next' BB.out b1)
    have ZY := Lib.hid (ZZ.out.after b1)
    obtain ⟨⟨z0, z1, z2, z3⟩, y0, y1, y2, y3⟩ := Blk.four ZY.out
    clear b1
    generalize hgr : w.heap.size = ρ at *
    go_wp2_with fail
    have R := four_blk ZY.out (.slice none 0 0) (.int .u8 1) (.bool true) (.int .u64 63)
    have RB := four_below V.out (Nat.le_refl _) (.slice none 0 0) (.int .u8 1) (.bool true) (.int .u64 63)
    obtain ⟨⟨r0, r1, r2, r3⟩, -⟩ := Blk.four R
    unfold four at r0 r1 r2 r3 RB
    exact bodyPost_ret (v := .tuple #[sgV ⟨[], 1, true, 63⟩ none 0, .bool true]) (by simp [results, Tryz.results108, go_sem, r0, r1, r2, r3]; rfl) rfl ⟨none, 0, rfl, by rw [hgr]; exact RB, by rw [hgr]; exact own_none_ _ _ _⟩
  · obtain ⟨e1, e2⟩ := hS_none h
    rw [e1, e2]
    clear e1 e2
    obtain ⟨h1, h2, h3, h5, h6, h7, h8⟩ := h
    have Z0 := Lib.hid (Blk.new w #[.slice none 0 0, .int .u8 0, .bool false, .int .u64 0] 176 rfl)
    have B0 := Lib.hid (below_alloc (Below.refl w.heap.size w) (.cells #[.slice none 0 0, .int .u8 0, .bool false, .int .u64 0] 176))
    go_enter Tryz.func108, Tryz.ntmps108
    go_wp2_with fail
    have Z := Z0.out
    obtain ⟨⟨r0, r1, r2, r3⟩, -⟩ := Blk.four Z
    exact bodyPost_ret (v := .tuple #[sgV ⟨[], 0, false, 0⟩ none 0, .bool false]) (by simp [results, Tryz.results108, go_sem, r0, r1, r2, r3]; rfl) rfl ⟨none, 0, rfl, B0.out, own_none_ _ _ _⟩

end Go.Proofs.YtfniahmfoigceaaGreat
