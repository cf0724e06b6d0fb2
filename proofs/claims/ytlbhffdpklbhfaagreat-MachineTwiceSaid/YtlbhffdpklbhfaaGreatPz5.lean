/-
  Texts, one behind the other: AluSwap, Sign, CondPlain, ByteStr, Help1, Help2, StepApp, Ref09r, Ref09a, Ref09b.
  Conditions: those that each theorem states.
-/
import Derived.Below
import Derived.WalkSmall
import Derived.Test.YtlbhffdpklbhfaaGreatPz3
import Derived.Test.YtlbhffdpklbhfaaGreatPz4
import Derived.Test.YtlbhffdpklbhfaaGreatPz2
import Derived.Test.YtlbhffdpklbhfaaGreatPz1
import Derived.Laws.BytesArg
import Derived.Laws.BytesString
import Derived.LoopTactic
import Derived.Laws.AppendOwn
import Derived.Lib.AppendZeros
import Derived.WalkKit
import Derived.Deep.AppendLies
import Derived.BigRegion
namespace Go.Proofs.YtlbhffdpklbhfaaGreat
open Go.RowKit
set_option linter.unusedVariables false
set_option maxHeartbeats 1000000 in
theorem reverse_any (n : Int) (w : World) (h : 0 ≤ n) (h' : n ≤ 18446744073709551615) :
    Calls Tryz.prog 168 #[.int .u64 n] w fun e w' => e = .returned (.int .u64 (swap64 n)) ∧ w = w' := by
  obtain ⟨a, b, c, d, rfl, ha, hb, hc, hd⟩ := nest_of n h h'
  have e1 := step8 ha hb hc hd
  have e2 := step16 (turn2_lt a ha) (turn2_lt b hb) (turn2_lt c hc) (turn2_lt d hd)
  have e3 := step32 (turn2_lt b hb) (turn2_lt a ha) (turn2_lt d hd) (turn2_lt c hc)
  have e4 := turned a b c d ha hb hc hd
  rw [← e4]
  have E1 := Lib.hid e1
  have E2 := Lib.hid e2
  have E3 := Lib.hid e3
  have r1 : 0 ≤ ((nest (turn2 a) (turn2 b) (turn2 c) (turn2 d) : Nat) : Int) := by omega
  have r2 : 0 ≤ ((nest (turn2 b) (turn2 a) (turn2 d) (turn2 c) : Nat) : Int) := by omega
  clear e1 e2 e3 e4
  go_enter Tryz.func168, Tryz.ntmps168
  go_wp2
  go_ret
  exact ⟨ret_int (by rw [E1.out, E2.out, E3.out]), rfl⟩
def swapV (turn : Bool) (w a : Int) : Int := if w = 16 ∨ w = 32 ∨ w = 64 then (if turn then swapW w a else a % 2 ^ w.toNat) else 0
def swapE (w : Int) : Int := if w = 16 ∨ w = 32 ∨ w = 64 then 0 else 1
def Swapped (v k : Int) (w : World) (e : Ending) (w' : World) : Prop := e = .returned (.tuple #[.int .u64 v, .int .i64 k]) ∧ w = w'
set_option maxHeartbeats 1000000 in
theorem swap_none (turn : Bool) (k a : Int) (w : World) (h : ¬ (k = 16 ∨ k = 32 ∨ k = 64)) : Calls Tryz.prog 114 #[.bool turn, .int .i64 k, .int .u64 a] w (Swapped (swapV turn k a) (swapE k) w) := by
  have e1 : swapV turn k a = 0 := by unfold swapV; rw [if_neg h]
  have e2 : swapE k = 1 := by unfold swapE; rw [if_neg h]
  rw [e1, e2]
  clear e1 e2
  simp only [not_or] at h
  obtain ⟨h1, h2, h3⟩ := h
  have k1 : (k != 16) = true := bne_iff_ne.mpr h1
  have k2 : (k != 32) = true := bne_iff_ne.mpr h2
  have k3 : (k != 64) = true := bne_iff_ne.mpr h3
  go_enter Tryz.func114, Tryz.ntmps114
  go_wp2
  go_ret2
  exact ⟨rfl, rfl⟩
set_option maxHeartbeats 1000000 in
theorem swap_yes (k a : Int) (w : World) (ha : 0 ≤ a) (ha' : a ≤ 18446744073709551615) (h : k = 16 ∨ k = 32 ∨ k = 64) :
    Calls Tryz.prog 114 #[.bool true, .int .i64 k, .int .u64 a] w (Swapped (swapW k a) 0 w) := by
  have hd := Lib.hid (swap_down a)
  have hr := swap64_range a
  obtain ⟨r0, r1⟩ := hr
  rcases h with rfl | rfl | rfl
  all_goals
    go_enter Tryz.func114, Tryz.ntmps114
    go_wp2_with (go_at_call 168; refine (reverse_any _ _ (by omega) (by omega)).mono ?_; rintro e w' ⟨rfl, rfl⟩)
    go_ret2
  · exact ⟨ret_two hd.out.1 rfl, rfl⟩
  · exact ⟨ret_two hd.out.2 rfl, rfl⟩
  · exact ⟨ret_two (by show _ = swap64 a; omega) rfl, rfl⟩
set_option maxHeartbeats 1000000 in
theorem swap_cut (k a : Int) (w : World) (ha : 0 ≤ a) (ha' : a ≤ 18446744073709551615) (h : k = 16 ∨ k = 32 ∨ k = 64) :
    Calls Tryz.prog 114 #[.bool false, .int .i64 k, .int .u64 a] w (Swapped (a % 2 ^ k.toNat) 0 w) := by
  have hc := Lib.hid fun w => cut_any a k w ha (by omega) (by omega)
  rcases h with rfl | rfl | rfl
  all_goals
    go_enter Tryz.func114, Tryz.ntmps114
    go_wp2_with (go_at_call 165; refine (hc.out _).mono ?_; rintro e w' ⟨rfl, rfl⟩)
    go_ret2
    exact ⟨rfl, rfl⟩
theorem swap_any (turn : Bool) (k a : Int) (w : World) (ha : 0 ≤ a) (ha' : a ≤ 18446744073709551615) :
    Calls Tryz.prog 114 #[.bool turn, .int .i64 k, .int .u64 a] w (Swapped (swapV turn k a) (swapE k) w) := by
  by_cases h : k = 16 ∨ k = 32 ∨ k = 64
  · have e2 : swapE k = 0 := by unfold swapE; rw [if_pos h]
    cases turn
    · have e1 : swapV false k a = a % 2 ^ k.toNat := by unfold swapV; rw [if_pos h]; rfl
      rw [e1, e2]; exact swap_cut k a w ha ha' h
    · have e1 : swapV true k a = swapW k a := by unfold swapV; rw [if_pos h]; rfl
      rw [e1, e2]; exact swap_yes k a w ha ha' h
  · exact swap_none turn k a w h
theorem sign_says (n k : Int) (w : World) (h : 0 ≤ n) (h' : n ≤ 18446744073709551615) :
    Calls Tryz.prog 154 #[.int .u64 n, .int .i64 k] w fun e w' => e = .returned (.int .u64 (signW n k)) ∧ w = w' := by
  by_cases h1 : 1 ≤ k
  · by_cases h2 : k ≤ 64
    · go_enter Tryz.func154, Tryz.ntmps154
      go_wp2
      go_ret
      exact ⟨end_int (by unfold signW; rw [if_pos ⟨h1, h2⟩, IntKind.wrap_u64, IntKind.wrap_u64, up_down_signed n k h1 h2]), rfl⟩
    · go_enter Tryz.func154, Tryz.ntmps154
      go_wp2
      go_ret
      exact ⟨end_int (by unfold signW; rw [if_neg (by omega)]), rfl⟩
  · go_enter Tryz.func154, Tryz.ntmps154
    go_wp2
    go_ret
    exact ⟨end_int (by unfold signW; rw [if_neg (by omega)]), rfl⟩
end Go.Proofs.YtlbhffdpklbhfaaGreat
namespace Go.Proofs.YtlbhffdpklbhfaaGreat
open Go Go.RowKit
set_option linter.unusedVariables false
def condFits (op : Int) : Bool := op == 0 || op == 16 || op == 80 || op == 64 || op == 32 || op == 48 || op == 160 || op == 176 || op == 96 || op == 112 || op == 192 || op == 208
def condXY (wide : Bool) (op x y : Int) : Bool :=
  if op = 0 then true
  else if op = 16 then decide (x = y)
  else if op = 80 then !decide (x = y)
  else if op = 64 then !decide (((x.toNat &&& y.toNat : Nat) : Int) = 0)
  else if op = 32 then decide (y < x)
  else if op = 48 then decide (y ≤ x)
  else if op = 160 then decide (x < y)
  else if op = 176 then decide (x ≤ y)
  else if op = 96 then decide (sg wide y < sg wide x)
  else if op = 112 then decide (sg wide y ≤ sg wide x)
  else if op = 192 then decide (sg wide x < sg wide y)
  else if op = 208 then decide (sg wide x ≤ sg wide y)
  else false
def condV (op : Int) (wide : Bool) (a b : Int) : Bool := condXY wide op (a % aM wide) (b % aM wide)
def condE (op : Int) : Int := if condFits op then 0 else 1
theorem sg_inj (wide : Bool) (x y : Int) (hx : 0 ≤ x ∧ x < aM wide) (hy : 0 ≤ y ∧ y < aM wide) : sg wide x = sg wide y ↔ x = y := by
  constructor
  · intro h
    have h1 := sg_mod wide x
    have h2 := sg_mod wide y
    rw [h] at h1
    rw [h1] at h2
    rw [Int.emod_eq_of_lt hx.1 hx.2, Int.emod_eq_of_lt hy.1 hy.2] at h2
    exact h2
  · rintro rfl; rfl
theorem fits_not {op : Int} (h : condFits op = false) : ¬ op = 0 ∧ ¬ op = 16 ∧ ¬ op = 80 ∧ ¬ op = 64 ∧ ¬ op = 32 ∧ ¬ op = 48 ∧ ¬ op = 160 ∧ ¬ op = 176 ∧ ¬ op = 96 ∧ ¬ op = 112 ∧ ¬ op = 192 ∧ ¬ op = 208 := by
  simpa [condFits, and_assoc] using h
theorem fits_is {op : Int} (h : condFits op = true) : op = 0 ∨ op = 16 ∨ op = 80 ∨ op = 64 ∨ op = 32 ∨ op = 48 ∨ op = 160 ∨ op = 176 ∨ op = 96 ∨ op = 112 ∨ op = 192 ∨ op = 208 := by
  simpa [condFits, or_assoc] using h
theorem condV_none {op : Int} (h : condFits op = false) (wide : Bool) (a b : Int) : condV op wide a b = false := by
  obtain ⟨h1, h2, h3, h4, h5, h6, h7, h8, h9, h10, h11, h12⟩ := fits_not h
  unfold condV condXY
  rw [if_neg h1, if_neg h2, if_neg h3, if_neg h4, if_neg h5, if_neg h6, if_neg h7, if_neg h8, if_neg h9, if_neg h10, if_neg h11, if_neg h12]
end Go.Proofs.YtlbhffdpklbhfaaGreat
namespace Go.Proofs.YtlbhffdpklbhfaaGreat
open Go Go.RowKit
set_option linter.unusedVariables false
set_option linter.unusedSimpArgs false
theorem str_zero (w : World) (A : Option Addr) (c : Nat) : (convert 23 9 (.slice A 0 c)).run Tryz.prog w = .ok (.string (strOfNums [])) w := by
  rw [run_convert_bytes_string w 23 9 5 A 0 c Tryz.underlying23 Tryz.underlying5 Tryz.underlying9]
  cases A with
  | none => rfl
  | some a => rfl
theorem str_bytS {w : World} {A : Option Addr} {b : List Int} (h : BytS w A b) (c : Nat) : (convert 23 9 (.slice A b.length c)).run Tryz.prog w = .ok (.string (strOfNums b)) w := by
  by_cases hb : 0 < b.length
  · obtain ⟨g, o, rfl, hg, hc⟩ := h hb
    exact run_convert_bytes_arg w 23 5 Tryz.underlying23 Tryz.underlying5 g o b.length c b rfl (fun i hi => hc i hi) 9 Tryz.underlying9
  · have e : b = [] := List.eq_nil_of_length_eq_zero (by omega)
    subst e
    exact str_zero w A c
end Go.Proofs.YtlbhffdpklbhfaaGreat
namespace Go.Proofs.YtlbhffdpklbhfaaGreat
open Go.RowKit
set_option maxRecDepth 100000
set_option linter.unusedVariables false
set_option linter.unusedSimpArgs false
structure Sg where
  told : List Int
  tells : Int
  draws : Bool
  most : Int
def hAll : Int := 18446744073709551615
def hS (i : Int) : Sg :=
  if i == 1 then ⟨[1, 2], 2, false, 0⟩ else if i == 2 then ⟨[1, 2, 3, 4], 1, false, hAll⟩ else if i == 3 then ⟨[1, 2], 1, false, hAll⟩ else
  if i == 5 then ⟨[], 1, true, hAll⟩ else if i == 6 then ⟨[4, 4], 1, false, 0⟩ else if i == 7 then ⟨[], 1, true, 4294967295⟩ else if i == 8 then ⟨[], 1, true, 63⟩ else ⟨[], 0, false, 0⟩
def hOk (i : Int) : Bool := i == 1 || (i == 2 || (i == 3 || (i == 5 || (i == 6 || (i == 7 || i == 8)))))
def sgV (s : Sg) (A : Option Addr) (c : Nat) : Value := .agg #[.slice A s.told.length c, .int .u8 s.tells, .bool s.draws, .int .u64 s.most]
def SigW (s : Sg) (ok : Bool) (w : World) (e : Ending) (w' : World) : Prop :=
  ∃ A c, e = .returned (.tuple #[sgV s A c, .bool ok]) ∧ Below w.heap.size w w' ∧ w'.ownsRow w.heap.size 5 1 (.slice A s.told.length c) s.told.length (byC s.told)
theorem hS_ways (i : Int) : i = 1 ∨ i = 2 ∨ i = 3 ∨ i = 5 ∨ i = 6 ∨ i = 7 ∨ i = 8 ∨ ((i == 1) = false ∧ (i == 2) = false ∧ (i == 3) = false ∧ (i == 5) = false ∧ (i == 6) = false ∧ (i == 7) = false ∧ (i == 8) = false) := by
  simp only [beq_eq_false_iff_ne]
  omega
theorem hS_none {i : Int} (h : (i == 1) = false ∧ (i == 2) = false ∧ (i == 3) = false ∧ (i == 5) = false ∧ (i == 6) = false ∧ (i == 7) = false ∧ (i == 8) = false) : hS i = ⟨[], 0, false, 0⟩ ∧ hOk i = false := by
  obtain ⟨h1, h2, h3, h5, h6, h7, h8⟩ := h
  simp [hS, hOk, h1, h2, h3, h5, h6, h7, h8]
theorem own_none_ (w : World) (base : Nat) (e : TypeId) : w.ownsRow base e 1 (.slice none 0 0) 0 [] := ⟨by simp, .inl ⟨rfl, rfl⟩⟩
theorem sig_row (w : World) (C : Obj) (cs : Array Value) (n : Nat) (hn : cs.size = n) (hm : n ≤ maxLen) :
    ((w.alloc C).alloc (.cells cs 5)).ownsRow w.heap.size 5 1 (.slice (some ⟨w.heap.size + 1, 0, none⟩) n n) n cs.toList := by
  refine ⟨by simp [hn], .inr ⟨w.heap.size + 1, n, cs, rfl, by omega, ?_, Nat.le_refl _, hm, by omega, ?_⟩⟩
  · exact Blk.new (w.alloc C) cs 5 (by simp)
  · rw [List.take_of_length_le (by simp [hn])]
theorem Blk.four {g : Nat} {a b c d : Value} {t : TypeId} {w : World} (h : Blk g #[a, b, c, d] t w) :
    (w.cell? ⟨g, 0, none⟩ = some a ∧ w.cell? ⟨g, 1, none⟩ = some b ∧ w.cell? ⟨g, 2, none⟩ = some c ∧ w.cell? ⟨g, 3, none⟩ = some d) ∧
    (w.frozen? ⟨g, 0, none⟩ = false ∧ w.frozen? ⟨g, 1, none⟩ = false ∧ w.frozen? ⟨g, 2, none⟩ = false ∧ w.frozen? ⟨g, 3, none⟩ = false) :=
  ⟨⟨Blk.cell h 0, Blk.cell h 1, Blk.cell h 2, Blk.cell h 3⟩, Blk.free h 0, Blk.free h 1, Blk.free h 2, Blk.free h 3⟩
def four (w : World) (g : Nat) (a b c d : Value) : World := (((w.setCell ⟨g, 0, none⟩ a).setCell ⟨g, 1, none⟩ b).setCell ⟨g, 2, none⟩ c).setCell ⟨g, 3, none⟩ d
theorem four_below {w0 w : World} {B g : Nat} (h : Below B w0 w) (hg : B ≤ g) (a b c d : Value) : Below B w0 (four w g a b c d) :=
  (((h.setCell hg a).setCell hg b).setCell hg c).setCell hg d
theorem four_blk {w : World} {g : Nat} {a0 b0 c0 d0 : Value} {t : TypeId} (h : Blk g #[a0, b0, c0, d0] t w) (a b c d : Value) : Blk g #[a, b, c, d] t (four w g a b c d) :=
  (((Blk.set h 0 a).set 1 b).set 2 c).set 3 d
set_option maxHeartbeats 2000000 in
theorem h10_drawn (m : Int) (w : World) : Calls Tryz.prog 156 #[.int .u64 m] w (Gives (.agg #[.slice none 0 0, .int .u8 1, .bool true, .int .u64 m]) w) := by
  have Z0 := Lib.hid (Blk.new w #[.slice none 0 0, .int .u8 1, .bool true, .int .u64 m] 175 rfl)
  have B0 := Lib.hid (below_alloc (Below.refl w.heap.size w) (.cells #[.slice none 0 0, .int .u8 1, .bool true, .int .u64 m] 175))
  go_enter Tryz.func156, Tryz.ntmps156
  go_wp2_with fail
  obtain ⟨⟨r0, r1, r2, r3⟩, -⟩ := Blk.four Z0.out
  exact bodyPost_ret (v := .agg #[.slice none 0 0, .int .u8 1, .bool true, .int .u64 m]) (by simp [results, Tryz.results156, go_sem, r0, r1, r2, r3]) rfl ⟨rfl, B0.out⟩
-- HERE
set_option maxHeartbeats 4000000 in
theorem h10_Sig (i : Int) (w : World) : Calls Tryz.prog 107 #[.int .i64 i] w (SigW (hS i) (hOk i) w) := by
  rcases hS_ways i with rfl | rfl | rfl | rfl | rfl | rfl | rfl | h
  · show Calls _ _ _ _ (SigW ⟨[1, 2], 2, false, 0⟩ true w)
    have Z0 := Lib.hid (Blk.new w #[.slice (some ⟨w.heap.size + 1, 0, none⟩) 2 2, .int .u8 2, .bool false, .int .u64 0] 175 rfl)
    have B0 := Lib.hid (below_alloc (Below.refl w.heap.size w) (.cells #[.slice (some ⟨w.heap.size + 1, 0, none⟩) 2 2, .int .u8 2, .bool false, .int .u64 0] 175))
    go_enter Tryz.func107, Tryz.ntmps107
    go_wp2_with fail
    have Z := Z0.out.after (below_alloc (Below.refl _ _) (.cells #[.int .u8 1, .int .u8 2] 5))
    obtain ⟨⟨r0, r1, r2, r3⟩, -⟩ := Blk.four Z
    exact bodyPost_ret (v := .tuple #[sgV ⟨[1, 2], 2, false, 0⟩ (some ⟨w.heap.size + 1, 0, none⟩) 2, .bool true]) (by simp [results, Tryz.results107, go_sem, r0, r1, r2, r3]; rfl) rfl ⟨_, _, rfl, below_alloc B0.out _, sig_row w _ #[.int .u8 1, .int .u8 2] 2 rfl (by decide)⟩
  · show Calls _ _ _ _ (SigW ⟨[1, 2, 3, 4], 1, false, 18446744073709551615⟩ true w)
    have Z0 := Lib.hid (Blk.new w #[.slice (some ⟨w.heap.size + 1, 0, none⟩) 4 4, .int .u8 1, .bool false, .int .u64 18446744073709551615] 175 rfl)
    have B0 := Lib.hid (below_alloc (Below.refl w.heap.size w) (.cells #[.slice (some ⟨w.heap.size + 1, 0, none⟩) 4 4, .int .u8 1, .bool false, .int .u64 18446744073709551615] 175))
    go_enter Tryz.func107, Tryz.ntmps107
    go_wp2_with fail
    have Z := Z0.out.after (below_alloc (Below.refl _ _) (.cells #[.int .u8 1, .int .u8 2, .int .u8 3, .int .u8 4] 5))
    obtain ⟨⟨r0, r1, r2, r3⟩, -⟩ := Blk.four Z
    exact bodyPost_ret (v := .tuple #[sgV ⟨[1, 2, 3, 4], 1, false, 18446744073709551615⟩ (some ⟨w.heap.size + 1, 0, none⟩) 4, .bool true]) (by simp [results, Tryz.results107, go_sem, r0, r1, r2, r3]; rfl) rfl ⟨_, _, rfl, below_alloc B0.out _, sig_row w _ #[.int .u8 1, .int .u8 2, .int .u8 3, .int .u8 4] 4 rfl (by decide)⟩
  · show Calls _ _ _ _ (SigW ⟨[1, 2], 1, false, 18446744073709551615⟩ true w)
    have Z0 := Lib.hid (Blk.new w #[.slice (some ⟨w.heap.size + 1, 0, none⟩) 2 2, .int .u8 1, .bool false, .int .u64 18446744073709551615] 175 rfl)
    have B0 := Lib.hid (below_alloc (Below.refl w.heap.size w) (.cells #[.slice (some ⟨w.heap.size + 1, 0, none⟩) 2 2, .int .u8 1, .bool false, .int .u64 18446744073709551615] 175))
    go_enter Tryz.func107, Tryz.ntmps107
    go_wp2_with fail
    have Z := Z0.out.after (below_alloc (Below.refl _ _) (.cells #[.int .u8 1, .int .u8 2] 5))
    obtain ⟨⟨r0, r1, r2, r3⟩, -⟩ := Blk.four Z
    exact bodyPost_ret (v := .tuple #[sgV ⟨[1, 2], 1, false, 18446744073709551615⟩ (some ⟨w.heap.size + 1, 0, none⟩) 2, .bool true]) (by simp [results, Tryz.results107, go_sem, r0, r1, r2, r3]; rfl) rfl ⟨_, _, rfl, below_alloc B0.out _, sig_row w _ #[.int .u8 1, .int .u8 2] 2 rfl (by decide)⟩
  · show Calls _ _ _ _ (SigW ⟨[], 1, true, 18446744073709551615⟩ true w)
    have Z0 := Lib.hid (Blk.new w #[.slice none 0 0, .int .u8 1, .bool true, .int .u64 18446744073709551615] 175 rfl)
    have B0 := Lib.hid (below_alloc (Below.refl w.heap.size w) (.cells #[.slice none 0 0, .int .u8 1, .bool true, .int .u64 18446744073709551615] 175))
    have ZZ := Lib.hid (Blk.new w #[.slice none 0 0, .int .u8 0, .bool false, .int .u64 0] 175 rfl)
    have BB := Lib.hid (below_alloc (Below.refl w.heap.size w) (.cells #[.slice none 0 0, .int .u8 0, .bool false, .int .u64 0] 175))
    have HD := Lib.hid fun m u => h10_drawn m u
    go_enter Tryz.func107, Tryz.ntmps107
    go_wp2_with fail
    refine (HD.out _ _).mono ?_
    rintro e w1 ⟨rfl, b1⟩
    have V := Lib.hid (below_next' BB.out b1)
    have ZY := Lib.hid (ZZ.out.after b1)
    obtain ⟨⟨z0, z1, z2, z3⟩, y0, y1, y2, y3⟩ := Blk.four ZY.out
    clear b1
    generalize hgr : w.heap.size = ρ at *
    go_wp2_with fail
    have R := four_blk ZY.out (.slice none 0 0) (.int .u8 1) (.bool true) (.int .u64 18446744073709551615)
    have RB := four_below V.out (Nat.le_refl _) (.slice none 0 0) (.int .u8 1) (.bool true) (.int .u64 18446744073709551615)
    obtain ⟨⟨r0, r1, r2, r3⟩, -⟩ := Blk.four R
    unfold four at r0 r1 r2 r3 RB
    exact bodyPost_ret (v := .tuple #[sgV ⟨[], 1, true, 18446744073709551615⟩ none 0, .bool true]) (by simp [results, Tryz.results107, go_sem, r0, r1, r2, r3]; rfl) rfl ⟨none, 0, rfl, by rw [hgr]; exact RB, by rw [hgr]; exact own_none_ _ _ _⟩
  · show Calls _ _ _ _ (SigW ⟨[4, 4], 1, false, 0⟩ true w)
    have Z0 := Lib.hid (Blk.new w #[.slice (some ⟨w.heap.size + 1, 0, none⟩) 2 2, .int .u8 1, .bool false, .int .u64 0] 175 rfl)
    have B0 := Lib.hid (below_alloc (Below.refl w.heap.size w) (.cells #[.slice (some ⟨w.heap.size + 1, 0, none⟩) 2 2, .int .u8 1, .bool false, .int .u64 0] 175))
    go_enter Tryz.func107, Tryz.ntmps107
    go_wp2_with fail
    have Z := Z0.out.after (below_alloc (Below.refl _ _) (.cells #[.int .u8 4, .int .u8 4] 5))
    obtain ⟨⟨r0, r1, r2, r3⟩, -⟩ := Blk.four Z
    exact bodyPost_ret (v := .tuple #[sgV ⟨[4, 4], 1, false, 0⟩ (some ⟨w.heap.size + 1, 0, none⟩) 2, .bool true]) (by simp [results, Tryz.results107, go_sem, r0, r1, r2, r3]; rfl) rfl ⟨_, _, rfl, below_alloc B0.out _, sig_row w _ #[.int .u8 4, .int .u8 4] 2 rfl (by decide)⟩
  · show Calls _ _ _ _ (SigW ⟨[], 1, true, 4294967295⟩ true w)
    have Z0 := Lib.hid (Blk.new w #[.slice none 0 0, .int .u8 1, .bool true, .int .u64 4294967295] 175 rfl)
    have B0 := Lib.hid (below_alloc (Below.refl w.heap.size w) (.cells #[.slice none 0 0, .int .u8 1, .bool true, .int .u64 4294967295] 175))
    have ZZ := Lib.hid (Blk.new w #[.slice none 0 0, .int .u8 0, .bool false, .int .u64 0] 175 rfl)
    have BB := Lib.hid (below_alloc (Below.refl w.heap.size w) (.cells #[.slice none 0 0, .int .u8 0, .bool false, .int .u64 0] 175))
    have HD := Lib.hid fun m u => h10_drawn m u
    go_enter Tryz.func107, Tryz.ntmps107
    go_wp2_with fail
    refine (HD.out _ _).mono ?_
    rintro e w1 ⟨rfl, b1⟩
    have V := Lib.hid (below_next' BB.out b1)
    have ZY := Lib.hid (ZZ.out.after b1)
    obtain ⟨⟨z0, z1, z2, z3⟩, y0, y1, y2, y3⟩ := Blk.four ZY.out
    clear b1
    generalize hgr : w.heap.size = ρ at *
    go_wp2_with fail
    have R := four_blk ZY.out (.slice none 0 0) (.int .u8 1) (.bool true) (.int .u64 4294967295)
    have RB := four_below V.out (Nat.le_refl _) (.slice none 0 0) (.int .u8 1) (.bool true) (.int .u64 4294967295)
    obtain ⟨⟨r0, r1, r2, r3⟩, -⟩ := Blk.four R
    unfold four at r0 r1 r2 r3 RB
    exact bodyPost_ret (v := .tuple #[sgV ⟨[], 1, true, 4294967295⟩ none 0, .bool true]) (by simp [results, Tryz.results107, go_sem, r0, r1, r2, r3]; rfl) rfl ⟨none, 0, rfl, by rw [hgr]; exact RB, by rw [hgr]; exact own_none_ _ _ _⟩
  · show Calls _ _ _ _ (SigW ⟨[], 1, true, 63⟩ true w)
    have Z0 := Lib.hid (Blk.new w #[.slice none 0 0, .int .u8 1, .bool true, .int .u64 63] 175 rfl)
    have B0 := Lib.hid (below_alloc (Below.refl w.heap.size w) (.cells #[.slice none 0 0, .int .u8 1, .bool true, .int .u64 63] 175))
    have ZZ := Lib.hid (Blk.new w #[.slice none 0 0, .int .u8 0, .bool false, .int .u64 0] 175 rfl)
    have BB := Lib.hid (below_alloc (Below.refl w.heap.size w) (.cells #[.slice none 0 0, .int .u8 0, .bool false, .int .u64 0] 175))
    have HD := Lib.hid fun m u => h10_drawn m u
    go_enter Tryz.func107, Tryz.ntmps107
    go_wp2_with fail
    refine (HD.out _ _).mono ?_
    rintro e w1 ⟨rfl, b1⟩
    have V := Lib.hid (below_next' BB.out b1)
    have ZY := Lib.hid (ZZ.out.after b1)
    obtain ⟨⟨z0, z1, z2, z3⟩, y0, y1, y2, y3⟩ := Blk.four ZY.out
    clear b1
    generalize hgr : w.heap.size = ρ at *
    go_wp2_with fail
    have R := four_blk ZY.out (.slice none 0 0) (.int .u8 1) (.bool true) (.int .u64 63)
    have RB := four_below V.out (Nat.le_refl _) (.slice none 0 0) (.int .u8 1) (.bool true) (.int .u64 63)
    obtain ⟨⟨r0, r1, r2, r3⟩, -⟩ := Blk.four R
    unfold four at r0 r1 r2 r3 RB
    exact bodyPost_ret (v := .tuple #[sgV ⟨[], 1, true, 63⟩ none 0, .bool true]) (by simp [results, Tryz.results107, go_sem, r0, r1, r2, r3]; rfl) rfl ⟨none, 0, rfl, by rw [hgr]; exact RB, by rw [hgr]; exact own_none_ _ _ _⟩
  · obtain ⟨e1, e2⟩ := hS_none h
    rw [e1, e2]
    clear e1 e2
    obtain ⟨h1, h2, h3, h5, h6, h7, h8⟩ := h
    have Z0 := Lib.hid (Blk.new w #[.slice none 0 0, .int .u8 0, .bool false, .int .u64 0] 175 rfl)
    have B0 := Lib.hid (below_alloc (Below.refl w.heap.size w) (.cells #[.slice none 0 0, .int .u8 0, .bool false, .int .u64 0] 175))
    go_enter Tryz.func107, Tryz.ntmps107
    go_wp2_with fail
    have Z := Z0.out
    obtain ⟨⟨r0, r1, r2, r3⟩, -⟩ := Blk.four Z
    exact bodyPost_ret (v := .tuple #[sgV ⟨[], 0, false, 0⟩ none 0, .bool false]) (by simp [results, Tryz.results107, go_sem, r0, r1, r2, r3]; rfl) rfl ⟨none, 0, rfl, B0.out, own_none_ _ _ _⟩
def NumS (w : World) (A : Option Addr) (b : List Int) : Prop :=
  0 < b.length → ∃ g o, A = some ⟨g, o, none⟩ ∧ g < w.heap.size ∧ ∀ k, k < b.length → w.cell? ⟨g, o + k, none⟩ = some (.int .u64 (bAt b k))
theorem NumS.none_ (w : World) (A : Option Addr) : NumS w A [] := fun h => absurd h (by simp)
theorem NumS.after {w w' : World} {A : Option Addr} {b : List Int} (h : NumS w A b) (k : Below w.heap.size w w') : NumS w' A b := fun hl => by
  obtain ⟨g, o, e, hg, hc⟩ := h hl
  exact ⟨g, o, e, Nat.lt_of_lt_of_le hg k.size, fun j hj => (k.cell (p := ⟨g, o + j, none⟩) hg).trans (hc j hj)⟩
def OkN (b : List Int) : Prop := ∀ k, k < b.length → 0 ≤ bAt b k ∧ bAt b k ≤ 18446744073709551615
def nuC (b : List Int) : List Value := b.map fun x => .int .u64 x
theorem nuC_len (b : List Int) : (nuC b).length = b.length := by simp [nuC]
theorem nuC_at (b : List Int) {k : Nat} (h : k < b.length) : (nuC b)[k]? = some (.int .u64 (bAt b k)) := by
  simp [nuC, bAt, List.getD_eq_getElem?_getD, List.getElem?_eq_getElem h]
theorem nuC_one (b : List Int) : ∀ u ∈ nuC b, u.oneCell' = true := by
  intro u hu
  simp only [nuC, List.mem_map] at hu
  obtain ⟨x, _, rfl⟩ := hu
  rfl
theorem nuC_app (a b : List Int) : nuC (a ++ b) = nuC a ++ nuC b := by simp [nuC]
theorem own_numS {w : World} {base : Nat} {e : TypeId} {c : Nat} {A : Option Addr} {b : List Int} {n : Nat} (hn : n = b.length) (h : w.ownsRow base e 1 (.slice A n c) n (nuC b)) : NumS w A b := fun hl => by
  subst hn
  obtain ⟨g, rfl, _, hg⟩ := own_addr h hl
  refine ⟨g, 0, rfl, hg, fun k hk => ?_⟩
  rw [Nat.zero_add, h.cellAt k (by omega), nuC_at b hk]
theorem num_news {w : World} {g o : Nat} {b : List Int} (h : ∀ k, k < b.length → w.cell? ⟨g, o + k, none⟩ = some (.int .u64 (bAt b k))) : ∀ j u, (nuC b)[j]? = some u → w.cell? ((⟨g, o, none⟩ : Addr).add j) = some u := by
  intro j u hu
  have hadd : (⟨g, o, none⟩ : Addr).add j = ⟨g, o + j, none⟩ := by unfold Addr.add; split <;> simp_all
  have hj : j < b.length := by
    rcases Nat.lt_or_ge j b.length with k | k
    · exact k
    · rw [List.getElem?_eq_none (by rw [nuC_len]; exact k)] at hu; cases hu
  rw [hadd, h j hj, ← hu, nuC_at b hj]
theorem bAt_drop (b : List Int) (p k : Nat) : bAt (b.drop p) k = bAt b (p + k) := by
  unfold bAt
  rw [List.getD_eq_getElem?_getD, List.getD_eq_getElem?_getD, List.getElem?_drop]
theorem bAt_take (b : List Int) (p k : Nat) (h : k < p) : bAt (b.take p) k = bAt b k := by
  unfold bAt
  rw [List.getD_eq_getElem?_getD, List.getD_eq_getElem?_getD, List.getElem?_take, if_pos h]
theorem okN_drop {b : List Int} (h : OkN b) (p : Nat) : OkN (b.drop p) := fun k hk => by
  rw [List.length_drop] at hk
  rw [bAt_drop]
  exact h (p + k) (by omega)
theorem okN_take {b : List Int} (h : OkN b) (p : Nat) : OkN (b.take p) := fun k hk => by
  rw [List.length_take] at hk
  rw [bAt_take b p k (by omega)]
  exact h k (by omega)
theorem NumS.tail {w : World} {g o : Nat} {b : List Int} (hg : g < w.heap.size) (h : ∀ k, k < b.length → w.cell? ⟨g, o + k, none⟩ = some (.int .u64 (bAt b k))) (p : Nat) :
    ∀ k, k < (b.drop p).length → w.cell? ⟨g, o + p + k, none⟩ = some (.int .u64 (bAt (b.drop p) k)) := fun k hk => by
  rw [List.length_drop] at hk
  rw [bAt_drop, Nat.add_assoc]
  exact h (p + k) (by omega)
def hCut (n m : Int) : Int := if m == hAll then n else n % (m + 1)
def hDr (i : Int) (l : List Int) : Int × List Int × Int :=
  if (hOk i && (hS i).draws) = true then (match l with | [] => (0, [], 100) | n :: r => (hCut n (hS i).most, r, 0)) else (0, [], 1)
def DrawW (r : Int × List Int × Int) (w : World) (e : Ending) (w' : World) : Prop :=
  ∃ A c, e = .returned (.tuple #[.int .u64 r.1, .slice A r.2.1.length c, .int .i64 r.2.2]) ∧ Below w.heap.size w w' ∧ w'.ownsRow w.heap.size 42 1 (.slice A r.2.1.length c) r.2.1.length (nuC r.2.1)
theorem drawW_none {w w' : World} (n e : Int) (h : Below w.heap.size w w') : DrawW (n, [], e) w (.returned (.tuple #[.int .u64 n, .slice none 0 0, .int .i64 e])) w' :=
  ⟨none, 0, rfl, h, ⟨by simp [nuC], .inl ⟨rfl, rfl⟩⟩⟩
theorem hS_most (i : Int) : 0 ≤ (hS i).most ∧ (hS i).most ≤ 18446744073709551615 := by
  rcases hS_ways i with rfl | rfl | rfl | rfl | rfl | rfl | rfl | h
  all_goals first | exact (by decide) | skip
  rw [(hS_none h).1]
  exact (by decide)
set_option maxHeartbeats 1000000 in
theorem h10_cut (n m : Int) (w : World) (hn : 0 ≤ n ∧ n ≤ 18446744073709551615) (hm : 0 ≤ m ∧ m ≤ 18446744073709551615) :
    Calls Tryz.prog 198 #[.int .u64 n, .int .u64 m] w (Gives (.int .u64 (hCut n m)) w) := by
  unfold hCut hAll
  cases h : (m == 18446744073709551615)
  · rw [if_neg Bool.false_ne_true]
    have hne : m ≠ 18446744073709551615 := by simpa using h
    have e : IntKind.u64.wrap (m + 1) = m + 1 := by rw [IntKind.wrap_u64]; omega
    have e2 : n.tmod (m + 1) = n % (m + 1) := Int.tmod_eq_emod_of_nonneg hn.1
    have e3 : IntKind.u64.wrap (n % (m + 1)) = n % (m + 1) := by
      have h1 := Int.emod_nonneg n (show m + 1 ≠ 0 by omega)
      have h2 := Int.emod_lt_of_pos n (show 0 < m + 1 by omega)
      rw [IntKind.wrap_u64]; omega
    have e4 : ((m + 1) == 0) = false := by simp; omega
    go_enter Tryz.func198, Tryz.ntmps198
    go_wp2_with fail
    go_ret
    exact ⟨rfl, Below.refl _ _⟩
  · rw [if_pos rfl]
    go_enter Tryz.func198, Tryz.ntmps198
    go_wp2_with fail
    go_ret
    exact ⟨rfl, Below.refl _ _⟩
end Go.Proofs.YtlbhffdpklbhfaaGreat
namespace Go.Proofs.YtlbhffdpklbhfaaGreat
open Go Go.RowKit
theorem step_append_run {P : Program} {ops : Array Oper} {w : World} {o : Oper} {a : Act} {K : Act → World → Prop} {Q : Exit → Act → World → Prop} {E : Prop} (hgd : o.guard = none) (s x : Operand) (t tn : TypeId)
    (ho : o.op = .call { callee := .builtin .append, args := #[s, x], argTypes := #[t, tn] }) (vs vx : Value) (hs : a.eval s = vs) (hx : a.eval x = vx) (v' : Value) (w' : World) (hr : (Builtin.append_ #[t, tn] o.type #[vs, vx]).run P w = .ok v' w') (h : K (a.put o.dst v') w') :
    if Region.wanted o (yielded ops a.tmps) = true then Oper.wp P o a w K Q else E := by
  rw [if_pos (by simp [Region.wanted, hgd])]
  exact Lib.wp_append_run w s x t tn ho vs vx hs hx v' w' hr h
end Go.Proofs.YtlbhffdpklbhfaaGreat
namespace Go.Proofs.YtlbhffdpklbhfaaGreat
open Go Go.RowKit
set_option maxRecDepth 100000
set_option linter.unusedVariables false
set_option linter.unusedSimpArgs false
structure TR where
  m : TM
  v : Value
def TR.zero : TR := ⟨TM.zero, .slice none 0 0⟩
def trAt (L : List TR) (k : Nat) : TR := L.getD k TR.zero
def cK (x : TK) : List Value := [.string (strOfNums x.k), .int .i64 (x.s : Int)]
def kAt (L : List TK) (k : Nat) : TK := L.getD k TK.zero
def cT (r : TR) : List Value := [.bool r.m.d.hash, .int .i64 r.m.d.key, .int .i64 r.m.d.val, .int .i64 r.m.d.max, r.v, .int .i64 (r.m.made : Int)]
def trC (L : List TR) : List Value := L.flatMap cT
theorem trC_len (L : List TR) : (trC L).length = L.length * 6 := by
  induction L with
  | nil => rfl
  | cons x l ih =>
    show (cT x ++ trC l).length = _
    rw [List.length_append, ih]
    simp [cT]
    omega
theorem trC_at (L : List TR) (k r : Nat) (h : k < L.length) (hr : r < 6) : (trC L)[k * 6 + r]? = (cT (trAt L k))[r]? := by
  induction L generalizing k with
  | nil => simp at h
  | cons x l ih =>
    have e : trC (x :: l) = cT x ++ trC l := rfl
    have hx : (cT x).length = 6 := rfl
    cases k with
    | zero =>
      rw [e, List.getElem?_append_left (by rw [hx]; omega)]
      simp [trAt]
    | succ k =>
      rw [e, List.getElem?_append_right (by rw [hx]; omega), hx]
      have := ih k (by simpa using h)
      rw [show (k + 1) * 6 + r - 6 = k * 6 + r by omega, this]
      simp [trAt]
def trM (L : List TR) : TT := L.map (·.m)
theorem trM_len (L : List TR) : (trM L).length = L.length := by simp [trM]
theorem trM_at (L : List TR) (k : Nat) : mt (trM L) k = (trAt L k).m := by
  unfold mt trM trAt
  rw [List.getD_eq_getElem?_getD, List.getD_eq_getElem?_getD, List.getElem?_map]
  cases L[k]? <;> rfl
theorem trAt_out {L : List TR} {k : Nat} (h : L.length ≤ k) : trAt L k = TR.zero := by
  unfold trAt
  rw [List.getD_eq_getElem?_getD, List.getElem?_eq_none h]
  rfl
theorem trAt_set {L : List TR} {k : Nat} (hk : k < L.length) (r : TR) (j : Nat) : trAt (L.set k r) j = if j = k then r else trAt L j := by
  unfold trAt
  rw [List.getD_eq_getElem?_getD, List.getD_eq_getElem?_getD, List.getElem?_set]
  by_cases h : k = j
  · subst h
    rw [if_pos rfl, if_pos hk, if_pos rfl]
    rfl
  · rw [if_neg h, if_neg (fun e => h e.symm)]
section
variable {w w' u : World} {gt g2 : Nat} {vl : Value} {L : List TR} {F : Nat → Prop} {T : TT}
end
end Go.Proofs.YtlbhffdpklbhfaaGreat
namespace Go.Proofs.YtlbhffdpklbhfaaGreat
open Go.RowKit
set_option maxRecDepth 100000
set_option linter.unusedVariables false
set_option linter.unusedSimpArgs false
theorem find_out {L : List TK} {key : List Int} (h : ∀ t, t < L.length → (kAt L t).k ≠ key) : tFind L key = none := by
  unfold tFind
  rw [Option.map_eq_none_iff, List.find?_eq_none]
  intro x hx
  obtain ⟨i, hi, rfl⟩ := List.mem_iff_getElem.mp hx
  have := h i hi
  unfold kAt at this
  rw [List.getD_eq_getElem?_getD, List.getElem?_eq_getElem hi] at this
  simpa using this
theorem kAt_mem {L : List TK} {k : Nat} (h : k < L.length) : kAt L k ∈ L := by
  unfold kAt
  rw [List.getD_eq_getElem?_getD, List.getElem?_eq_getElem h]
  exact List.getElem_mem h
theorem find_mem {L : List TK} {key : List Int} {s : Nat} (h : tFind L key = some s) : ∃ x ∈ L, x.k = key ∧ x.s = s := by
  unfold tFind at h
  rw [Option.map_eq_some_iff] at h
  obtain ⟨x, hx, rfl⟩ := h
  exact ⟨x, List.mem_of_find?_eq_some hx, by simpa using List.find?_some hx, rfl⟩
theorem may_yes {T : TT} {i : Int} {key : List Int} (h : tMay T i key = true) : 0 ≤ i ∧ i < T.length ∧ (key.length : Int) = (mt T i.toNat).d.key := by
  unfold tMay at h
  simp only [Bool.and_eq_true, decide_eq_true_eq, beq_iff_eq] at h
  exact ⟨h.1.1, h.1.2, h.2⟩
theorem find_small {T : TT} (hok : TOk T) {i : Nat} (hi : i < T.length) {key : List Int} {s : Nat} (h : tFind (mt T i).L key = some s) : s < 1024 := by
  obtain ⟨x, hx, _, rfl⟩ := find_mem h
  have := (hok i hi).keys x hx
  have := (hok i hi).made
  omega
end Go.Proofs.YtlbhffdpklbhfaaGreat
