/-
  Texts, one behind the other: Ref07h, Code5, Code6, Mach1, MachTurn, Mach2.
  Conditions: those that each theorem states.
-/
import Derived.Deep.RegionHeld3
import Derived.Deep.DeepCutAuto
import Derived.Deep.CutBlock
import Derived.Test.YtlbhffdpklbhfaaGreatPz16
import Derived.Test.YtlbhffdpklbhfaaGreatPz15
import Derived.Test.YtlbhffdpklbhfaaGreatPz23
import Derived.Test.YtlbhffdpklbhfaaGreatPz8
namespace Go.Proofs.YtlbhffdpklbhfaaGreat
open Go.RowKit
set_option linter.unusedVariables false
theorem toOf_rng {x : Ins} (hx : x.ok) (k : Nat) (hk : k ≤ 100000) : -2147500000 ≤ toOf x k ∧ toOf x k ≤ 2147600000 := by
  obtain ⟨_, _, _, ⟨b1, b2⟩, b3, b4⟩ := hx
  unfold toOf farOf
  split
  · split <;> omega
  · omega
end Go.Proofs.YtlbhffdpklbhfaaGreat
namespace Go.Proofs.YtlbhffdpklbhfaaGreat
open Go.RowKit
set_option maxRecDepth 100000
set_option linter.unusedVariables false
set_option linter.unusedSimpArgs false
set_option maxRecDepth 100000 in
set_option maxHeartbeats 1000000 in
theorem c7_fits (n : Int) (w : World) : Calls Tryz.prog 41 #[.int .i64 n] w (Gives (.bool (decide (0 < n) && decide (n ≤ 512))) w) := by
  by_cases h0 : 0 < n
  · rw [decide_eq_true h0, Bool.true_and]
    by_cases h1 : n ≤ 512
    · rw [decide_eq_true h1]
      go_enter Tryz.func41, Tryz.ntmps41
      go_wp2_with fail
      go_ret
      exact ⟨rfl, Below.refl _ _⟩
    · rw [decide_eq_false h1]
      have d1 : decide (n ≤ 512) = false := decide_eq_false h1
      clear h1
      go_enter Tryz.func41, Tryz.ntmps41
      go_wp2_with fail
      go_ret
      exact ⟨rfl, Below.refl _ _⟩
  · rw [decide_eq_false h0, Bool.false_and]
    have h2 : n ≤ 0 := by omega
    clear h0
    go_enter Tryz.func41, Tryz.ntmps41
    go_wp2_with fail
    go_ret
    exact ⟨rfl, Below.refl _ _⟩
set_option maxRecDepth 100000 in
set_option maxHeartbeats 1000000 in
theorem c7_isPlace (l : List Ins) (A : Option Addr) (c : Nat) (i : Int) (w : World) (hl : l.length ≤ 100000) : Calls Tryz.prog 88 #[.slice A l.length c, .int .i64 i] w (Gives (.bool (inL l i)) w) := by
  unfold inL
  by_cases h0 : 0 ≤ i
  · rw [decide_eq_true h0, Bool.true_and]
    by_cases h1 : i < (l.length : Int)
    · rw [decide_eq_true h1]
      go_enter Tryz.func88, Tryz.ntmps88
      go_wp2_with fail
      go_ret
      exact ⟨rfl, Below.refl _ _⟩
    · rw [decide_eq_false h1]
      have d1 : decide (i < (l.length : Int)) = false := decide_eq_false h1
      clear h1
      go_enter Tryz.func88, Tryz.ntmps88
      go_wp2_with fail
      go_ret
      exact ⟨rfl, Below.refl _ _⟩
  · rw [decide_eq_false h0, Bool.false_and]
    have h2 : i < 0 := by omega
    clear h0
    go_enter Tryz.func88, Tryz.ntmps88
    go_wp2_with fail
    go_ret
    exact ⟨rfl, Below.refl _ _⟩
set_option maxRecDepth 100000 in
set_option maxHeartbeats 1000000 in
theorem c7_far (x : Ins) (hx : x.ok) (w : World) : Calls Tryz.prog 139 #[iV x] w (Gives (.int .i64 (farOf x)) w) := by
  have B := Lib.hid (i_box x w)
  obtain ⟨_, _, _, ⟨b1, b2⟩, b3, b4⟩ := hx
  unfold farOf
  cases h6 : (x.op == 6)
  · rw [if_neg Bool.false_ne_true]
    go_enter Tryz.func139, Tryz.ntmps139
    go_wp2_with fail
    go_ret
    exact ⟨rfl, B.out⟩
  · rw [if_pos rfl]
    go_enter Tryz.func139, Tryz.ntmps139
    go_wp2_with fail
    go_ret
    exact ⟨rfl, B.out⟩
set_option maxRecDepth 100000 in
set_option maxHeartbeats 1000000 in
theorem c7_jumps (x : Ins) (hx : x.ok) (w : World) : Calls Tryz.prog 90 #[iV x] w (Gives (.bool (jumpy x)) w) := by
  have B := Lib.hid (i_box x w)
  have C := Lib.hid (c7_What x hx)
  unfold jumpy
  generalize wOf x = v at *
  generalize wOk x = ok at *
  clear hx
  rcases or_ways (v.kind == 9) (v.kind == 10) with h1 | ⟨h1, h2⟩ | ⟨h1, h2⟩
  · rw [h1, Bool.true_or]
    go_enter Tryz.func90, Tryz.ntmps90
    go_wp2_with fail
    refine (C.out _).mono ?_
    rintro e w5 ⟨rfl, b5⟩
    have V := Lib.hid (below_alloc (below_next' B.out b5) (.cells (whCells v) 96))
    clear b5
    go_wp2_with fail
    go_ret
    exact ⟨rfl, V.out⟩
  · rw [h1, h2, Bool.false_or]
    go_enter Tryz.func90, Tryz.ntmps90
    go_wp2_with fail
    refine (C.out _).mono ?_
    rintro e w5 ⟨rfl, b5⟩
    have V := Lib.hid (below_alloc (below_next' B.out b5) (.cells (whCells v) 96))
    clear b5
    go_wp2_with fail
    go_ret
    exact ⟨rfl, V.out⟩
  · rw [h1, h2, Bool.false_or]
    go_enter Tryz.func90, Tryz.ntmps90
    go_wp2_with fail
    refine (C.out _).mono ?_
    rintro e w5 ⟨rfl, b5⟩
    have V := Lib.hid (below_alloc (below_next' B.out b5) (.cells (whCells v) 96))
    clear b5
    go_wp2_with fail
    go_ret
    exact ⟨rfl, V.out⟩
set_option maxRecDepth 100000 in
set_option maxHeartbeats 1000000 in
theorem c7_ends (x : Ins) (hx : x.ok) (w : World) : Calls Tryz.prog 46 #[iV x] w (Gives (.bool (ends x)) w) := by
  have B := Lib.hid (i_box x w)
  have C := Lib.hid (c7_What x hx)
  unfold ends
  generalize wOf x = v at *
  generalize wOk x = ok at *
  clear hx
  rcases or_ways (v.kind == 12) (v.kind == 9) with h1 | ⟨h1, h2⟩ | ⟨h1, h2⟩
  · rw [h1, Bool.true_or]
    go_enter Tryz.func46, Tryz.ntmps46
    go_wp2_with fail
    refine (C.out _).mono ?_
    rintro e w5 ⟨rfl, b5⟩
    have V := Lib.hid (below_alloc (below_next' B.out b5) (.cells (whCells v) 96))
    clear b5
    go_wp2_with fail
    go_ret
    exact ⟨rfl, V.out⟩
  · rw [h1, h2, Bool.false_or]
    go_enter Tryz.func46, Tryz.ntmps46
    go_wp2_with fail
    refine (C.out _).mono ?_
    rintro e w5 ⟨rfl, b5⟩
    have V := Lib.hid (below_alloc (below_next' B.out b5) (.cells (whCells v) 96))
    clear b5
    go_wp2_with fail
    go_ret
    exact ⟨rfl, V.out⟩
  · rw [h1, h2, Bool.false_or]
    go_enter Tryz.func46, Tryz.ntmps46
    go_wp2_with fail
    refine (C.out _).mono ?_
    rintro e w5 ⟨rfl, b5⟩
    have V := Lib.hid (below_alloc (below_next' B.out b5) (.cells (whCells v) 96))
    clear b5
    go_wp2_with fail
    go_ret
    exact ⟨rfl, V.out⟩
set_option maxRecDepth 100000 in
set_option maxHeartbeats 1000000 in
theorem c7_isHalf (k : Int) (x : Ins) (w : World) : Calls Tryz.prog 89 #[.int .u8 k, iV x] w (Gives (.bool (zeroB x (k == 3))) w) := by
  cases h3 : (k == 3)
  rotate_left 1
  · skip
    by_cases z0 : x.op = 0
    rotate_left 1
    · rw [show zeroB x true = false by unfold zeroB; simp [z0]]
      go_enter Tryz.func89, Tryz.ntmps89
      go_wp2_with fail
      go_ret
      exact ⟨rfl, below_alloc (Below.refl _ _) _⟩
    by_cases z1 : x.dst = 0
    rotate_left 1
    · rw [show zeroB x true = false by unfold zeroB; simp [z0, z1]]
      go_enter Tryz.func89, Tryz.ntmps89
      go_wp2_with fail
      go_ret
      exact ⟨rfl, below_alloc (Below.refl _ _) _⟩
    by_cases z2 : x.src = 0
    rotate_left 1
    · rw [show zeroB x true = false by unfold zeroB; simp [z0, z1, z2]]
      go_enter Tryz.func89, Tryz.ntmps89
      go_wp2_with fail
      go_ret
      exact ⟨rfl, below_alloc (Below.refl _ _) _⟩
    by_cases z3 : x.off = 0
    rotate_left 1
    · rw [show zeroB x true = false by unfold zeroB; simp [z0, z1, z2, z3]]
      go_enter Tryz.func89, Tryz.ntmps89
      go_wp2_with fail
      go_ret
      exact ⟨rfl, below_alloc (Below.refl _ _) _⟩
    rw [show zeroB x true = true by unfold zeroB; simp [z0, z1, z2, z3]]
    go_enter Tryz.func89, Tryz.ntmps89
    go_wp2_with fail
    go_ret
    exact ⟨rfl, below_alloc (Below.refl _ _) _⟩
  · skip
    by_cases z0 : x.op = 0
    rotate_left 1
    · rw [show zeroB x false = false by unfold zeroB; simp [z0]]
      go_enter Tryz.func89, Tryz.ntmps89
      go_wp2_with fail
      go_ret
      exact ⟨rfl, below_alloc (Below.refl _ _) _⟩
    by_cases z1 : x.dst = 0
    rotate_left 1
    · rw [show zeroB x false = false by unfold zeroB; simp [z0, z1]]
      go_enter Tryz.func89, Tryz.ntmps89
      go_wp2_with fail
      go_ret
      exact ⟨rfl, below_alloc (Below.refl _ _) _⟩
    by_cases z2 : x.src = 0
    rotate_left 1
    · rw [show zeroB x false = false by unfold zeroB; simp [z0, z1, z2]]
      go_enter Tryz.func89, Tryz.ntmps89
      go_wp2_with fail
      go_ret
      exact ⟨rfl, below_alloc (Below.refl _ _) _⟩
    by_cases z3 : x.off = 0
    rotate_left 1
    · rw [show zeroB x false = false by unfold zeroB; simp [z0, z1, z2, z3]]
      go_enter Tryz.func89, Tryz.ntmps89
      go_wp2_with fail
      go_ret
      exact ⟨rfl, below_alloc (Below.refl _ _) _⟩
    by_cases z4 : x.imm = 0
    rotate_left 1
    · rw [show zeroB x false = false by unfold zeroB; simp [z0, z1, z2, z3, z4]]
      go_enter Tryz.func89, Tryz.ntmps89
      go_wp2_with fail
      go_ret
      exact ⟨rfl, below_alloc (Below.refl _ _) _⟩
    rw [show zeroB x false = true by unfold zeroB; simp [z0, z1, z2, z3, z4]]
    go_enter Tryz.func89, Tryz.ntmps89
    go_wp2_with fail
    go_ret
    exact ⟨rfl, below_alloc (Below.refl _ _) _⟩
set_option maxRecDepth 100000 in
set_option maxHeartbeats 1000000 in
theorem c7_Next (l : List Ins) (A : Option Addr) (c : Nat) (i : Int) (w : World) (hl : l.length ≤ 100000) (h : InsS w A l) : Calls Tryz.prog 63 #[.slice A l.length c, .int .i64 i] w (Gives (.int .i64 (nextOf l i)) w) := by
  have C := Lib.hid fun w => c7_isPlace l A c i w hl
  unfold nextOf
  by_cases hi : i < 0 ∨ (l.length : Int) ≤ i
  · rw [if_pos hi]
    have e : inL l i = false := by
      unfold inL
      rcases hi with h | h
      · rw [decide_eq_false (by omega)]; rfl
      · rw [decide_eq_false (p := i < (l.length : Int)) (by omega), Bool.and_false]
    rw [e] at C
    clear e h hi
    go_enter Tryz.func63, Tryz.ntmps63
    go_wp2_with fail
    refine (C.out _).mono ?_
    rintro e w5 ⟨rfl, b5⟩
    have V := Lib.hid b5
    clear b5
    go_wp2_with fail
    go_ret
    exact ⟨rfl, V.out⟩
  rw [if_neg hi]
  have e : inL l i = true := by
    unfold inL
    rw [decide_eq_true (by omega), decide_eq_true (by omega)]
    rfl
  rw [e] at C
  clear e
  obtain ⟨k, rfl⟩ : ∃ k : Nat, i = k := ⟨i.toNat, by omega⟩
  have hk : k < l.length := by omega
  rw [show ((k : Int)).toNat = k by omega]
  obtain ⟨g, o, rfl, hg, hc⟩ := h.at_ hk
  clear h hi
  unfold nxt
  generalize iAt l k = x at *
  have HC := Lib.hid hc
  clear hc
  have W := Lib.hid (c7_wide x)
  have hkk : (k : Int) < (l.length : Int) := by omega
  have hk0 : (0 : Int) ≤ k := by omega
  by_cases h24 : x.op = 24
  · rw [if_pos h24]
    rw [beq_iff_eq.mpr h24] at W
    clear h24
    go_enter Tryz.func63, Tryz.ntmps63
    go_wp2_with fail
    refine (C.out _).mono ?_
    rintro e w5 ⟨rfl, b5⟩
    have hg5 : g < w5.heap.size := Nat.lt_of_lt_of_le hg b5.size
    obtain ⟨c0, c1, c2, c3, c4⟩ := HC.out.after b5 hg
    have V := Lib.hid b5
    clear b5
    go_wp2_with fail
    refine (W.out _).mono ?_
    rintro e w6 ⟨rfl, b6⟩
    replace V := Lib.hid (below_next' V.out b6)
    clear b6 c0 c1 c2 c3 c4
    go_wp2_with fail
    go_ret
    exact ⟨by go_num, V.out⟩
  · rw [if_neg h24]
    rw [beq_false_of_ne h24] at W
    clear h24
    go_enter Tryz.func63, Tryz.ntmps63
    go_wp2_with fail
    refine (C.out _).mono ?_
    rintro e w5 ⟨rfl, b5⟩
    have hg5 : g < w5.heap.size := Nat.lt_of_lt_of_le hg b5.size
    obtain ⟨c0, c1, c2, c3, c4⟩ := HC.out.after b5 hg
    have V := Lib.hid b5
    clear b5
    go_wp2_with fail
    refine (W.out _).mono ?_
    rintro e w6 ⟨rfl, b6⟩
    replace V := Lib.hid (below_next' V.out b6)
    clear b6 c0 c1 c2 c3 c4
    go_wp2_with fail
    go_ret
    exact ⟨by go_num, V.out⟩
set_option maxRecDepth 100000 in
set_option maxHeartbeats 1000000 in
theorem c7_Target_in (l : List Ins) (A : Option Addr) (c : Nat) (k : Nat) (w : World) (hl : l.length ≤ 100000) (h : InsS w A l) (hk : k < l.length) (hx : (iAt l k).ok) :
    Calls Tryz.prog 91 #[.slice A l.length c, .int .i64 (k : Int)] w (Gives (.tuple #[.int .i64 (if jumpy (iAt l k) && inL l (toOf (iAt l k) k) then toOf (iAt l k) k else 0), .bool (jumpy (iAt l k) && inL l (toOf (iAt l k) k))]) w) := by
  have C1 : Hid (∀ w, Calls Tryz.prog 88 #[.slice A l.length c, .int .i64 (k : Int)] w (Gives (.bool true) w)) := Lib.hid fun w => by
    have := c7_isPlace l A c k w hl
    rwa [show inL l k = true by unfold inL; rw [decide_eq_true (by omega), decide_eq_true (by omega)]; rfl] at this
  have C2 := Lib.hid fun i w => c7_isPlace l A c i w hl
  have J := Lib.hid (c7_jumps _ hx)
  have D := Lib.hid (c7_far _ hx)
  have hr := toOf_rng hx k (by omega)
  have hf : -2147483648 ≤ farOf (iAt l k) ∧ farOf (iAt l k) ≤ 2147483647 := by
    obtain ⟨_, _, _, ⟨b1, b2⟩, b3, b4⟩ := hx
    unfold farOf
    split <;> omega
  obtain ⟨f1, f2⟩ := hf
  obtain ⟨g, o, rfl, hg, hc⟩ := h.at_ hk
  clear h hx hr
  unfold toOf
  generalize farOf (iAt l k) = f at *
  generalize jumpy (iAt l k) = j at *
  generalize iAt l k = x at *
  have HC := Lib.hid hc
  clear hc
  have hkk : (k : Int) < (l.length : Int) := by omega
  have hk0 : (0 : Int) ≤ k := by omega
  have HL := Lib.hid hl
  cases j
  · rw [Bool.false_and, if_neg Bool.false_ne_true]
    go_enter Tryz.func91, Tryz.ntmps91
    go_wp2_with fail
    refine (C1.out _).mono ?_
    rintro e w5 ⟨rfl, b5⟩
    have hg5 : g < w5.heap.size := Nat.lt_of_lt_of_le hg b5.size
    obtain ⟨c0, c1, c2, c3, c4⟩ := HC.out.after b5 hg
    have V := Lib.hid b5
    clear b5
    go_wp2_with fail
    refine (J.out _).mono ?_
    rintro e w6 ⟨rfl, b6⟩
    replace V := Lib.hid (below_next' V.out b6)
    clear b6 c0 c1 c2 c3 c4 hg5
    have hg6 : g < w6.heap.size := Nat.lt_of_lt_of_le hg V.out.size
    obtain ⟨c0, c1, c2, c3, c4⟩ := HC.out.after V.out hg
    go_wp2_with fail
    go_ret2
    exact ⟨rfl, V.out⟩
  rw [Bool.true_and, if_pos rfl]
  cases hi : inL l ((k : Int) + 1 + f)
  · rw [if_neg Bool.false_ne_true]
    go_enter Tryz.func91, Tryz.ntmps91
    go_wp2_with fail
    refine (C1.out _).mono ?_
    rintro e w5 ⟨rfl, b5⟩
    have hg5 : g < w5.heap.size := Nat.lt_of_lt_of_le hg b5.size
    obtain ⟨c0, c1, c2, c3, c4⟩ := HC.out.after b5 hg
    have V := Lib.hid b5
    clear b5
    go_wp2_with fail
    refine (J.out _).mono ?_
    rintro e w6 ⟨rfl, b6⟩
    replace V := Lib.hid (below_next' V.out b6)
    clear b6 c0 c1 c2 c3 c4 hg5
    have hg6 : g < w6.heap.size := Nat.lt_of_lt_of_le hg V.out.size
    obtain ⟨c0, c1, c2, c3, c4⟩ := HC.out.after V.out hg
    go_wp2_with fail
    refine (D.out _).mono ?_
    rintro e w7 ⟨rfl, b7⟩
    replace V := Lib.hid (below_next' V.out b7)
    clear b7 c0 c1 c2 c3 c4 hg6
    go_wp2_with fail
    refine (C2.out _ _).mono ?_
    rintro e w8 ⟨rfl, b8⟩
    replace V := Lib.hid (below_next' V.out b8)
    clear b8
    go_wp2_with fail
    go_ret2
    exact ⟨rfl, V.out⟩
  · rw [if_pos rfl]
    go_enter Tryz.func91, Tryz.ntmps91
    go_wp2_with fail
    refine (C1.out _).mono ?_
    rintro e w5 ⟨rfl, b5⟩
    have hg5 : g < w5.heap.size := Nat.lt_of_lt_of_le hg b5.size
    obtain ⟨c0, c1, c2, c3, c4⟩ := HC.out.after b5 hg
    have V := Lib.hid b5
    clear b5
    go_wp2_with fail
    refine (J.out _).mono ?_
    rintro e w6 ⟨rfl, b6⟩
    replace V := Lib.hid (below_next' V.out b6)
    clear b6 c0 c1 c2 c3 c4 hg5
    have hg6 : g < w6.heap.size := Nat.lt_of_lt_of_le hg V.out.size
    obtain ⟨c0, c1, c2, c3, c4⟩ := HC.out.after V.out hg
    go_wp2_with fail
    refine (D.out _).mono ?_
    rintro e w7 ⟨rfl, b7⟩
    replace V := Lib.hid (below_next' V.out b7)
    clear b7 c0 c1 c2 c3 c4 hg6
    go_wp2_with fail
    refine (C2.out _ _).mono ?_
    rintro e w8 ⟨rfl, b8⟩
    replace V := Lib.hid (below_next' V.out b8)
    clear b8
    go_wp2_with fail
    go_ret2
    exact ⟨rfl, V.out⟩
set_option maxRecDepth 100000 in
set_option maxHeartbeats 1000000 in
theorem c7_Target (l : List Ins) (A : Option Addr) (c : Nat) (i : Int) (w : World) (hl : l.length ≤ 100000) (h : InsS w A l) (hx : OkAll l) :
    Calls Tryz.prog 91 #[.slice A l.length c, .int .i64 i] w (Gives (.tuple #[.int .i64 (tgOf l i), .bool (tgOk l i)]) w) := by
  unfold tgOf tgOk
  have C := Lib.hid fun w => c7_isPlace l A c i w hl
  cases e : inL l i
  · rw [Bool.false_and, Bool.false_and, if_neg Bool.false_ne_true]
    rw [e] at C
    clear e h
    go_enter Tryz.func91, Tryz.ntmps91
    go_wp2_with fail
    refine (C.out _).mono ?_
    rintro e w5 ⟨rfl, b5⟩
    have V := Lib.hid b5
    clear b5
    go_wp2_with fail
    go_ret2
    exact ⟨rfl, V.out⟩
  · have hb : 0 ≤ i ∧ i < (l.length : Int) := by
      unfold inL at e
      simpa using e
    have ei : i = (i.toNat : Int) := by omega
    have hr := c7_Target_in l A c i.toNat w hl h (by omega) (hx _ (by omega))
    rw [Bool.true_and]
    rw [← ei] at hr
    exact hr
section
variable {w : World} {g : Nat} {S : MS} {H : Nat → Prop}
theorem sysX_blk (h : (sysX g S).R w H) : ∃ A : XA, A.ok S ∧ Blk g (xC A S).toArray 80 w ∧ XLies A S w ∧ S.ok := by
  obtain ⟨hok, A, hA, F1, F2, h1, ⟨F3, F4, h3, ⟨F5, F6, h5, h6, _⟩, _⟩, _⟩ := h
  exact ⟨A, hA, h1.1, h5.2 w (fun x _ => rfl), hok⟩
theorem sysX_ok (h : (sysX g S).R w H) : S.ok := h.1
theorem sysX_reg (h : (sysX g S).R w H) (i : Nat) (hi : i ≤ 10) : w.cell? ⟨g, 5 + i * 2, none⟩ = some (.int .u64 (rg S.r i).1) ∧ w.cell? ⟨g, 5 + i * 2 + 1, none⟩ = some (.bool (rg S.r i).2) := by
  obtain ⟨A, _, hb, _, hok⟩ := sysX_blk h
  exact xc_reg hb hok.n i (by omega)
end
set_option maxHeartbeats 1000000 in
theorem m11_read (w : World) (g : Nat) (S : MS) (H : Nat → Prop) (i : Nat) (h : (sysX g S).R w H) (hi : i ≤ 10) :
    Calls Tryz.prog 104 #[.pointer (some ⟨g, 0, none⟩), .int .u8 (i : Int)] w (Gives (.tuple #[.int .u64 (rd S i).1, .int .i64 (rd S i).2]) w) := by
  obtain ⟨c0, c1⟩ := sysX_reg h i hi
  unfold rd
  rw [Int.toNat_natCast]
  clear h
  generalize (rg S.r i).1 = n at *
  have i0 : (0 : Int) ≤ i := by omega
  have i1 : (i : Int) < 11 := by omega
  cases hs : (rg S.r i).2
  · rw [hs] at c1
    rw [if_neg Bool.false_ne_true]
    go_enter Tryz.func104, Tryz.ntmps104
    go_wp2_with fail
    go_ret2
    exact ⟨rfl, Below.refl _ _⟩
  · rw [hs] at c1
    rw [if_pos rfl]
    go_enter Tryz.func104, Tryz.ntmps104
    go_wp2_with fail
    go_ret2
    exact ⟨rfl, Below.refl _ _⟩
def Tn (A : Sys) (H : Nat → Prop) (w w' : World) : Prop := ∃ F', A.R w' F' ∧ Turn H w w' ∧ ∀ x, F' x → H x ∨ w.heap.size ≤ x
theorem Tn.refl {A : Sys} {H : Nat → Prop} {w w' : World} (h : A.R w H) (b : Below w.heap.size w w') : Tn A H w w' := ⟨H, A.after h b, Turn.of_below b, fun x hx => .inl hx⟩
theorem Tn.before {A : Sys} {H : Nat → Prop} {w0 w w' : World} (b : Below w0.heap.size w0 w) (h : Tn A H w w') : Tn A H w0 w' := by
  obtain ⟨F', h1, h2, h3⟩ := h
  exact ⟨F', h1, (Turn.of_below b).trans h2 (fun x hx => .inl hx), fun x hx => (h3 x hx).imp id (fun c => Nat.le_trans b.size c)⟩
theorem tnP_fst {X X' Y : Sys} {H : Nat → Prop} {w w' : World} (h : (sysP X Y).R w H) (K : ∀ F, X.R w F → (∀ x, F x → H x) → Tn X' F w w') : Tn (sysP X' Y) H w w' := by
  obtain ⟨F1, F2, h1, h2, h3, h4⟩ := h
  obtain ⟨F', k1, k2, k3⟩ := K F1 h1 (fun x hx => (h4 x).2 (.inl hx))
  refine ⟨fun x => F' x ∨ F2 x, ⟨F', F2, k1, Y.keep h2 (fun x hx => k2.block x (Y.lt h2 hx) (fun c => h3 x c hx)), fun x hx c => ?_, fun x => Iff.rfl⟩, k2.mono (fun x hx => .inl ((h4 x).2 (.inl hx))), fun x hx => ?_⟩
  · rcases k3 x hx with d | d
    · exact h3 x d c
    · have := Y.lt h2 c; omega
  · rcases hx with c | c
    · exact (k3 x c).imp (fun d => (h4 x).2 (.inl d)) id
    · exact .inl ((h4 x).2 (.inr c))
section
variable {w w' : World} {g : Nat} {S S' : MS} {H : Nat → Prop}
theorem sysX_blkT (h : (sysX g S).R w H) (hok : S'.ok) (e1 : S'.l = S.l) (e2 : S'.D = S.D) (e3 : S'.T = S.T) (e4 : S'.M = S.M) (e5 : S'.dr = S.dr) (e6 : S'.calls = S.calls)
    (hb : ∀ A : XA, Blk g (xC A S).toArray 80 w → Blk g (xC A S').toArray 80 w') (t : Turn (fun x => x = g) w w') : Tn (sysX g S') H w w' := by
  obtain ⟨_, A, hA, hp⟩ := h
  have ha : A.ok S' := ⟨by rw [e1]; exact hA.l, by rw [e2]; exact hA.d, by rw [e5]; exact hA.r, hA.c, by rw [e6]; exact hA.L⟩
  have hl : XLies A S' = XLies A S := by
    funext u
    exact propext ⟨fun x => ⟨by rw [← e1]; exact x.l, by rw [← e2]; exact x.d, by rw [← e5]; exact x.r, x.c⟩, fun x => ⟨by rw [e1]; exact x.l, by rw [e2]; exact x.d, by rw [e5]; exact x.r, x.c⟩⟩
  obtain ⟨F', k1, k2, k3⟩ := tnP_fst (X' := sysB g (xC A S').toArray 80) (w' := w') hp fun F hF hH => ⟨F, ⟨hb A hF.1, hF.2⟩, t.mono (fun x hx => .inl ((hF.2 x).2 hx)), fun x hx => .inl hx⟩
  refine ⟨F', ⟨hok, A, ha, ?_⟩, k2, k3⟩
  rw [e3, e4, e6, hl]
  exact k1
end
theorem xC_len (A : XA) (S : MS) (hn : S.r.length = 11) : (xC A S).length = 32 := by
  unfold xC
  rw [List.length_append, List.length_append, rC_len, hn]
  rfl
theorem xC_reg (A : XA) (S : MS) (hn : S.r.length = 11) (i : Nat) (hi : i < 11) (n : Int) (b : Bool) :
    ((xC A S).set (5 + i * 2) (.int .u64 n)).set (5 + i * 2 + 1) (.bool b) = xC A { S with r := S.r.set i (n, b) } := by
  have hl : (rC S.r).length = 22 := by rw [rC_len, hn]
  have h5 : (xH A S).length = 5 := rfl
  unfold xC
  rw [List.set_append_right _ _ (by rw [h5]; omega), List.set_append_right _ _ (by rw [h5]; omega), h5,
    List.set_append_left _ _ (by rw [hl]; omega), List.set_append_left _ _ (by rw [List.length_set, hl]; omega),
    show 5 + i * 2 - 5 = i * 2 by omega, show 5 + i * 2 + 1 - 5 = i * 2 + 1 by omega, rC_set _ _ (by omega)]
  rfl
theorem xC_tail (A : XA) (S : MS) (hn : S.r.length = 11) (j : Nat) (v : Value) : (xC A S).set (27 + j) v = xH A S ++ (rC S.r ++ (xT A S).set j v) := by
  have hl : (rC S.r).length = 22 := by rw [rC_len, hn]
  have h5 : (xH A S).length = 5 := rfl
  unfold xC
  rw [List.set_append_right _ _ (by rw [h5]; omega), h5, List.set_append_right _ _ (by rw [hl]; omega), hl, show 27 + j - 5 - 22 = j by omega]
theorem xC_at (A : XA) (S : MS) (hn : S.r.length = 11) (n : Nat) : (xC A S).set 27 (.int .i64 n) = xC A { S with at_ := n } := xC_tail A S hn 0 _
theorem xC_over (A : XA) (S : MS) (hn : S.r.length = 11) (b : Bool) : (xC A S).set 28 (.bool b) = xC A { S with over := b } := xC_tail A S hn 1 _
theorem xC_why (A : XA) (S : MS) (hn : S.r.length = 11) (n : Int) : (xC A S).set 29 (.int .i64 n) = xC A { S with why := n } := xC_tail A S hn 2 _
theorem xC_steps (A : XA) (S : MS) (hn : S.r.length = 11) (n : Nat) : (xC A S).set 30 (.int .i64 n) = xC A { S with steps := n } := xC_tail A S hn 3 _
theorem blk_list {g : Nat} {l : List Value} {t : TypeId} {w : World} (h : Blk g l.toArray t w) (k : Nat) (v : Value) : Blk g (l.set k v).toArray t (w.setCell ⟨g, k, none⟩ v) := by
  have := Blk.set h k v
  simpa using this
theorem turn_g (w : World) (g k : Nat) (v : Value) : Turn (fun x => x = g) w (w.setCell ⟨g, k, none⟩ v) := Turn.setCell (F := fun x => x = g) (Turn.refl _ w) (p := ⟨g, k, none⟩) (.inl rfl) v
theorem tup2 {a b c d : Int} (h1 : a = c) (h2 : b = d) : Ending.returned (.tuple #[.int .u64 a, .int .i64 b]) = .returned (.tuple #[.int .u64 c, .int .i64 d]) := by rw [h1, h2]
theorem reg_nat {n : Int} (h : 0 ≤ n ∧ n ≤ 10) : ∃ k : Nat, n = k ∧ k ≤ 10 := ⟨n.toNat, by omega, by omega⟩
theorem m11_readI (w : World) (g : Nat) (S : MS) (H : Nat → Prop) (i : Int) (h : (sysX g S).R w H) (hi : 0 ≤ i ∧ i ≤ 10) :
    Calls Tryz.prog 104 #[.pointer (some ⟨g, 0, none⟩), .int .u8 i] w (Gives (.tuple #[.int .u64 (rd S i).1, .int .i64 (rd S i).2]) w) := by
  obtain ⟨k, rfl, hk⟩ := reg_nat hi
  exact m11_read w g S H k h hk
set_option maxHeartbeats 1000000 in
theorem m11_second (w : World) (g : Nat) (S : MS) (H : Nat → Prop) (x : Ins) (v : Wh) (h : (sysX g S).R w H) (hs : 0 ≤ x.src ∧ x.src ≤ 10) (hx : x.ok) :
    Calls Tryz.prog 105 #[.pointer (some ⟨g, 0, none⟩), iV x, whV v] w (Gives (.tuple #[.int .u64 (mSec S x v).1, .int .i64 (mSec S x v).2]) w) := by
  have Q := Lib.hid (below_alloc (below_alloc (Below.refl w.heap.size w) (.cells (insCells x) 63)) (.cells (whCells v) 96))
  unfold mSec
  obtain ⟨k, hk, hk10⟩ := reg_nat hs
  have R := Lib.hid fun u (b : Below w.heap.size w u) => m11_read u g S H k ((sysX g S).after h b) hk10
  have hi := hx.2.2.2.2
  clear h hs hx
  obtain ⟨x0, x1, x2, x3, x4⟩ := x
  obtain ⟨v0, v1, v2, v3, v4, v5⟩ := v
  dsimp only at *
  subst hk
  cases v3
  · rw [if_neg Bool.false_ne_true]
    go_enter Tryz.func105, Tryz.ntmps105
    go_wp2_with fail
    go_ret2
    exact ⟨tup2 (by rw [IntKind.wrap_u64]) rfl, Q.out⟩
  · rw [if_pos rfl]
    go_enter Tryz.func105, Tryz.ntmps105
    go_wp2_with fail
    refine (R.out _ Q.out).mono ?_
    rintro e w1 ⟨rfl, b1⟩
    have B := Lib.hid (below_next' Q.out b1)
    clear b1
    go_wp2_with fail
    go_ret2
    exact ⟨rfl, B.out⟩
set_option maxHeartbeats 1000000 in
theorem m11_first (w : World) (g : Nat) (S : MS) (H : Nat → Prop) (x : Ins) (v : Wh) (h : (sysX g S).R w H) (hs : 0 ≤ x.dst ∧ x.dst ≤ 10) :
    Calls Tryz.prog 167 #[.pointer (some ⟨g, 0, none⟩), iV x, whV v] w (Gives (.tuple #[.int .u64 (mFst S x v).1, .int .i64 (mFst S x v).2]) w) := by
  have Q := Lib.hid (below_alloc (below_alloc (Below.refl w.heap.size w) (.cells (insCells x) 63)) (.cells (whCells v) 96))
  unfold mFst
  obtain ⟨k, hk, hk10⟩ := reg_nat hs
  have R := Lib.hid fun u (b : Below w.heap.size w u) => m11_read u g S H k ((sysX g S).after h b) hk10
  clear h hs
  obtain ⟨x0, x1, x2, x3, x4⟩ := x
  obtain ⟨v0, v1, v2, v3, v4, v5⟩ := v
  dsimp only at *
  subst hk
  cases hv : (v1 == 176)
  · rw [if_neg Bool.false_ne_true]
    go_enter Tryz.func167, Tryz.ntmps167
    go_wp2_with fail
    refine (R.out _ Q.out).mono ?_
    rintro e w1 ⟨rfl, b1⟩
    have B := Lib.hid (below_next' Q.out b1)
    clear b1
    go_wp2_with fail
    go_ret2
    exact ⟨rfl, B.out⟩
  · rw [if_pos rfl]
    go_enter Tryz.func167, Tryz.ntmps167
    go_wp2_with fail
    go_ret2
    exact ⟨rfl, Q.out⟩
theorem chk_len {l : List Ins} (h : (chk l).2 = 0) : l.length ≤ 100000 := by
  unfold chk at h
  split at h
  · cases h
  · omega
theorem m11_word (i : Int) (w : World) : Calls Tryz.prog 116 #[.int .i64 i] w (Gives (.int .u64 (wordI i)) w) := by
  have C := Lib.hid (c8_At 3 i w)
  go_enter Tryz.func116, Tryz.ntmps116
  go_wp2_with fail
  refine (C.out).mono ?_
  rintro e w1 ⟨rfl, b1⟩
  have B := Lib.hid b1
  clear b1
  go_wp2_with fail
  go_ret
  exact ⟨rfl, B.out⟩
theorem m11_Over (w : World) (g : Nat) (S : MS) (H : Nat → Prop) (h : (sysX g S).R w H) :
    Calls Tryz.prog 15 #[.pointer (some ⟨g, 0, none⟩)] w (Gives (.bool S.over) w) := by
  obtain ⟨A, _, hb, _, hok⟩ := sysX_blk h
  obtain ⟨-, c0, -⟩ := xc_tail hb hok.n
  clear hb
  go_enter Tryz.func15, Tryz.ntmps15
  go_wp2_with fail
  go_ret
  exact ⟨rfl, Below.refl _ _⟩
theorem m11_isNone (w : World) (g : Nat) (S : MS) (H : Nat → Prop) (h : (sysX g S).R w H) :
    Calls Tryz.prog 34 #[.pointer (some ⟨g, 0, none⟩)] w (Gives (.bool false) w) := by
  obtain ⟨A, _, hb, _, hok⟩ := sysX_blk h
  obtain ⟨c0, -⟩ := xc_head hb
  have hl := hok.at_.1
  have h0 : ((S.l.length : Int) == 0) = false := by rw [beq_eq_false_iff_ne]; omega
  clear hb hok h
  generalize S.l.length = n at *
  go_enter Tryz.func34, Tryz.ntmps34
  go_wp2_with fail
  go_ret
  exact ⟨rfl, Below.refl _ _⟩
set_option maxHeartbeats 1000000 in
theorem m11_target (w : World) (g : Nat) (S : MS) (H : Nat → Prop) (h : (sysX g S).R w H) :
    Calls Tryz.prog 66 #[.pointer (some ⟨g, 0, none⟩)] w (Gives (.int .i64 (tgOf S.l S.at_)) w) := by
  obtain ⟨A, hA, hb, hl, hok⟩ := sysX_blk h
  obtain ⟨c0, -⟩ := xc_head hb
  obtain ⟨c1, -⟩ := xc_tail hb hok.n
  have C := Lib.hid fun u (b : Below w.heap.size w u) => c7_Target S.l A.al A.cl S.at_ u (chk_len hok.chk) (hl.l.after b) hok.l
  clear hb hok h hA hl
  generalize tgOk S.l S.at_ = bk at *
  generalize tgOf S.l S.at_ = tg at *
  generalize S.l.length = n at *
  have HB : Below w.heap.size w w.drew := Below.drew (Below.refl _ _)
  have KK := Lib.hid (fun (wx : World) (hx : Below w.heap.size w wx) => And.intro (cell_on c0 hx) (cell_on c1 hx))
  generalize A.al = aa at *
  generalize A.cl = ac at *
  go_enter Tryz.func66, Tryz.ntmps66
  go_wp2_with fail
  clear c0 c1
  go_region_held3 (fun w' => w'.cell? ⟨g, 0, none⟩ = some (.slice aa n ac) ∧ w'.cell? ⟨g, 27, none⟩ = some (.int .i64 S.at_))
    (exact KK.out _ HB)
    (first | (go_at_call 91; refine (C.out _ HB).mono ?_; rintro e w3 ⟨rfl, b3⟩; replace HB := below_next' HB b3; clear b3))
  all_goals
    go_wp2_with fail
    go_ret
    exact ⟨rfl, HB⟩
end Go.Proofs.YtlbhffdpklbhfaaGreat
