/-
  The program's own answers of layer 7: where the next instruction begins, where one jumps to.
  Conditions: the numbers fit their kinds.
-/
import Derived.Test.YtplndcjmbgkcjaaCode5
namespace Go.Proofs.Ytplndcjmbgkcjaa
open Go.RowKit
set_option linter.unusedVariables false
set_option linter.unusedSimpArgs false

set_option maxRecDepth 100000 in
set_option maxHeartbeats 1000000 in
theorem c7_Next (l : List Ins) (A : Option Addr) (c : Nat) (i : Int) (w : World) (hl : l.length ≤ 100000) (h : InsS w A l) : Calls Try.prog 27 #[.slice A l.length c, .int .i64 i] w (Gives (.int .i64 (nextOf l i)) w) := by
  have C := Lib.hid fun w => c7_isPlace l A c i w hl
  unfold nextOf
  by_cases hi : i < 0 ∨ (l.length : Int) ≤ i
  · rw [if_pos hi]
    have e : inL l i = false := by
      unfold inL
      rcases hi with h | h
      · rw [decide_eq_false (by omega)]; rfl
      · rw [decide_eq_false (p := i < (l.length : Int)) (by omega), Bool.and_false]
    rw [e] at C
    clear e h hi
    go_enter Try.func27, Try.ntmps27
    go_wp2_with fail
    refine (C.out _).mono ?_
    rintro e w5 ⟨rfl, b5⟩
    have V := Lib.hid b5
    clear b5
    go_wp2_with fail
    go_ret
    exact ⟨rfl, V.out⟩
  rw [if_neg hi]
  have e : inL l i = true := by
    unfold inL
    rw [decide_eq_true (by omega), decide_eq_true (by omega)]
    rfl
  rw [e] at C
  clear e
  obtain ⟨k, rfl⟩ : ∃ k : Nat, i = k := ⟨i.toNat, by omega⟩
  have hk : k < l.length := by omega
  rw [show ((k : Int)).toNat = k by omega]
  obtain ⟨g, o, rfl, hg, hc⟩ := h.at_ hk
  clear h hi
  unfold nxt
  generalize iAt l k = x at *
  have HC := Lib.hid hc
  clear hc
  have W := Lib.hid (c7_wide x)
  have hkk : (k : Int) < (l.length : Int) := by omega
  have hk0 : (0 : Int) ≤ k := by omega
  by_cases h24 : x.op = 24
  · rw [if_pos h24]
    rw [beq_iff_eq.mpr h24] at W
    clear h24
    go_enter Try.func27, Try.ntmps27
    go_wp2_with fail
    refine (C.out _).mono ?_
    rintro e w5 ⟨rfl, b5⟩
    have hg5 : g < w5.heap.size := Nat.lt_of_lt_of_le hg b5.size
    obtain ⟨c0, c1, c2, c3, c4⟩ := HC.out.after b5 hg
    have V := Lib.hid b5
    clear b5
    go_wp2_with fail
    refine (W.out _).mono ?_
    rintro e w6 ⟨rfl, b6⟩
    replace V := Lib.hid (below_next' V.out b6)
    clear b6 c0 c1 c2 c3 c4
    go_wp2_with fail
    go_ret
    exact ⟨by go_num, V.out⟩
  · rw [if_neg h24]
    rw [beq_false_of_ne h24] at W
    clear h24
    go_enter Try.func27, Try.ntmps27
    go_wp2_with fail
    refine (C.out _).mono ?_
    rintro e w5 ⟨rfl, b5⟩
    have hg5 : g < w5.heap.size := Nat.lt_of_lt_of_le hg b5.size
    obtain ⟨c0, c1, c2, c3, c4⟩ := HC.out.after b5 hg
    have V := Lib.hid b5
    clear b5
    go_wp2_with fail
    refine (W.out _).mono ?_
    rintro e w6 ⟨rfl, b6⟩
    replace V := Lib.hid (below_next' V.out b6)
    clear b6 c0 c1 c2 c3 c4
    go_wp2_with fail
    go_ret
    exact ⟨by go_num, V.out⟩

set_option maxRecDepth 100000 in
set_option maxHeartbeats 1000000 in
theorem c7_Target_in (l : List Ins) (A : Option Addr) (c : Nat) (k : Nat) (w : World) (hl : l.length ≤ 100000) (h : InsS w A l) (hk : k < l.length) (hx : (iAt l k).ok) :
    Calls Try.prog 25 #[.slice A l.length c, .int .i64 (k : Int)] w (Gives (.tuple #[.int .i64 (if jumpy (iAt l k) && inL l (toOf (iAt l k) k) then toOf (iAt l k) k else 0), .bool (jumpy (iAt l k) && inL l (toOf (iAt l k) k))]) w) := by
  have C1 : Hid (∀ w, Calls Try.prog 44 #[.slice A l.length c, .int .i64 (k : Int)] w (Gives (.bool true) w)) := Lib.hid fun w => by
    have := c7_isPlace l A c k w hl
    rwa [show inL l k = true by unfold inL; rw [decide_eq_true (by omega), decide_eq_true (by omega)]; rfl] at this
  have C2 := Lib.hid fun i w => c7_isPlace l A c i w hl
  have J := Lib.hid (c7_jumps _ hx)
  have D := Lib.hid (c7_far _ hx)
  have hr := toOf_rng hx k (by omega)
  have hf : -2147483648 ≤ farOf (iAt l k) ∧ farOf (iAt l k) ≤ 2147483647 := by
    obtain ⟨_, _, _, ⟨b1, b2⟩, b3, b4⟩ := hx
    unfold farOf
    split <;> omega
  obtain ⟨f1, f2⟩ := hf
  obtain ⟨g, o, rfl, hg, hc⟩ := h.at_ hk
  clear h hx hr
  unfold toOf
  generalize farOf (iAt l k) = f at *
  generalize jumpy (iAt l k) = j at *
  generalize iAt l k = x at *
  have HC := Lib.hid hc
  clear hc
  have hkk : (k : Int) < (l.length : Int) := by omega
  have hk0 : (0 : Int) ≤ k := by omega
  have HL := Lib.hid hl
  cases j
  · rw [Bool.false_and, if_neg Bool.false_ne_true]
    go_enter Try.func25, Try.ntmps25
    go_wp2_with fail
    refine (C1.out _).mono ?_
    rintro e w5 ⟨rfl, b5⟩
    have hg5 : g < w5.heap.size := Nat.lt_of_lt_of_le hg b5.size
    obtain ⟨c0, c1, c2, c3, c4⟩ := HC.out.after b5 hg
    have V := Lib.hid b5
    clear b5
    go_wp2_with fail
    refine (J.out _).mono ?_
    rintro e w6 ⟨rfl, b6⟩
    replace V := Lib.hid (below_next' V.out b6)
    clear b6 c0 c1 c2 c3 c4 hg5
    have hg6 : g < w6.heap.size := Nat.lt_of_lt_of_le hg V.out.size
    obtain ⟨c0, c1, c2, c3, c4⟩ := HC.out.after V.out hg
    go_wp2_with fail
    go_ret2
    exact ⟨rfl, V.out⟩
  rw [Bool.true_and, if_pos rfl]
  cases hi : inL l ((k : Int) + 1 + f)
  · rw [if_neg Bool.false_ne_true]
    go_enter Try.func25, Try.ntmps25
    go_wp2_with fail
    refine (C1.out _).mono ?_
    rintro e w5 ⟨rfl, b5⟩
    have hg5 : g < w5.heap.size := Nat.lt_of_lt_of_le hg b5.size
    obtain ⟨c0, c1, c2, c3, c4⟩ := HC.out.after b5 hg
    have V := Lib.hid b5
    clear b5
    go_wp2_with fail
    refine (J.out _).mono ?_
    rintro e w6 ⟨rfl, b6⟩
    replace V := Lib.hid (below_next' V.out b6)
    clear b6 c0 c1 c2 c3 c4 hg5
    have hg6 : g < w6.heap.size := Nat.lt_of_lt_of_le hg V.out.size
    obtain ⟨c0, c1, c2, c3, c4⟩ := HC.out.after V.out hg
    go_wp2_with fail
    refine (D.out _).mono ?_
    rintro e w7 ⟨rfl, b7⟩
    replace V := Lib.hid (below_next' V.out b7)
    clear b7 c0 c1 c2 c3 c4 hg6
    go_wp2_with fail
    refine (C2.out _ _).mono ?_
    rintro e w8 ⟨rfl, b8⟩
    replace V := Lib.hid (below_next' V.out b8)
    clear b8
    go_wp2_with fail
    go_ret2
    exact ⟨rfl, V.out⟩
  · rw [if_pos rfl]
    go_enter Try.func25, Try.ntmps25
    go_wp2_with fail
    refine (C1.out _).mono ?_
    rintro e w5 ⟨rfl, b5⟩
    have hg5 : g < w5.heap.size := Nat.lt_of_lt_of_le hg b5.size
    obtain ⟨c0, c1, c2, c3, c4⟩ := HC.out.after b5 hg
    have V := Lib.hid b5
    clear b5
    go_wp2_with fail
    refine (J.out _).mono ?_
    rintro e w6 ⟨rfl, b6⟩
    replace V := Lib.hid (below_next' V.out b6)
    clear b6 c0 c1 c2 c3 c4 hg5
    have hg6 : g < w6.heap.size := Nat.lt_of_lt_of_le hg V.out.size
    obtain ⟨c0, c1, c2, c3, c4⟩ := HC.out.after V.out hg
    go_wp2_with fail
    refine (D.out _).mono ?_
    rintro e w7 ⟨rfl, b7⟩
    replace V := Lib.hid (below_next' V.out b7)
    clear b7 c0 c1 c2 c3 c4 hg6
    go_wp2_with fail
    refine (C2.out _ _).mono ?_
    rintro e w8 ⟨rfl, b8⟩
    replace V := Lib.hid (below_next' V.out b8)
    clear b8
    go_wp2_with fail
    go_ret2
    exact ⟨rfl, V.out⟩

set_option maxRecDepth 100000 in
set_option maxHeartbeats 1000000 in
theorem c7_Target (l : List Ins) (A : Option Addr) (c : Nat) (i : Int) (w : World) (hl : l.length ≤ 100000) (h : InsS w A l) (hx : OkAll l) :
    Calls Try.prog 25 #[.slice A l.length c, .int .i64 i] w (Gives (.tuple #[.int .i64 (tgOf l i), .bool (tgOk l i)]) w) := by
  unfold tgOf tgOk
  have C := Lib.hid fun w => c7_isPlace l A c i w hl
  cases e : inL l i
  · rw [Bool.false_and, Bool.false_and, if_neg Bool.false_ne_true]
    rw [e] at C
    clear e h
    go_enter Try.func25, Try.ntmps25
    go_wp2_with fail
    refine (C.out _).mono ?_
    rintro e w5 ⟨rfl, b5⟩
    have V := Lib.hid b5
    clear b5
    go_wp2_with fail
    go_ret2
    exact ⟨rfl, V.out⟩
  · have hb : 0 ≤ i ∧ i < (l.length : Int) := by
      unfold inL at e
      simpa using e
    have ei : i = (i.toNat : Int) := by omega
    have hr := c7_Target_in l A c i.toNat w hl h (by omega) (hx _ (by omega))
    rw [Bool.true_and]
    rw [← ei] at hr
    exact hr

end Go.Proofs.Ytplndcjmbgkcjaa
