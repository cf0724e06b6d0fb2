/-
  The document's own answers of layer 7: where the next instruction begins, where one jumps to, and the other half.
  Conditions: the numbers fit their kinds.
-/
import Derived.Test.YtplndcjmbgkcjaaRef07g
import Derived.Test.YtplndcjmbgkcjaaCodeHalf
namespace Go.Proofs.Ytplndcjmbgkcjaa
open Go.RowKit
set_option linter.unusedVariables false

set_option maxHeartbeats 4000000 in
theorem r7_Next_in (l : List Ins) (A : Option Addr) (c k : Nat) (w : World) (hl : l.length ≤ 100000) (h : InsS w A l) (hk : k < l.length) :
    Calls Try.prog 28 #[.slice A l.length c, .int .i64 (k : Int)] w (Gives (.int .i64 (nxt l k : Nat)) w) := by
  obtain ⟨g, o, rfl, hg, c0, c1, c2, c3, c4⟩ := h.at_ hk
  unfold nxt
  generalize iAt l k = x at *
  by_cases h24 : x.op = 24
  · rw [if_pos h24]
    have t : (x.op == 24) = true := by rw [h24]; rfl
    clear h24
    go_enter Try.func28, Try.ntmps28
    go_wp2_with fail
    go_ret
    exact ⟨by go_num, Below.refl _ _⟩
  · rw [if_neg h24]
    have t : (x.op == 24) = false := beq_false_of_ne h24
    clear h24
    go_enter Try.func28, Try.ntmps28
    go_wp2_with fail
    go_ret
    exact ⟨by go_num, Below.refl _ _⟩

set_option maxHeartbeats 4000000 in
theorem r7_Next_out (l : List Ins) (A : Option Addr) (c : Nat) (i : Int) (w : World) (hl : l.length ≤ 100000) (hi : i < 0 ∨ (l.length : Int) ≤ i) :
    Calls Try.prog 28 #[.slice A l.length c, .int .i64 i] w (Gives (.int .i64 (-1)) w) := by
  by_cases h0 : i < 0
  · go_enter Try.func28, Try.ntmps28
    go_wp2_with fail
    go_ret
    exact ⟨rfl, Below.refl _ _⟩
  · have h1 : (l.length : Int) ≤ i := by omega
    clear hi
    go_enter Try.func28, Try.ntmps28
    go_wp2_with fail
    go_ret
    exact ⟨rfl, Below.refl _ _⟩

theorem r7_Next (l : List Ins) (A : Option Addr) (c : Nat) (i : Int) (w : World) (hl : l.length ≤ 100000) (h : InsS w A l) :
    Calls Try.prog 28 #[.slice A l.length c, .int .i64 i] w (Gives (.int .i64 (nextOf l i)) w) := by
  unfold nextOf
  by_cases hi : i < 0 ∨ (l.length : Int) ≤ i
  · rw [if_pos hi]
    exact r7_Next_out l A c i w hl hi
  · rw [if_neg hi]
    have e : i = (i.toNat : Int) := by omega
    have hr := r7_Next_in l A c i.toNat w hl h (by omega)
    rw [← e] at hr
    exact hr

set_option maxHeartbeats 4000000 in
theorem r7_to (l : List Ins) (A : Option Addr) (c k : Nat) (w : World) (hl : l.length ≤ 100000) (h : InsS w A l) (hk : k < l.length) (hx : (iAt l k).ok) :
    Calls Try.prog 39 #[.slice A l.length c, .int .i64 (k : Int)] w (Gives (.tuple #[.int .i64 (toOf (iAt l k) k), .bool (jumpy (iAt l k))]) w) := by
  obtain ⟨g, o, rfl, hg, hc⟩ := h.at_ hk
  clear h
  unfold toOf jumpy
  generalize iAt l k = x at *
  have HC := Lib.hid hc
  obtain ⟨c0, c1, c2, c3, c4⟩ := hc
  obtain ⟨_, _, _, ⟨b1, b2⟩, b3, b4⟩ := id hx
  have C := Lib.hid (r7_What x hx)
  have hv : wOk x = false → (wOf x).kind = 0 := fun h => by rw [wOf_no h]; rfl
  generalize wOf x = v at *
  generalize wOk x = ok at *
  clear hx
  cases ok
  · have e : (v.kind == 9 || v.kind == 10) = false := by rw [hv rfl]; rfl
    rw [e, if_neg Bool.false_ne_true]
    clear hv e
    go_enter Try.func39, Try.ntmps39
    go_wp2_with fail
    refine (C.out _).mono ?_
    rintro e w5 ⟨rfl, b5⟩
    have hg5 : g < w5.heap.size := Nat.lt_of_lt_of_le hg b5.size
    have V := Lib.hid (below_alloc b5 (.cells (whCells v) 26))
    obtain ⟨c0, c1, c2, c3, c4⟩ := HC.out.after b5 hg
    clear b5
    go_wp2_with fail
    go_ret2
    exact ⟨rfl, V.out⟩
  clear hv
  rcases or_ways (v.kind == 9) (v.kind == 10) with h9 | ⟨h9, h10⟩ | ⟨h9, h10⟩
  · have n9 := bne_of h9
    have e : (v.kind == 9 || v.kind == 10) = true := by simp [h9]
    rw [e, if_pos rfl]
    unfold farOf
    clear e h9
    cases h6 : (x.op == 6)
    · rw [if_neg Bool.false_ne_true]
      go_enter Try.func39, Try.ntmps39
      go_wp2_with fail
      refine (C.out _).mono ?_
      rintro e w5 ⟨rfl, b5⟩
      have hg5 : g < w5.heap.size := Nat.lt_of_lt_of_le hg b5.size
      have V := Lib.hid (below_alloc b5 (.cells (whCells v) 26))
      obtain ⟨c0, c1, c2, c3, c4⟩ := HC.out.after b5 hg
      clear b5
      go_wp2_with fail
      go_ret2
      exact ⟨rfl, V.out⟩
    · rw [if_pos rfl]
      go_enter Try.func39, Try.ntmps39
      go_wp2_with fail
      refine (C.out _).mono ?_
      rintro e w5 ⟨rfl, b5⟩
      have hg5 : g < w5.heap.size := Nat.lt_of_lt_of_le hg b5.size
      have V := Lib.hid (below_alloc b5 (.cells (whCells v) 26))
      obtain ⟨c0, c1, c2, c3, c4⟩ := HC.out.after b5 hg
      clear b5
      go_wp2_with fail
      go_ret2
      exact ⟨rfl, V.out⟩
  · have n9 := bne_of h9
    have n10 := bne_of h10
    have e : (v.kind == 9 || v.kind == 10) = true := by simp [h9, h10]
    rw [e, if_pos rfl]
    unfold farOf
    clear e h9 h10
    cases h6 : (x.op == 6)
    · rw [if_neg Bool.false_ne_true]
      go_enter Try.func39, Try.ntmps39
      go_wp2_with fail
      refine (C.out _).mono ?_
      rintro e w5 ⟨rfl, b5⟩
      have hg5 : g < w5.heap.size := Nat.lt_of_lt_of_le hg b5.size
      have V := Lib.hid (below_alloc b5 (.cells (whCells v) 26))
      obtain ⟨c0, c1, c2, c3, c4⟩ := HC.out.after b5 hg
      clear b5
      go_wp2_with fail
      go_ret2
      exact ⟨rfl, V.out⟩
    · rw [if_pos rfl]
      go_enter Try.func39, Try.ntmps39
      go_wp2_with fail
      refine (C.out _).mono ?_
      rintro e w5 ⟨rfl, b5⟩
      have hg5 : g < w5.heap.size := Nat.lt_of_lt_of_le hg b5.size
      have V := Lib.hid (below_alloc b5 (.cells (whCells v) 26))
      obtain ⟨c0, c1, c2, c3, c4⟩ := HC.out.after b5 hg
      clear b5
      go_wp2_with fail
      go_ret2
      exact ⟨rfl, V.out⟩
  · have n9 := bne_of h9
    have n10 := bne_of h10
    have e : (v.kind == 9 || v.kind == 10) = false := by simp [h9, h10]
    rw [e, if_neg Bool.false_ne_true]
    clear e h9 h10
    go_enter Try.func39, Try.ntmps39
    go_wp2_with fail
    refine (C.out _).mono ?_
    rintro e w5 ⟨rfl, b5⟩
    have hg5 : g < w5.heap.size := Nat.lt_of_lt_of_le hg b5.size
    have V := Lib.hid (below_alloc b5 (.cells (whCells v) 26))
    obtain ⟨c0, c1, c2, c3, c4⟩ := HC.out.after b5 hg
    clear b5
    go_wp2_with fail
    go_ret2
    exact ⟨rfl, V.out⟩

theorem toOf_rng {x : Ins} (hx : x.ok) (k : Nat) (hk : k ≤ 100000) : -2147500000 ≤ toOf x k ∧ toOf x k ≤ 2147600000 := by
  obtain ⟨_, _, _, ⟨b1, b2⟩, b3, b4⟩ := hx
  unfold toOf farOf
  split
  · split <;> omega
  · omega

set_option maxHeartbeats 4000000 in
theorem r7_Target_in (l : List Ins) (A : Option Addr) (c k : Nat) (w : World) (hl : l.length ≤ 100000) (h : InsS w A l) (hk : k < l.length) (hx : (iAt l k).ok) :
    Calls Try.prog 26 #[.slice A l.length c, .int .i64 (k : Int)] w (Gives (.tuple #[.int .i64 (if jumpy (iAt l k) && inL l (toOf (iAt l k) k) then toOf (iAt l k) k else 0), .bool (jumpy (iAt l k) && inL l (toOf (iAt l k) k))]) w) := by
  have C := Lib.hid fun w h => r7_to l A c k w hl h hk hx
  have hr := toOf_rng hx k (by omega)
  unfold inL
  generalize toOf (iAt l k) k = t at *
  generalize jumpy (iAt l k) = j at *
  clear hx
  have HI := Lib.hid h
  clear h
  cases j
  · rw [Bool.false_and, if_neg Bool.false_ne_true]
    go_enter Try.func26, Try.ntmps26
    go_wp2_with fail
    refine (C.out _ HI.out).mono ?_
    rintro e w5 ⟨rfl, b5⟩
    have BB := Lib.hid b5
    clear b5
    go_wp2_with fail
    go_ret2
    exact ⟨rfl, BB.out⟩
  by_cases t0 : 0 ≤ t
  rotate_left 1
  · rw [decide_eq_false t0, Bool.false_and, Bool.and_false, if_neg Bool.false_ne_true]
    go_enter Try.func26, Try.ntmps26
    go_wp2_with fail
    refine (C.out _ HI.out).mono ?_
    rintro e w5 ⟨rfl, b5⟩
    have BB := Lib.hid b5
    clear b5
    go_wp2_with fail
    go_ret2
    exact ⟨rfl, BB.out⟩
  by_cases t1 : t < (l.length : Int)
  · rw [decide_eq_true t0, decide_eq_true t1, Bool.and_self, Bool.and_self, if_pos rfl]
    go_enter Try.func26, Try.ntmps26
    go_wp2_with fail
    refine (C.out _ HI.out).mono ?_
    rintro e w5 ⟨rfl, b5⟩
    have BB := Lib.hid b5
    clear b5
    go_wp2_with fail
    go_ret2
    exact ⟨rfl, BB.out⟩
  · rw [decide_eq_true t0, decide_eq_false t1, Bool.and_false, Bool.and_false, if_neg Bool.false_ne_true]
    go_enter Try.func26, Try.ntmps26
    go_wp2_with fail
    refine (C.out _ HI.out).mono ?_
    rintro e w5 ⟨rfl, b5⟩
    have BB := Lib.hid b5
    clear b5
    go_wp2_with fail
    go_ret2
    exact ⟨rfl, BB.out⟩

set_option maxHeartbeats 4000000 in
theorem r7_Target_out (l : List Ins) (A : Option Addr) (c : Nat) (i : Int) (w : World) (hl : l.length ≤ 100000) (hi : i < 0 ∨ (l.length : Int) ≤ i) :
    Calls Try.prog 26 #[.slice A l.length c, .int .i64 i] w (Gives (.tuple #[.int .i64 0, .bool false]) w) := by
  by_cases h0 : i < 0
  · go_enter Try.func26, Try.ntmps26
    go_wp2_with fail
    go_ret2
    exact ⟨rfl, Below.refl _ _⟩
  · have h1 : (l.length : Int) ≤ i := by omega
    clear hi
    go_enter Try.func26, Try.ntmps26
    go_wp2_with fail
    go_ret2
    exact ⟨rfl, Below.refl _ _⟩

theorem r7_Target (l : List Ins) (A : Option Addr) (c : Nat) (i : Int) (w : World) (hl : l.length ≤ 100000) (h : InsS w A l) (hx : OkAll l) :
    Calls Try.prog 26 #[.slice A l.length c, .int .i64 i] w (Gives (.tuple #[.int .i64 (tgOf l i), .bool (tgOk l i)]) w) := by
  unfold tgOf tgOk
  by_cases hi : i < 0 ∨ (l.length : Int) ≤ i
  · have e : inL l i = false := by
      unfold inL
      rcases hi with h | h
      · rw [decide_eq_false (by omega)]; rfl
      · rw [decide_eq_false (p := i < (l.length : Int)) (by omega), Bool.and_false]
    rw [e, Bool.false_and, Bool.false_and, if_neg Bool.false_ne_true]
    exact r7_Target_out l A c i w hl hi
  · have e : inL l i = true := by
      unfold inL
      rw [decide_eq_true (by omega), decide_eq_true (by omega)]
      rfl
    have ei : i = (i.toNat : Int) := by omega
    have hr := r7_Target_in l A c i.toNat w hl h (by omega) (hx _ (by omega))
    rw [e, Bool.true_and]
    rw [← ei] at hr
    exact hr

set_option maxHeartbeats 4000000 in
theorem r7_half (l : List Ins) (A : Option Addr) (c k : Nat) (v : Wh) (w : World) (hl : l.length ≤ 100000) (h : InsS w A l) (hk : k < l.length) :
    Calls Try.prog 38 #[.slice A l.length c, .int .i64 (k : Int), whV v] w (Gives (.bool (hfB l k v.kind)) w) := by
  have P := Lib.hid (below_alloc (Below.refl w.heap.size w) (.cells (whCells v) 26))
  unfold hfB
  rcases or_ways (v.kind == 3) (v.kind == 4) with h3 | ⟨h3, h4⟩ | ⟨h3, h4⟩
  rotate_left 2
  · have n3 := bne_of h3
    have n4 := bne_of h4
    rw [h3, h4, Bool.or_self, if_neg Bool.false_ne_true]
    go_enter Try.func38, Try.ntmps38
    go_wp2_with fail
    go_ret
    exact ⟨rfl, P.out⟩
  · have n3 := bne_of h3
    rw [h3, Bool.true_or, if_pos rfl]
    by_cases h1 : k + 1 < l.length
    · obtain ⟨g, o, rfl, hg, c0, c1, c2, c3, c4⟩ := h.at_ h1
      clear h
      have h1' : (k : Int) + 1 < (l.length : Int) := by omega
      rw [decide_eq_true h1, Bool.true_and]
      generalize iAt l (k + 1) = y at *
      by_cases z0 : y.op = 0
      rotate_left 1
      · rw [show zeroB y true = false by unfold zeroB; simp [z0]]
        go_enter Try.func38, Try.ntmps38
        go_wp2_with fail
        go_ret
        exact ⟨rfl, below_alloc P.out _⟩
      by_cases z1 : y.dst = 0
      rotate_left 1
      · rw [show zeroB y true = false by unfold zeroB; simp [z0, z1]]
        go_enter Try.func38, Try.ntmps38
        go_wp2_with fail
        go_ret
        exact ⟨rfl, below_alloc P.out _⟩
      by_cases z2 : y.src = 0
      rotate_left 1
      · rw [show zeroB y true = false by unfold zeroB; simp [z0, z1, z2]]
        go_enter Try.func38, Try.ntmps38
        go_wp2_with fail
        go_ret
        exact ⟨rfl, below_alloc P.out _⟩
      by_cases z3 : y.off = 0
      rotate_left 1
      · rw [show zeroB y true = false by unfold zeroB; simp [z0, z1, z2, z3]]
        go_enter Try.func38, Try.ntmps38
        go_wp2_with fail
        go_ret
        exact ⟨rfl, below_alloc P.out _⟩
      rw [show zeroB y true = true by unfold zeroB; simp [z0, z1, z2, z3]]
      go_enter Try.func38, Try.ntmps38
      go_wp2_with fail
      go_ret
      exact ⟨rfl, below_alloc P.out _⟩
    · clear h
      have h1' : (l.length : Int) ≤ (k : Int) + 1 := by omega
      rw [decide_eq_false h1, Bool.false_and]
      go_enter Try.func38, Try.ntmps38
      go_wp2_with fail
      go_ret
      exact ⟨rfl, P.out⟩
  · have n3 := bne_of h3
    have n4 := bne_of h4
    rw [h3, h4, Bool.false_or, if_pos rfl]
    by_cases h1 : k + 1 < l.length
    · obtain ⟨g, o, rfl, hg, c0, c1, c2, c3, c4⟩ := h.at_ h1
      clear h
      have h1' : (k : Int) + 1 < (l.length : Int) := by omega
      rw [decide_eq_true h1, Bool.true_and]
      generalize iAt l (k + 1) = y at *
      by_cases z0 : y.op = 0
      rotate_left 1
      · rw [show zeroB y false = false by unfold zeroB; simp [z0]]
        go_enter Try.func38, Try.ntmps38
        go_wp2_with fail
        go_ret
        exact ⟨rfl, below_alloc P.out _⟩
      by_cases z1 : y.dst = 0
      rotate_left 1
      · rw [show zeroB y false = false by unfold zeroB; simp [z0, z1]]
        go_enter Try.func38, Try.ntmps38
        go_wp2_with fail
        go_ret
        exact ⟨rfl, below_alloc P.out _⟩
      by_cases z2 : y.src = 0
      rotate_left 1
      · rw [show zeroB y false = false by unfold zeroB; simp [z0, z1, z2]]
        go_enter Try.func38, Try.ntmps38
        go_wp2_with fail
        go_ret
        exact ⟨rfl, below_alloc P.out _⟩
      by_cases z3 : y.off = 0
      rotate_left 1
      · rw [show zeroB y false = false by unfold zeroB; simp [z0, z1, z2, z3]]
        go_enter Try.func38, Try.ntmps38
        go_wp2_with fail
        go_ret
        exact ⟨rfl, below_alloc P.out _⟩
      by_cases z4 : y.imm = 0
      rotate_left 1
      · rw [show zeroB y false = false by unfold zeroB; simp [z0, z1, z2, z3, z4]]
        go_enter Try.func38, Try.ntmps38
        go_wp2_with fail
        go_ret
        exact ⟨rfl, below_alloc P.out _⟩
      rw [show zeroB y false = true by unfold zeroB; simp [z0, z1, z2, z3, z4]]
      go_enter Try.func38, Try.ntmps38
      go_wp2_with fail
      go_ret
      exact ⟨rfl, below_alloc P.out _⟩
    · clear h
      have h1' : (l.length : Int) ≤ (k : Int) + 1 := by omega
      rw [decide_eq_false h1, Bool.false_and]
      go_enter Try.func38, Try.ntmps38
      go_wp2_with fail
      go_ret
      exact ⟨rfl, P.out⟩

end Go.Proofs.Ytplndcjmbgkcjaa
