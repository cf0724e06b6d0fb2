/-
  Layer 9's own Look.
  Conditions: the numbers fit their kinds; few maps.
-/
import Derived.Test.YtempkpfcjonaaaaRef09a
namespace Go.Proofs.Ytempkpfcjonaaaa
open Go.RowKit
set_option maxRecDepth 100000
set_option linter.unusedVariables false
set_option linter.unusedSimpArgs false

theorem find_mem {L : List TK} {key : List Int} {s : Nat} (h : tFind L key = some s) : ∃ x ∈ L, x.k = key ∧ x.s = s := by
  unfold tFind at h
  rw [Option.map_eq_some_iff] at h
  obtain ⟨x, hx, rfl⟩ := h
  exact ⟨x, List.mem_of_find?_eq_some hx, by simpa using List.find?_some hx, rfl⟩
theorem may_yes {T : TT} {i : Int} {key : List Int} (h : tMay T i key = true) : 0 ≤ i ∧ i < T.length ∧ (key.length : Int) = (mt T i.toNat).d.key := by
  unfold tMay at h
  simp only [Bool.and_eq_true, decide_eq_true_eq, beq_iff_eq] at h
  exact ⟨h.1.1, h.1.2, h.2⟩
theorem find_small {T : TT} (hok : TOk T) {i : Nat} (hi : i < T.length) {key : List Int} {s : Nat} (h : tFind (mt T i).L key = some s) : s < 1024 := by
  obtain ⟨x, hx, _, rfl⟩ := find_mem h
  have := (hok i hi).keys x hx
  have := (hok i hi).made
  omega

set_option maxHeartbeats 2000000 in
theorem r9_Look (w : World) (gt g2 : Nat) (T : TT) (F : Nat → Prop) (i : Int) (key : List Int) (B : Option Addr) (n d : Nat) (h : RepS w gt g2 T F) (hT : T.length ≤ 1000) (hb : BytS w B key) (hob : OkB key) (hn : key.length = n) (hnd : n ≤ d) :
    Calls Try.prog 35 #[.pointer (some ⟨gt, 0, none⟩), .int .i64 i, .slice B n d] w (Gives (.tuple #[.int .u64 (tLook T i key).1, .int .i64 (tLook T i key).2]) w) := by
  have MA := Lib.hid (r9_may w gt g2 T F i key B n d h hn hnd)
  unfold tLook
  cases hm : tMay T i key
  · rw [hm] at MA
    rw [if_neg Bool.false_ne_true]
    clear h hb
    go_enter Try.func35, Try.ntmps35
    go_wp2_with fail
    refine (MA.out).mono ?_
    rintro e w1 ⟨rfl, b1⟩
    have V := Lib.hid b1
    clear b1
    go_wp2_with fail
    go_ret2
    exact ⟨rfl, V.out⟩
  · rw [hm] at MA
    rw [if_pos rfl]
    obtain ⟨i0, i1, _⟩ := may_yes hm
    obtain ⟨k, rfl⟩ : ∃ k : Nat, i = k := ⟨i.toNat, by omega⟩
    rw [Int.toNat_natCast]
    have hk : k < T.length := by omega
    have FI : Hid (∀ u, Below w.heap.size w u → Calls Try.prog 54 #[.pointer (some ⟨gt, 0, none⟩), .int .i64 (k : Int), .slice B n d] u (Gives (.int .i64 (slotI (tFind (mt T k).L key))) u)) := Lib.hid fun u b => r9_find u gt g2 T F k key B n d (h.after b) hk (hb.after b) hob hn hnd
    have hsm := fun s => find_small h.ok hk (key := key) (s := s)
    clear h hb hm
    cases hs : tFind (mt T k).L key with
    | none =>
      rw [hs] at FI
      rw [show slotI none = -1 from rfl] at FI
      clear hs hsm
      dsimp only
      go_enter Try.func35, Try.ntmps35
      go_wp2_with fail
      refine (MA.out).mono ?_
      rintro e w1 ⟨rfl, b1⟩
      have V := Lib.hid b1
      clear b1
      go_wp2_with fail
      refine (FI.out _ V.out).mono ?_
      rintro e w2 ⟨rfl, b2⟩
      replace V := Lib.hid (below_next' V.out b2)
      clear b2
      go_wp2_with fail
      go_ret2
      exact ⟨rfl, V.out⟩
    | some s =>
      rw [hs] at FI
      rw [show slotI (some s) = (s : Int) from rfl] at FI
      have s1 := hsm s hs
      clear hs hsm
      dsimp only
      have AR : Hid (∀ u, Calls Try.prog 22 #[.int .i64 (k : Int), .int .i64 (s : Int)] u (Gives (.int .i64 (tArea k s)) u)) := Lib.hid fun u => r9_Area k s u (by omega) (by omega)
      have AT : Hid (∀ u, Calls Try.prog 55 #[.int .i64 (tArea k s), .int .i64 0] u (Gives (.int .u64 (atI (tArea k s) 0)) u)) := Lib.hid fun u => r8_At (tArea k s) 0 u
      generalize atI (tArea k s) 0 = at_ at *
      generalize tArea k s = ar at *
      have s0 : (0 : Int) ≤ s := by omega
      go_enter Try.func35, Try.ntmps35
      go_wp2_with fail
      refine (MA.out).mono ?_
      rintro e w1 ⟨rfl, b1⟩
      have V := Lib.hid b1
      clear b1
      go_wp2_with fail
      refine (FI.out _ V.out).mono ?_
      rintro e w2 ⟨rfl, b2⟩
      replace V := Lib.hid (below_next' V.out b2)
      clear b2
      go_wp2_with fail
      refine (AR.out _).mono ?_
      rintro e w3 ⟨rfl, b3⟩
      replace V := Lib.hid (below_next' V.out b3)
      clear b3
      go_wp2_with fail
      refine (AT.out _).mono ?_
      rintro e w4 ⟨rfl, b4⟩
      replace V := Lib.hid (below_next' V.out b4)
      clear b4
      go_wp2_with fail
      go_ret2
      exact ⟨rfl, V.out⟩

end Go.Proofs.Ytempkpfcjonaaaa
