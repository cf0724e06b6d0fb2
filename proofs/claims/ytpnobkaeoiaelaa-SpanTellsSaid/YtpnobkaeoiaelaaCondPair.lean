/-
  cond.partner: the condition that stands in a pair with another one.
  Conditions: the pairs lie in one block of memory.
-/
import Derived.Test.YtpnobkaeoiaelaaKit
import Derived.LoopTactic
namespace Go.Proofs.Ytpnobkaeoiaelaa
open Go.RowKit
set_option linter.unusedVariables false

/-- Of pairs, one behind the other, the other one of the first that has op. -/
def pairOf : List (Int × Int) → Int → Int × Bool
  | [], _ => (0, false)
  | p :: l, op => if p.1 = op then (p.2, true) else if p.2 = op then (p.1, true) else pairOf l op
/-- The cells that pairs lie in. -/
def pairCells : List (Int × Int) → List Value
  | [] => []
  | p :: l => .int .u8 p.1 :: .int .u8 p.2 :: pairCells l

theorem pairOf_step (l : List (Int × Int)) (op : Int) (j : Nat) (h : j < l.length) :
    pairOf (l.drop j) op = if (l.getD j (0, 0)).1 = op then ((l.getD j (0, 0)).2, true) else if (l.getD j (0, 0)).2 = op then ((l.getD j (0, 0)).1, true) else pairOf (l.drop (j + 1)) op := by
  rw [List.drop_eq_getElem_cons h]
  simp only [pairOf, List.getD_eq_getElem?_getD, List.getElem?_eq_getElem h, Option.getD_some]

set_option maxHeartbeats 1000000 in
theorem partner_any (l : List (Int × Int)) (b : Nat) (op : Int) (w : World) (hl : l.length ≤ 100)
    (hc : ∀ k, k < l.length → w.cell? ⟨b, k * 2, none⟩ = some (.int .u8 (l.getD k (0, 0)).1) ∧ w.cell? ⟨b, k * 2 + 1, none⟩ = some (.int .u8 (l.getD k (0, 0)).2)) (hb : b < w.heap.size) :
    Calls Try.prog 49 #[.int .u8 op, .slice (some ⟨b, 0, none⟩) l.length l.length] w
      fun e w' => e = .returned (.tuple #[.int .u8 (pairOf l op).1, .bool (pairOf l op).2]) ∧ Below w.heap.size w w' := by
  have HC := Lib.hid hc
  clear hc
  go_enter Try.func49, Try.ntmps49
  go_wp2_with fail
  go_loopw [10] (fun i wr => ∃ j : Nat, j ≤ l.length ∧ i = .int .i64 j ∧ pairOf (l.drop j) op = pairOf l op ∧ Below w.heap.size w wr) (fun i wr => l.length - (intOf i).toNat)
  case atStart => exact ⟨0, by omega, rfl, rfl, Below.refl _ _⟩
  case round =>
    obtain ⟨j, hj, rfl, hp, hbw⟩ := hrel
    by_cases hlt : (j : Int) < l.length
    · obtain ⟨c1, c2⟩ := HC.out j (by omega)
      have hs := pairOf_step l op j (by omega)
      rw [hp] at hs
      generalize hg : l.getD j (0, 0) = p at *
      obtain ⟨x, y⟩ := p
      have d1 : wr.cell? ⟨b, j * 2, none⟩ = some (.int .u8 x) := (hbw.cell (p := ⟨b, j * 2, none⟩) hb).trans c1
      have d2 : wr.cell? ⟨b, j * 2 + 1, none⟩ = some (.int .u8 y) := (hbw.cell (p := ⟨b, j * 2 + 1, none⟩) hb).trans c2
      clear c1 c2 hg
      by_cases h1 : x = op
      · have HE : Hid (pairOf l op = (y, true)) := Lib.hid (by rw [hs, if_pos h1])
        clear hs hp
        subst h1
        go_wp2_with fail
        go_ret2
        exact ⟨by rw [HE.out]; rfl, hbw.alloc hbw.size _⟩
      · by_cases h2 : y = op
        · have HE : Hid (pairOf l op = (x, true)) := Lib.hid (by rw [hs, if_neg h1, if_pos h2])
          clear hs hp
          subst h2
          go_wp2_with fail
          go_ret2
          exact ⟨by rw [HE.out]; rfl, hbw.alloc hbw.size _⟩
        · have HE : Hid (pairOf (l.drop (j + 1)) op = pairOf l op) := Lib.hid (by rw [hs, if_neg h1, if_neg h2])
          clear hs hp
          go_wp2_with fail
          go_round
          case rel => exact ⟨j + 1, by omega, by go_num, HE.out, hbw.alloc hbw.size _⟩
          case measure => simp [intOf]; omega
    · have hj2 : j = l.length := by omega
      have hz : pairOf l op = (0, false) := by rw [← hp, hj2, List.drop_length]; rfl
      have HZ := Lib.hid hz
      clear hz hj2 hp
      go_wp2_with fail
      go_ret2
      exact ⟨by rw [HZ.out]; rfl, hbw⟩

end Go.Proofs.Ytpnobkaeoiaelaa
