/-
  The document's own Not and Turned of layer 3.
  Conditions: none.
-/
import Derived.Test.YtpnobkaeoiaelaaCondTurn
namespace Go.Proofs.Ytpnobkaeoiaelaa
open Go.RowKit
set_option linter.unusedVariables false

set_option maxHeartbeats 1000000 in
theorem ref_pair_any (l : List (Int × Int)) (b : Nat) (op : Int) (w : World) (hl : l.length ≤ 100)
    (hc : ∀ k, k < l.length → w.cell? ⟨b, k * 2, none⟩ = some (.int .u8 (l.getD k (0, 0)).1) ∧ w.cell? ⟨b, k * 2 + 1, none⟩ = some (.int .u8 (l.getD k (0, 0)).2)) :
    Calls Try.prog 40 #[.slice (some ⟨b, 0, none⟩) (l.length * 2) (l.length * 2), .int .u8 op] w
      fun e w' => e = .returned (.tuple #[.int .u8 (pairOf l op).1, .bool (pairOf l op).2]) ∧ w = w' := by
  have HC := Lib.hid hc
  clear hc
  go_enter Try.func40, Try.ntmps40
  go_wp2_with fail
  go_loopw [6] (fun i wr => ∃ j : Nat, j ≤ l.length ∧ i = .int .i64 (j * 2) ∧ pairOf (l.drop j) op = pairOf l op ∧ wr = w) (fun i wr => l.length * 2 - (intOf i).toNat)
  case atStart => exact ⟨0, by omega, rfl, rfl, rfl⟩
  case round =>
    obtain ⟨j, hj, rfl, hp, rfl⟩ := hrel
    by_cases hlt : (j : Int) < l.length
    · obtain ⟨c1, c2⟩ := HC.out j (by omega)
      have hs := pairOf_step l op j (by omega)
      rw [hp] at hs
      generalize hg : l.getD j (0, 0) = p at *
      obtain ⟨x, y⟩ := p
      clear hg
      by_cases h1 : x = op
      · have HE : Hid (pairOf l op = (y, true)) := Lib.hid (by rw [hs, if_pos h1])
        clear hs hp
        subst h1
        go_wp2_with fail
        go_ret2
        exact ⟨by rw [HE.out]; rfl, rfl⟩
      · by_cases h2 : y = op
        · have HE : Hid (pairOf l op = (x, true)) := Lib.hid (by rw [hs, if_neg h1, if_pos h2])
          clear hs hp
          subst h2
          go_wp2_with fail
          go_ret2
          exact ⟨by rw [HE.out]; rfl, rfl⟩
        · have HE : Hid (pairOf (l.drop (j + 1)) op = pairOf l op) := Lib.hid (by rw [hs, if_neg h1, if_neg h2])
          clear hs hp
          go_wp2_with fail
          go_round
          case rel => exact ⟨j + 1, by omega, by go_num, HE.out, trivial⟩
          case measure => simp [intOf]; omega
    · have hj2 : j = l.length := by omega
      have hz : pairOf l op = (0, false) := by rw [← hp, hj2, List.drop_length]; rfl
      have HZ := Lib.hid hz
      clear hz hj2 hp
      go_wp2_with fail
      go_ret2
      exact ⟨by rw [HZ.out]; rfl, rfl⟩

theorem ref_not_any (op : Int) (w : World) : Calls Try.prog 26 #[.int .u8 op] w (Paired notPairs op w) := by
  have hp := Lib.hid (ref_pair_any notPairs w.heap.size op (w.alloc (.cells #[.int .u8 16, .int .u8 80, .int .u8 32, .int .u8 176, .int .u8 48, .int .u8 160, .int .u8 96, .int .u8 208, .int .u8 112, .int .u8 192] 5)) (by decide)
    (cells_at w notPairs _ _ (by
      intro k hk
      change k < 5 at hk
      have h : k = 0 ∨ k = 1 ∨ k = 2 ∨ k = 3 ∨ k = 4 := by omega
      rcases h with rfl | rfl | rfl | rfl | rfl <;> exact ⟨rfl, rfl⟩)))
  go_enter Try.func26, Try.ntmps26
  go_wp2_with fail
  refine (hp.out).mono ?_
  rintro e w1 ⟨rfl, rfl⟩
  go_wp2_with fail
  go_ret2
  exact ⟨rfl, (Below.refl _ _).alloc (Nat.le_refl _) _⟩

end Go.Proofs.Ytpnobkaeoiaelaa
