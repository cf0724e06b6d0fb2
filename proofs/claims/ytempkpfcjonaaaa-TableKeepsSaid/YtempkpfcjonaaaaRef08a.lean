/-
  Layer 8's own find, where, fits, At.
  Conditions: the numbers fit their kinds.
-/
import Derived.Test.YtempkpfcjonaaaaRef08r
import Derived.LoopTactic
namespace Go.Proofs.Ytempkpfcjonaaaa
open Go.RowKit
set_option linter.unusedVariables false
set_option linter.unusedSimpArgs false

set_option maxRecDepth 100000 in
set_option maxHeartbeats 2000000 in
theorem r8_find (w : World) (g : Nat) (M : PM) (F : Nat → Prop) (i : Int) (h : RepR w g M F) : Calls Try.prog 43 #[.pointer (some ⟨g, 0, none⟩), .int .i64 i] w (Gives (.int .i64 (ixI (pIx M i))) w) := by
  obtain ⟨vl, L, rfl, h⟩ := h
  obtain ⟨A, c, rfl, k1, k2, hr⟩ := h.rows
  have c0 := h.cell
  have HR := Lib.hid hr
  have HL := Lib.hid (arM_len L)
  have HA := Lib.hid (arM_at L)
  clear hr h
  unfold maxLen at k2
  generalize hn : L.length = n at *
  clear hn
  have hn0 : (0 : Int) ≤ n := by omega
  go_enter Try.func43, Try.ntmps43
  go_wp2_with fail
  go_loop [5] (fun v => ∃ j : Nat, v = .int .i64 j ∧ j ≤ n ∧ Hid (∀ t, t < j → (pAt (arM L) t).id ≠ i)) (fun v => n - (intOf v).toNat)
  case atStart => exact ⟨0, rfl, by omega, Lib.hid fun t ht => by omega⟩
  case round =>
    obtain ⟨j, rfl, hj, HT⟩ := hrel
    have hj0 : (0 : Int) ≤ j := by omega
    by_cases hlt : (j : Int) < n
    · have hjn : j < n := by omega
      obtain ⟨gl, rfl, hg, hc⟩ := HR.out (by omega)
      obtain ⟨c1, _, _, _⟩ := hc j hjn
      have HZ : Hid ((pAt (arM L) j).id = (arAt L j).a.id) := Lib.hid (by rw [HA.out])
      clear hc
      generalize (arAt L j).a.id = z at *
      cases hz : (z == i)
      · have HT2 : Hid (∀ t, t < j + 1 → (pAt (arM L) t).id ≠ i) := Lib.hid fun t ht => by
          by_cases e : t = j
          · rw [e, HZ.out]; exact fun e => by rw [e] at hz; simp at hz
          · exact HT.out t (by omega)
        go_wp2_with fail
        go_round
        case rel => exact ⟨j + 1, by go_num, by omega, HT2⟩
        case measure => simp [intOf]; omega
      · have HV : Hid (ixI (pIx (arM L) i) = j) := Lib.hid (by
          rw [pIx_of (by rw [HL.out]; exact hjn) (by rw [HZ.out]; exact beq_iff_eq.mp hz) HT.out]
          rfl)
        go_wp2_with fail
        go_ret
        exact ⟨end_int HV.out.symm, Below.refl _ _⟩
    · have HV : Hid (ixI (pIx (arM L) i) = -1) := Lib.hid (by
        rw [pIx_none.mpr (fun t ht => HT.out t (by rw [HL.out] at ht; omega))]
        rfl)
      go_wp2_with fail
      go_ret
      exact ⟨end_int HV.out.symm, Below.refl _ _⟩

theorem r8_fits (s : Int) (w : World) : Calls Try.prog 57 #[.int .i64 s] w (Gives (.bool (fitsZ s)) w) := by
  unfold fitsZ
  cases h1 : (s == 1) <;> cases h2 : (s == 2) <;> cases h4 : (s == 4) <;> cases h8 : (s == 8) <;>
  (go_enter Try.func57, Try.ntmps57
   go_wp2_with fail
   go_ret
   exact ⟨rfl, Below.refl _ _⟩)
theorem r8_At (a o : Int) (w : World) : Calls Try.prog 55 #[.int .i64 a, .int .i64 o] w (Gives (.int .u64 (atI a o)) w) := by
  go_enter Try.func55, Try.ntmps55
  go_wp2_with fail
  go_ret
  refine ⟨?_, Below.refl _ _⟩
  apply end_int
  unfold atI
  simp only [IntKind.wrap_u64]
  omega

end Go.Proofs.Ytempkpfcjonaaaa
