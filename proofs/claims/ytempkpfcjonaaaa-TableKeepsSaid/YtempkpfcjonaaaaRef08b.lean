/-
  Layer 8's own where.
  Conditions: the numbers fit their kinds; no more bytes than an area may have.
-/
import Derived.Test.YtempkpfcjonaaaaRef08a
namespace Go.Proofs.Ytempkpfcjonaaaa
open Go.RowKit
set_option linter.unusedVariables false
set_option linter.unusedSimpArgs false

def whI (o : Option (Nat × Nat)) : Int × Int := match o with | some (k, o) => (k, o) | none => (-1, 0)
theorem u64_sub (n o : Nat) (h : o ≤ n) (hn : n ≤ 1024) : IntKind.u64.wrap ((n : Int) - o) = (n : Int) - o := by rw [IntKind.wrap_u64]; omega

set_option maxRecDepth 100000 in
set_option maxHeartbeats 2000000 in
theorem r8_where (w : World) (g : Nat) (M : PM) (F : Nat → Prop) (at_ s : Int) (h : RepR w g M F) (ha : 0 ≤ at_ ∧ at_ ≤ 18446744073709551615) (hs : 0 ≤ s ∧ s ≤ 1024) :
    Calls Try.prog 58 #[.pointer (some ⟨g, 0, none⟩), .int .u64 at_, .int .i64 s] w (Gives (.tuple #[.int .i64 (whI (pWh M at_ s)).1, .int .i64 (whI (pWh M at_ s)).2]) w) := by
  have C := Lib.hid (r8_find w g M F (at_ / 4294967296) h)
  obtain ⟨vl, L, rfl, h⟩ := h
  have HR : Hid (∀ w', Below w.heap.size w w' → RepA w' g vl L F) := Lib.hid fun w' b => h.keep fun x hx => b.block x (h.lt hx)
  have hok := h.ok
  obtain ⟨on, ho⟩ : ∃ on : Nat, at_ % 4294967296 = on := ⟨(at_ % 4294967296).toNat, by omega⟩
  have ho' : on < 4294967296 := by omega
  have hq : 0 ≤ at_ / 4294967296 ∧ at_ / 4294967296 ≤ 4294967295 := by omega
  unfold pWh
  cases hx : pIx (arM L) (at_ / 4294967296) with
  | none =>
    rw [hx] at C
    clear h hok hx
    have e1 : ixI none = -1 := rfl
    rw [e1] at C
    clear e1
    generalize hqq : at_ / 4294967296 = q at *
    go_enter Try.func58, Try.ntmps58
    go_wp2_with fail
    refine (C.out).mono ?_
    rintro e w1 ⟨rfl, b1⟩
    have V := Lib.hid b1
    clear b1
    go_wp2_with fail
    go_ret2
    exact ⟨rfl, V.out⟩
  | some k =>
    have hk := (pIx_some hx).1
    rw [arM_len] at hk
    have hkI : (0 : Int) ≤ k := by omega
    obtain ⟨_, _, hbl, _⟩ := hok k (by rw [arM_len]; exact hk)
    rw [arM_at] at hbl
    have e0 : (pAt (arM L) k).b = (arAt L k).a.b := by rw [arM_at]
    simp only [e0, ho]
    rw [hx] at C
    have e1 : ixI (some k) = (k : Int) := rfl
    rw [e1] at C
    have OW := Lib.hid (h.own k hk).1
    obtain ⟨Ab, cb, hvb, hb1, hb2⟩ := own_slice OW.out
    have HVB := Lib.hid hvb
    generalize hqq : at_ / 4294967296 = q at *
    have hnm : ((on : Nat) : Int).toNat = on := by omega
    rw [hnm]
    clear h hok hx e0 e1 hvb OW hnm
    generalize hlen : (arAt L k).a.b.length = lb at *
    have WALK : ∀ (R : Int × Int), (if (on : Int) ≤ lb ∧ s ≤ (lb : Int) - on then ((k : Int), (on : Int)) else (-1, 0)) = R → Calls Try.prog 58 #[.pointer (some ⟨g, 0, none⟩), .int .u64 at_, .int .i64 s] w (Gives (.tuple #[.int .i64 R.1, .int .i64 R.2]) w) := by
      intro R hR
      have HRR := Lib.hid hR
      clear hR
      by_cases h1 : (on : Int) ≤ lb
      · have su := u64_sub lb on (by omega) hbl
        by_cases h2 : s ≤ (lb : Int) - on
        · have HE : Hid (R = ((k : Int), (on : Int))) := Lib.hid (by rw [← HRR.out, if_pos ⟨h1, h2⟩])
          go_enter Try.func58, Try.ntmps58
          go_wp2_with fail
          refine (C.out).mono ?_
          rintro e w1 ⟨rfl, b1⟩
          have V := Lib.hid b1
          have h1 := HR.out w1 b1
          obtain ⟨A, c, rfl, k1, k2, hr⟩ := h1.rows
          have c0 := h1.cell
          obtain ⟨gl, rfl, hg, hc⟩ := hr (by omega)
          obtain ⟨c1, c2, c3, c4⟩ := hc k hk
          rw [HVB.out] at c2
          clear b1 h1 hr hc c1 c3 c4
          go_wp2_with fail
          go_ret2
          rw [HE.out]
          exact ⟨rfl, V.out⟩
        · have HE : Hid (R = ((-1 : Int), (0 : Int))) := Lib.hid (by rw [← HRR.out, if_neg (by omega)])
          go_enter Try.func58, Try.ntmps58
          go_wp2_with fail
          refine (C.out).mono ?_
          rintro e w1 ⟨rfl, b1⟩
          have V := Lib.hid b1
          have h1 := HR.out w1 b1
          obtain ⟨A, c, rfl, k1, k2, hr⟩ := h1.rows
          have c0 := h1.cell
          obtain ⟨gl, rfl, hg, hc⟩ := hr (by omega)
          obtain ⟨c1, c2, c3, c4⟩ := hc k hk
          rw [HVB.out] at c2
          clear b1 h1 hr hc c1 c3 c4
          go_wp2_with fail
          go_ret2
          rw [HE.out]
          exact ⟨rfl, V.out⟩
      · have HE : Hid (R = ((-1 : Int), (0 : Int))) := Lib.hid (by rw [← HRR.out, if_neg (by omega)])
        go_enter Try.func58, Try.ntmps58
        go_wp2_with fail
        refine (C.out).mono ?_
        rintro e w1 ⟨rfl, b1⟩
        have V := Lib.hid b1
        have h1 := HR.out w1 b1
        obtain ⟨A, c, rfl, k1, k2, hr⟩ := h1.rows
        have c0 := h1.cell
        obtain ⟨gl, rfl, hg, hc⟩ := hr (by omega)
        obtain ⟨c1, c2, c3, c4⟩ := hc k hk
        rw [HVB.out] at c2
        clear b1 h1 hr hc c1 c3 c4
        go_wp2_with fail
        go_ret2
        rw [HE.out]
        exact ⟨rfl, V.out⟩
    split
    · rename_i hc
      exact WALK (k, on) (if_pos hc)
    · rename_i hc
      exact WALK (-1, 0) (if_neg hc)

end Go.Proofs.Ytempkpfcjonaaaa
