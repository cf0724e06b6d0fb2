/-
  Layer 10: the document's Draw, Right, Same.
  Conditions: the rows are not of memory's size.
-/
import Derived.Test.YtlgpollefkkbdaaHelp5
namespace Go.Proofs.Ytlgpollefkkbdaa
open Go.RowKit
set_option maxRecDepth 100000
set_option linter.unusedVariables false
set_option linter.unusedSimpArgs false

theorem hCut_small {n m : Int} (h : m = hAll ∨ n ≤ m) (hn : 0 ≤ n) : hCut n m = n := by
  unfold hCut
  split
  · rfl
  · rename_i k
    rcases h with h | h
    · rw [h] at k; exact absurd (by rfl) k
    · exact Int.emod_eq_of_lt hn (by omega)
theorem hCut_again {n m : Int} (hm : 0 ≤ m) (h : m ≠ hAll) : hCut (n % (m + 1)) m = hCut n m := by
  unfold hCut
  rw [if_neg (by simpa using h), if_neg (by simpa using h), Int.emod_emod]

set_option maxHeartbeats 1000000 in
theorem r10_Draw (i : Int) (l : List Int) (A : Option Addr) (c : Nat) (w : World) (hl : l.length ≤ 1000) (hlc : l.length ≤ c) (hc : c ≤ maxLen) (h : NumS w A l) (hok : OkN l) :
    Calls Try.prog 11 #[.int .i64 i, .slice A l.length c] w (DrawW (hDr i l) w) := by
  have C := Lib.hid (r10_Sig i w)
  have HM := hS_most i
  unfold hDr
  unfold maxLen at hc
  generalize hS i = S at *
  generalize hOk i = ok at *
  obtain ⟨told, tells, draws, most⟩ := S
  dsimp only at *
  cases ok
  · rw [Bool.false_and, if_neg Bool.false_ne_true]
    go_enter Try.func11, Try.ntmps11
    go_wp2_with fail
    refine (C.out).mono ?_
    rintro e w1 ⟨A1, c1, he, b1, hrow⟩
    unfold sgV at he
    subst he
    have V := Lib.hid (below_alloc b1 (.cells #[.slice A1 told.length c1, .int .u8 tells, .bool draws, .int .u64 most] 26))
    clear b1 hrow
    generalize told.length = tl at *
    go_wp2_with fail
    go_ret3
    exact drawW_none 0 1 V.out
  cases draws
  · rw [Bool.and_false, if_neg Bool.false_ne_true]
    go_enter Try.func11, Try.ntmps11
    go_wp2_with fail
    refine (C.out).mono ?_
    rintro e w1 ⟨A1, c1, he, b1, hrow⟩
    unfold sgV at he
    subst he
    have V := Lib.hid (below_alloc b1 (.cells #[.slice A1 told.length c1, .int .u8 tells, .bool false, .int .u64 most] 26))
    clear b1 hrow
    generalize told.length = tl at *
    go_wp2_with fail
    go_ret3
    exact drawW_none 0 1 V.out
  rw [Bool.and_self, if_pos rfl]
  cases l with
  | nil =>
    have hz : ([] : List Int).length = 0 := rfl
    rw [hz] at *
    go_enter Try.func11, Try.ntmps11
    go_wp2_with fail
    refine (C.out).mono ?_
    rintro e w1 ⟨A1, c1, he, b1, hrow⟩
    unfold sgV at he
    subst he
    have V := Lib.hid (below_alloc b1 (.cells #[.slice A1 told.length c1, .int .u8 tells, .bool true, .int .u64 most] 26))
    clear b1 hrow
    generalize told.length = tl at *
    go_wp2_with fail
    go_ret3
    exact drawW_none 0 100 V.out
  | cons x r =>
    obtain ⟨g, o, rfl, hg, hcell⟩ := h (by simp)
    have hx := hok 0 (by simp)
    rw [show bAt (x :: r) 0 = x from rfl] at hx
    have hlen : (x :: r).length = r.length + 1 := rfl
    have HROW := Lib.hid hcell
    have HG := Lib.hid hg
    have HX := Lib.hid hx
    have HMM := Lib.hid HM
    clear hok h hcell hg
    rw [hlen] at hl hlc ⊢
    clear hlen
    have AP : Hid (∀ gs cs u, DrQ w g o (x :: r) gs cs u → ∀ o', (0 < r.length → o' = o + 1) → ∃ v2 u2, (Builtin.append_ #[22, 22] 22 #[.slice (some ⟨u.heap.size, 0, none⟩) 0 0, .slice (some ⟨g, o', none⟩) r.length (c - 1)]).run Try.prog (u.alloc (.cells #[] 24)) = .ok v2 u2 ∧ u2.ownsRow w.heap.size 24 1 v2 r.length (nuC r) ∧ Below w.heap.size w u2) := Lib.hid fun gs cs u q o' ho' => by
      have b := below_alloc (Below.refl u.heap.size u) (.cells #[] 24)
      have hown : (u.alloc (.cells #[] 24)).ownsRow u.heap.size 24 1 (.slice (some ⟨u.heap.size, 0, none⟩) 0 0) 0 [] := World.ownsRow_made u #[] 0 (Nat.le_refl _) (Nat.zero_le _) rfl
      have hlow := q.low.size
      have hown2 := own_base (base' := w.heap.size) hown (fun k hk => by have := (hown.lt k hk).1; omega)
      obtain ⟨v2, u2, e1, e2, e3⟩ := app_nums hown2 (Nat.le_trans hlow b.size) g o' (c - 1) r.length r rfl (fun k hk => by rw [ho' (by omega)]; exact NumS.tail (q.after b).lt (q.after b).row 1 k hk) (by omega)
      exact ⟨v2, u2, e1, e2, below_own (below_next' q.low b) hown2 (Nat.le_trans hlow b.size) e3⟩
    generalize hrl : r.length = rl at *
    have HRL := Lib.hid hrl
    clear hrl
    have hp1 : (1 : Int) ≤ rl + 1 := by omega
    go_enter Try.func11, Try.ntmps11
    go_wp2_with fail
    refine (C.out).mono ?_
    rintro e w1 ⟨A1, c1, he, b1, hrow⟩
    unfold sgV at he
    subst he
    have Q : Hid (DrQ w g o (x :: r) w1.heap.size #[.slice A1 told.length c1, .int .u8 tells, .bool true, .int .u64 most] ((w1.alloc (.cells #[.slice A1 told.length c1, .int .u8 tells, .bool true, .int .u64 most] 26)))) := Lib.hid (by
      have b2 := below_alloc b1 (.cells #[.slice A1 told.length c1, .int .u8 tells, .bool true, .int .u64 most] 26)
      exact ⟨b2, Nat.lt_of_lt_of_le HG.out b2.size, fun k hk => (b2.cell (p := ⟨g, o + k, none⟩) HG.out).trans (HROW.out k hk), Blk.new w1 _ _ rfl⟩)
    have QR := Q.out.row 0 (by simp)
    rw [show bAt (x :: r) 0 = x from rfl, Nat.add_zero] at QR
    clear b1 hrow HROW HG
    generalize told.length = tl at *
    generalize hgs : w1.heap.size = gs at *
    go_wp2_with fail
    go_loopw [9] (fun v wr => ∃ y : Int, v = .int .u64 y ∧ Hid (0 ≤ y ∧ y ≤ 18446744073709551615 ∧ hCut y most = hCut x most) ∧ Hid (DrQ w g o (x :: r) gs #[.slice A1 tl c1, .int .u8 tells, .bool true, .int .u64 most] wr)) (fun v wr => (intOf v).toNat)
    case atStart => exact ⟨x, rfl, Lib.hid ⟨HX.out.1, HX.out.2, rfl⟩, Q⟩
    case round =>
      obtain ⟨y, rfl, HY, QQ⟩ := hrel
      have s3 : wr.cell? ⟨gs, 3, none⟩ = some (.int .u64 most) := Blk.cell QQ.out.sig 3
      obtain ⟨y0, y1, -⟩ := HY.out
      cases hall : (most != 18446744073709551615)
      · have SM : most = hAll ∨ y ≤ most := .inl (by unfold hAll; simpa [bne] using hall)
        have HR2 : Hid (hCut x most = y) := Lib.hid (by rw [← HY.out.2.2]; exact hCut_small SM y0)
        by_cases hc1 : c = 1
        · obtain ⟨v2, u2, hr2, hown, hlow⟩ := AP.out _ _ _ QQ.out o (fun _ => by omega)
          have OW := Lib.hid hown
          have LOW := Lib.hid hlow
          rw [hc1] at hr2 hlc ⊢
          have hrz : rl = 0 := by omega
          rw [hrz] at hr2 hl hp1 ⊢
          clear hown hlow AP HY hc
          simp only [Nat.sub_self, Nat.zero_add] at hr2 hl hp1 ⊢
          go_wp2_with ((at_builtin; refine Lib.wpList_append_run _ rfl (.tmp 43) (.tmp 45) _ _ rfl _ _ rfl rfl _ _ hr2 ?_))
          obtain ⟨A2, c2, rfl, -, -⟩ := own_slice OW.out
          go_wp2_with fail
          go_ret3
          refine ⟨A2, c2, ?_, LOW.out, by dsimp only; rw [HRL.out]; exact OW.out⟩
          dsimp only
          rw [HRL.out, HR2.out]
          rfl
        · obtain ⟨v2, u2, hr2, hown, hlow⟩ := AP.out _ _ _ QQ.out (o + 1) (fun _ => rfl)
          have OW := Lib.hid hown
          have LOW := Lib.hid hlow
          clear hown hlow AP HY hc
          go_wp2_with ((at_builtin; refine Lib.wpList_append_run _ rfl (.tmp 43) (.tmp 45) _ _ rfl _ _ rfl rfl _ _ hr2 ?_))
          obtain ⟨A2, c2, rfl, -, -⟩ := own_slice OW.out
          go_wp2_with fail
          go_ret3
          refine ⟨A2, c2, ?_, LOW.out, by dsimp only; rw [HRL.out]; exact OW.out⟩
          dsimp only
          rw [HRL.out, HR2.out]
          rfl
      by_cases hle : y ≤ most
      · have SM : most = hAll ∨ y ≤ most := .inr hle
        have HR2 : Hid (hCut x most = y) := Lib.hid (by rw [← HY.out.2.2]; exact hCut_small SM y0)
        by_cases hc1 : c = 1
        · obtain ⟨v2, u2, hr2, hown, hlow⟩ := AP.out _ _ _ QQ.out o (fun _ => by omega)
          have OW := Lib.hid hown
          have LOW := Lib.hid hlow
          rw [hc1] at hr2 hlc ⊢
          have hrz : rl = 0 := by omega
          rw [hrz] at hr2 hl hp1 ⊢
          clear hown hlow AP HY hc
          simp only [Nat.sub_self, Nat.zero_add] at hr2 hl hp1 ⊢
          go_wp2_with ((at_builtin; refine Lib.wpList_append_run _ rfl (.tmp 43) (.tmp 45) _ _ rfl _ _ rfl rfl _ _ hr2 ?_))
          obtain ⟨A2, c2, rfl, -, -⟩ := own_slice OW.out
          go_wp2_with fail
          go_ret3
          refine ⟨A2, c2, ?_, LOW.out, by dsimp only; rw [HRL.out]; exact OW.out⟩
          dsimp only
          rw [HRL.out, HR2.out]
          rfl
        · obtain ⟨v2, u2, hr2, hown, hlow⟩ := AP.out _ _ _ QQ.out (o + 1) (fun _ => rfl)
          have OW := Lib.hid hown
          have LOW := Lib.hid hlow
          clear hown hlow AP HY hc
          go_wp2_with ((at_builtin; refine Lib.wpList_append_run _ rfl (.tmp 43) (.tmp 45) _ _ rfl _ _ rfl rfl _ _ hr2 ?_))
          obtain ⟨A2, c2, rfl, -, -⟩ := own_slice OW.out
          go_wp2_with fail
          go_ret3
          refine ⟨A2, c2, ?_, LOW.out, by dsimp only; rw [HRL.out]; exact OW.out⟩
          dsimp only
          rw [HRL.out, HR2.out]
          rfl
      have hlt : most < y := by omega
      have hne : most ≠ hAll := by simpa [bne, hAll] using hall
      have hne' : most ≠ 18446744073709551615 := hne
      have hcut := hCut_again (n := y) HMM.out.1 hne
      have m1 := Int.emod_nonneg y (show most + 1 ≠ 0 by have := HMM.out.1; omega)
      have m2 := Int.emod_lt_of_pos y (show 0 < most + 1 by have := HMM.out.1; omega)
      have e : IntKind.u64.wrap (most + 1) = most + 1 := by rw [IntKind.wrap_u64]; omega
      have e2 : y.tmod (most + 1) = y % (most + 1) := Int.tmod_eq_emod_of_nonneg y0
      have e3 : IntKind.u64.wrap (y % (most + 1)) = y % (most + 1) := by rw [IntKind.wrap_u64]; omega
      have e4 : ((most + 1) == 0) = false := by simp; omega
      have HC : Hid (0 ≤ y % (most + 1) ∧ y % (most + 1) ≤ 18446744073709551615 ∧ hCut (y % (most + 1)) most = hCut x most) := Lib.hid ⟨m1, by omega, hcut.trans HY.out.2.2⟩
      have HME : Hid ((y % (most + 1)).toNat < y.toNat) := Lib.hid (by omega)
      clear hcut m1 m2
      go_wp2_with fail
      go_round
      case rel => exact ⟨_, rfl, HC, QQ⟩
      case measure => simp only [intOf]; exact HME.out

end Go.Proofs.Ytlgpollefkkbdaa
