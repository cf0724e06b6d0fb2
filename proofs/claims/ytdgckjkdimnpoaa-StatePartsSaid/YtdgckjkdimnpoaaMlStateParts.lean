/-
  The statement StateParts: for every row of acts, place, size, and where it is parted, the law returns true, and its arguments read as they did.
  Conditions: none beyond the row's own.
-/
import Derived.Test.YtdgckjkdimnpoaaMl12

namespace Go.Proofs.Ytdgckjkdimnpoaa
open Go Go.RowKit
set_option maxRecDepth 100000
set_option linter.unusedVariables false
set_option linter.unusedSimpArgs false

theorem full_parts {x : St} {o n k : Nat} (hk : k ≤ n) (hon : o + n ≤ 512) : full x o n = (full x o k && full x ((o + k : Nat) : Int) ((n - k : Nat) : Int)) := by
  cases hr : stR x
  · rw [full_no hr, full_no hr, full_no hr]; rfl
  have t1 : there (o : Int) (n : Int) = true := there_iff.mpr ⟨by omega, by omega, by omega⟩
  have t2 : there (o : Int) (k : Int) = true := there_iff.mpr ⟨by omega, by omega, by omega⟩
  have t3 : there ((o + k : Nat) : Int) ((n - k : Nat) : Int) = true := there_iff.mpr ⟨by omega, by omega, by omega⟩
  unfold full
  rw [hr, t1, t2, t3]
  simp only [Int.toNat_natCast, Bool.true_and]
  rw [Bool.eq_iff_iff, Bool.and_eq_true, List.all_eq_true, List.all_eq_true, List.all_eq_true]
  constructor
  · intro h
    refine ⟨fun i hi => h i (List.mem_range.mpr (by have := List.mem_range.mp hi; omega)), fun i hi => ?_⟩
    have := h (k + i) (List.mem_range.mpr (by have := List.mem_range.mp hi; omega))
    rw [← Nat.add_assoc] at this
    exact this
  · rintro ⟨h1, h2⟩ i hi
    have hi' := List.mem_range.mp hi
    by_cases c : i < k
    · exact h1 i (List.mem_range.mpr c)
    · have := h2 (i - k) (List.mem_range.mpr (by omega))
      rw [show o + k + (i - k) = o + i by omega] at this
      exact this
theorem full_over {x : St} {o n : Nat} (hon : 512 < o + n) : full x o n = false := full_out (by
  cases h : there (o : Int) (n : Int)
  · rfl
  · have := (there_iff.mp h).2.2
    omega)
set_option maxHeartbeats 8000000 in
theorem sparts_walk (A : Option Addr) (c : Nat) (l : List Sa) (off size at_ : Int) (w : World) (hl : SaS w A l) (hv : ∀ k, saIn (saAt l k)) (hc : l.length ≤ c) (hm : c ≤ maxLen) (h1 : 0 ≤ off ∧ off ≤ 65535) (h2 : 0 ≤ size ∧ size ≤ 65535) (h3 : 0 ≤ at_ ∧ at_ ≤ 65535) : Calls Try.prog 7 #[.slice A l.length c, .int .u16 off, .int .u16 size, .int .u16 at_] w (Gives (.bool true) w) := by
  have SH := Lib.hid l13_shown
  have MD := Lib.hid fun u hb => l13_made A c l w u hb hl hv hc hm
  have FU := Lib.hid fun (o n : Nat) (ho : o ≤ 1024) (hn : n ≤ 1024) w => sp_Full (saM l) (o : Int) (n : Int) w (saM_in hv) (by omega) (by omega)
  have FP := Lib.hid fun (o n k : Nat) hk hon => full_parts (x := saM l) (o := o) (n := n) (k := k) hk hon
  have FO := Lib.hid fun (o n : Nat) hon => full_over (x := saM l) (o := o) (n := n) hon
  generalize saM l = S at *
  obtain ⟨o, e1, ho⟩ : ∃ o : Nat, off.tmod 513 = (o : Int) ∧ o ≤ 512 := ⟨(off % 513).toNat, by rw [Int.tmod_eq_emod_of_nonneg h1.1]; omega, by omega⟩
  obtain ⟨n, e2, hn⟩ : ∃ n : Nat, size.tmod 513 = (n : Int) ∧ n ≤ 512 := ⟨(size % 513).toNat, by rw [Int.tmod_eq_emod_of_nonneg h2.1]; omega, by omega⟩
  obtain ⟨k, e3, hk⟩ : ∃ k : Nat, at_.tmod ((n : Int) + 1) = (k : Int) ∧ k ≤ n := by
    have hp := Int.emod_lt_of_pos at_ (show (0 : Int) < (n : Int) + 1 by omega)
    have hp2 := Int.emod_nonneg at_ (show ((n : Int) + 1) ≠ 0 by omega)
    exact ⟨(at_ % ((n : Int) + 1)).toNat, by rw [Int.tmod_eq_emod_of_nonneg h3.1]; omega, by omega⟩
  have w1 : IntKind.i64.wrap (o : Int) = (o : Int) := by rw [IntKind.wrap_i64]; omega
  have w2 : IntKind.i64.wrap (n : Int) = (n : Int) := by rw [IntKind.wrap_i64]; omega
  have w3 : IntKind.i64.wrap at_ = at_ := by rw [IntKind.wrap_i64]; omega
  have w4 : IntKind.i64.wrap ((n : Int) + 1) = (n : Int) + 1 := by rw [IntKind.wrap_i64]; omega
  have z1 : ((n : Int) + 1 == 0) = false := by rw [beq_eq_false_iff_ne]; omega
  have z2 : ¬ ((n : Int) + 1 = 0) := by omega
  have w5 : IntKind.i64.wrap ((o : Int) + (n : Int)) = (o : Int) + (n : Int) := by rw [IntKind.wrap_i64]; omega
  have w6 : IntKind.i64.wrap ((o : Int) + (k : Int)) = ((o + k : Nat) : Int) := by rw [IntKind.wrap_i64]; omega
  have w7 : IntKind.i64.wrap ((n : Int) - (k : Int)) = ((n - k : Nat) : Int) := by rw [IntKind.wrap_i64]; omega
  have w8 : IntKind.i64.wrap (k : Int) = (k : Int) := by rw [IntKind.wrap_i64]; omega
  have AL := Lib.hid (FU.out o n (by omega) (by omega))
  have A1 := Lib.hid (FU.out o k (by omega) (by omega))
  have A2 := Lib.hid (FU.out (o + k) (n - k) (by omega) (by omega))
  generalize hok : o + k = ok at *
  generalize hnk : n - k = nk at *
  have key : Hid ((o + n ≤ 512 → full S o n = (full S o k && full S ok nk)) ∧ (512 < o + n → full S o n = false)) := Lib.hid ⟨fun h => by rw [FP.out o n k hk h, hok, hnk], fun h => FO.out o n h⟩
  generalize full S (o : Int) (n : Int) = F0 at *
  generalize full S (o : Int) (k : Int) = F1 at *
  generalize full S (ok : Int) (nk : Int) = F2 at *
  replace hok := Lib.hid hok
  replace hnk := Lib.hid hnk
  clear FU FP FO hl hv
  have start : Hid (o + n ≤ 512 ∨ 512 < o + n) := Lib.hid (by omega)
  replace ho := Lib.hid ho
  replace hn := Lib.hid hn
  replace hk := Lib.hid hk
  clear h1 h2 h3 hc hm
  rcases start.out with hon | hon
  · have hon1 : (o : Int) + (n : Int) ≤ 512 := by omega
    have hon2 : ¬ 512 < (o : Int) + (n : Int) := by omega
    have d1 : decide ((o : Int) + (n : Int) ≤ 512) = true := decide_eq_true hon1
    have d2 : decide (512 < (o : Int) + (n : Int)) = false := decide_eq_false hon2
    have k1 := key.out.1 hon
    clear hon start key
    cases F1
    · simp only [Bool.false_and] at k1
      subst k1
      go_enter Try.func7, Try.ntmps7
      go_wp2_with fail
      refine (SH.out _).mono ?_; rintro e w1 ⟨rfl, b1⟩
      go_wp2_with fail
      refine (MD.out _ b1).mono ?_; rintro e w2 ⟨rfl, b2⟩
      have B2 := below_next' b1 b2
      have hl2 := Lib.hid B2.size
      have N2 := Lib.hid (stB.newz w2 rfl)
      have X3 := Lib.hid (below_row (below_alloc B2 (.cells Try.zeroCells36 36)) (g := w2.heap.size) B2.size (stC S))
      have Y3 := Lib.hid (st_row N2.out S)
      clear b1 b2 B2 SH MD
      go_upto_region 3 with (refine st_store rfl _ _ rfl rfl rfl N2.out ?_)
      clear N2
      generalize (w2.alloc (.cells Try.zeroCells36 36)).setRow w2.heap.size (stC S) = w3 at *
      generalize w2.heap.size = gs at *
      go_upto_region 5 with fail
      go_wp2_with (first | (refine st_load rfl _ rfl rfl Y3.out ?_) | fail)
      refine (AL.out _).mono ?_; rintro e w5 ⟨rfl, b5⟩
      have X5 := Lib.hid (below_next' X3.out b5)
      have Y5 := Lib.hid (Y3.out.after b5)
      clear X3 Y3 b5 AL
      go_wp2_with (first | (refine st_load_w (by kernel_rfl) _ rfl rfl Y5.out ?_) | fail)
      refine (A1.out _).mono ?_; rintro e w9 ⟨rfl, b9⟩
      have X9 := Lib.hid (below_next' X5.out b9)
      have Y9 := Lib.hid (Y5.out.after b9)
      clear X5 Y5 b9 A1
      go_wp2_with fail
      go_ret
      exact ⟨rfl, X9.out⟩
    · simp only [Bool.true_and] at k1
      subst k1
      go_enter Try.func7, Try.ntmps7
      go_wp2_with fail
      refine (SH.out _).mono ?_; rintro e w1 ⟨rfl, b1⟩
      go_wp2_with fail
      refine (MD.out _ b1).mono ?_; rintro e w2 ⟨rfl, b2⟩
      have B2 := below_next' b1 b2
      have hl2 := Lib.hid B2.size
      have N2 := Lib.hid (stB.newz w2 rfl)
      have X3 := Lib.hid (below_row (below_alloc B2 (.cells Try.zeroCells36 36)) (g := w2.heap.size) B2.size (stC S))
      have Y3 := Lib.hid (st_row N2.out S)
      clear b1 b2 B2 SH MD
      go_upto_region 3 with (refine st_store rfl _ _ rfl rfl rfl N2.out ?_)
      clear N2
      generalize (w2.alloc (.cells Try.zeroCells36 36)).setRow w2.heap.size (stC S) = w3 at *
      generalize w2.heap.size = gs at *
      go_upto_region 5 with fail
      go_wp2_with (first | (refine st_load rfl _ rfl rfl Y3.out ?_) | fail)
      refine (AL.out _).mono ?_; rintro e w5 ⟨rfl, b5⟩
      have X5 := Lib.hid (below_next' X3.out b5)
      have Y5 := Lib.hid (Y3.out.after b5)
      clear X3 Y3 b5 AL
      go_wp2_with (first | (refine st_load_w (by kernel_rfl) _ rfl rfl Y5.out ?_) | fail)
      refine (A1.out _).mono ?_; rintro e w9 ⟨rfl, b9⟩
      have X9 := Lib.hid (below_next' X5.out b9)
      have Y9 := Lib.hid (Y5.out.after b9)
      clear X5 Y5 b9 A1
      go_wp2_with (first | (refine st_load_w (by kernel_rfl) _ rfl rfl Y9.out ?_) | fail)
      refine (A2.out _).mono ?_; rintro e w10 ⟨rfl, b10⟩
      replace X9 := Lib.hid (below_next' X9.out b10)
      clear b10
      go_wp2_with fail
      go_ret
      refine ⟨end_bool ?_, X9.out⟩
      cases F0 <;> rfl
  · have hon1 : ¬ (o : Int) + (n : Int) ≤ 512 := by omega
    have hon2 : 512 < (o : Int) + (n : Int) := by omega
    have d1 : decide ((o : Int) + (n : Int) ≤ 512) = false := decide_eq_false hon1
    have d2 : decide (512 < (o : Int) + (n : Int)) = true := decide_eq_true hon2
    have k1 := key.out.2 hon
    subst k1
    clear hon start key
    go_enter Try.func7, Try.ntmps7
    go_wp2_with fail
    refine (SH.out _).mono ?_; rintro e w1 ⟨rfl, b1⟩
    go_wp2_with fail
    refine (MD.out _ b1).mono ?_; rintro e w2 ⟨rfl, b2⟩
    have B2 := below_next' b1 b2
    have hl2 := Lib.hid B2.size
    have N2 := Lib.hid (stB.newz w2 rfl)
    have X3 := Lib.hid (below_row (below_alloc B2 (.cells Try.zeroCells36 36)) (g := w2.heap.size) B2.size (stC S))
    have Y3 := Lib.hid (st_row N2.out S)
    clear b1 b2 B2 SH MD
    go_upto_region 3 with (refine st_store rfl _ _ rfl rfl rfl N2.out ?_)
    clear N2
    generalize (w2.alloc (.cells Try.zeroCells36 36)).setRow w2.heap.size (stC S) = w3 at *
    generalize w2.heap.size = gs at *
    go_upto_region 5 with fail
    go_wp2_with (first | (refine st_load rfl _ rfl rfl Y3.out ?_) | fail)
    refine (AL.out _).mono ?_; rintro e w5 ⟨rfl, b5⟩
    have X5 := Lib.hid (below_next' X3.out b5)
    have Y5 := Lib.hid (Y3.out.after b5)
    clear X3 Y3 b5 AL
    go_wp2_with fail
    go_ret
    exact ⟨rfl, X5.out⟩

end Go.Proofs.Ytdgckjkdimnpoaa

namespace Go.Proofs.Ytdgckjkdimnpoaa
open Go.ChangeShapes Go.WideShapes Go.ChangeAt Go.RowKit
set_option linter.unusedVariables false

set_option maxRecDepth 100000 in
theorem sparts_lifted (os : Os) (started : os.Started) (H : Type) (enc : TypeId × Value → H) :
    ReturnsInHanded {} Try.checked os 7 .any (Rows.statePartsSpec.pre6 enc Try.prog Try.f7 Rows.statePartsRow.domain false) (Rows.statePartsSpec.post enc Try.prog Try.f7 false true false false) := by
  refine law_lifted (C := Try.checked) own_none started (by kernel_rfl) Try.func7
    (ChangeSpec.witness6 (enc := enc) (C := Try.checked) false ⟨#[], #[.slice none 0 0, .int .u16 0, .int .u16 0, .int .u16 0], []⟩ 8 (by kernel_rfl) (by kernel_rfl) (by kernel_rfl) (by kernel_rfl))
    laid_out rfl rfl Try.underlying4 (by kernel_rfl) (fun ds hd => by match ds, hd with | [d1, d2, d3, d4], _ => rfl) ?_
  intro W base args ds p hval hA
  rw [Try.params7] at hval hA
  obtain ⟨v0, v1, v2, v3, d0, d1, d2, d3, p0, p1, p2, p3, rfl, rfl, rfl, h0, h1, h2, h3⟩ := trodAll_four hA
  obtain ⟨A, c, l, rfl, wl, vl, hc, hm⟩ := open_sacts (hval 0 _ _ rfl rfl) h0
  obtain ⟨off, rfl, _, _, woff⟩ := open_int Try.underlying55 (hval 1 _ _ rfl rfl) h1
  obtain ⟨size, rfl, _, _, wsize⟩ := open_int Try.underlying55 (hval 2 _ _ rfl rfl) h2
  obtain ⟨at_, rfl, _, _, wat_⟩ := open_int Try.underlying55 (hval 3 _ _ rfl rfl) h3
  exact sparts_walk A c l off size at_ W wl vl hc hm (bounds_u16 woff) (bounds_u16 wsize) (bounds_u16 wat_)

theorem sparts_holds : Rows.StatePartsSaid :=
  OpenClaim.holds_of_wide 7 Try.f7 rfl rfl rfl rfl rfl rfl rfl ⟨rfl, rfl, rfl, rfl, rfl⟩ rfl rfl rfl rfl rfl (by kernel_rfl) Try.func7 (by kernel_rfl)
    (of_decide_eq_true (by kernel_rfl)) (by unfold Func.isWrapper; first | (rw [if_pos (by decide +kernel)]; kernel_rfl) | (rw [if_neg (by decide +kernel)]; exact ⟨rfl, rfl⟩))
    (fun os started H enc _ => sparts_lifted os started H enc)

#print axioms sparts_holds
end Go.Proofs.Ytdgckjkdimnpoaa
