/-
  The statement ValMoves: for every Val, number, and way, the law returns true, and its arguments read as they did.
  Conditions: none beyond the row's own.
-/
import Derived.Test.YtgjcbcpedoihaaaMg11

namespace Go.Proofs.Ytgjcbcpedoihaaa
open Go Go.RowKit
set_option maxRecDepth 100000
set_option linter.unusedVariables false
set_option linter.unusedSimpArgs false

theorem bv_neg (b : BitVec 64) : (-(b.toNat : Int)) % 18446744073709551616 = ((-b).toNat : Int) := by
  have hb := b.isLt
  have e : (-b).toNat = (18446744073709551616 - b.toNat) % 18446744073709551616 := BitVec.toNat_neg b
  rw [e]
  omega
theorem vM_some {v x : Vl} {b : BitVec 64} (h : vM v b = some x) : vP v = true ∧ near (asI b) = true ∧ near (v.o + asI b) = true ∧ x = { v with o := v.o + asI b } := by
  unfold vM at h
  split at h
  · rename_i hc
    simp only [Bool.and_eq_true] at hc
    exact ⟨hc.1, hc.2.1, hc.2.2, (Option.some.inj h).symm⟩
  · cases h
theorem asI_neg {b : BitVec 64} (h : near (asI b) = true) : asI (-b) = -asI b := by
  obtain ⟨h1, h2⟩ := near_iff.mp h
  have hb := b.isLt
  have e : (-b).toNat = (18446744073709551616 - b.toNat) % 18446744073709551616 := BitVec.toNat_neg b
  unfold asI at *
  rw [e]
  split at h1 <;> split <;> omega
theorem vP_move {v : Vl} {o : Int} (h : vP v = true) (ho : near o = true) : vP { v with o := o } = true := by
  unfold vP at *
  have h2 := (Bool.and_eq_true_iff.mp h).2
  rw [vR_move (by unfold vP; exact h), ho]
  exact h2
theorem vM_back {v x : Vl} {b : BitVec 64} (h : vM v b = some x) : vM x (-b) = some v := by
  obtain ⟨h1, h2, h3, rfl⟩ := vM_some h
  have hn : near (-asI b) = true := by
    obtain ⟨k1, k2⟩ := near_iff.mp h2
    exact near_iff.mpr (by omega)
  have e : v.o + asI b + -asI b = v.o := by omega
  unfold vM
  rw [asI_neg h2, vP_move h1 h3, hn]
  dsimp only
  rw [e, (vR_parts (vP_right h1)).2.2.2]
  rfl
theorem at_move {a o : Int} {n b : BitVec 64} (h : (n.toNat : Int) = atI a o) : ((n + b).toNat : Int) = atI a (o + asI b) := by
  have e : (n + b).toNat = (n.toNat + b.toNat) % 18446744073709551616 := BitVec.toNat_add n b
  have hb := b.isLt
  rw [e]
  unfold atI at *
  unfold asI
  split <;> omega
theorem vInM_iff {i o n : Int} : vInM i o n = true ↔ ∃ s : Nat, s < 1024 ∧ n = atI (tArea i s) o := by
  unfold vInM
  rw [List.any_eq_true]
  constructor
  · rintro ⟨s, hs, h⟩; exact ⟨s, List.mem_range.mp hs, beq_iff_eq.mp h⟩
  · rintro ⟨s, hs, h⟩; exact ⟨s, List.mem_range.mpr hs, beq_iff_eq.mpr h⟩
theorem vIs_move {v x : Vl} {n b : BitVec 64} (h : vM v b = some x) (hi : vIs v n true = true) : vIs x (n + b) true = true := by
  obtain ⟨h1, h2, h3, rfl⟩ := vM_some h
  unfold vIs at *
  rw [vR_move h1, h3]
  have hk := vP_kinds h1
  have h4 := (Bool.and_eq_true_iff.mp hi).2
  simp only [Bool.true_and] at h4 ⊢
  simp only [beq_iff_eq] at hk
  have e0 : (v.k == 0) = false := by
    rw [beq_eq_false_iff_ne]
    rcases hk with k | k | k <;> omega
  rw [e0, Bool.false_or] at h4
  rw [e0, Bool.false_or]
  unfold vHas at *
  rcases hk with k | k | k
  · rw [k] at h4 ⊢
    exact beq_iff_eq.mpr (at_move (beq_iff_eq.mp h4))
  · rw [k] at h4 ⊢
    exact beq_iff_eq.mpr (at_move (beq_iff_eq.mp h4))
  · rw [k] at h4 ⊢
    obtain ⟨s, hs, e⟩ := vInM_iff.mp h4
    exact vInM_iff.mpr ⟨s, hs, at_move e⟩
theorem vM_in {v x : Vl} {b : BitVec 64} (hv : vIn v) (h : vM v b = some x) : vIn x := by
  obtain ⟨h1, h2, h3, rfl⟩ := vM_some h
  have := near_iff.mp h3
  exact ⟨hv.1, hv.2.1, hv.2.2.1, by dsimp only; omega⟩
set_option maxRecDepth 100000 in
set_option maxHeartbeats 8000000 in
theorem vmoves_walk (v : Vl) (n b : BitVec 64) (w : World) (hv : vIn v) : Calls Try.prog 6 #[vV v, uV n, uV b] w (Gives (.bool true) w) := by
  have SH := Lib.hid l12_shown
  have MP := Lib.hid fun w => vp_move v b w hv
  have X0 := Lib.hid ((Blks.start w).new (vCells v) 30)
  cases hM : vM v b with
  | none =>
    rw [hM] at MP
    go_enter Try.func6, Try.ntmps6
    go_wp2_with fail
    refine (SH.out _).mono ?_; rintro e w1 ⟨rfl, b1⟩
    have X1 := Lib.hid (X0.out.after b1)
    clear X0 b1 SH
    obtain ⟨c0, c1, c2, c3, c4, c5, c6⟩ := vB.cells (X1.out.get (g := w.heap.size) (cs := vCells v) (t := 30) (by simp))
    go_wp2_with fail
    refine (MP.out _).mono ?_; rintro e w2 ⟨rfl, b2⟩
    have X2 := Lib.hid (X1.out.after b2)
    clear X1 b2 MP c0 c1 c2 c3 c4 c5 c6
    simp only [Option.getD_none, Option.isSome_none, vZ, fZ]
    go_wp2_with fail
    go_ret
    exact ⟨rfl, below_alloc X2.out.1 _⟩
  | some x =>
    have hP := (vM_some hM).1
    have hx := vM_in hv hM
    have MB := Lib.hid fun w => vp_move x (-b) w hx
    have P1 := Lib.hid fun w => vp_pointer v w hv
    have P2 := Lib.hid fun w => vp_pointer x w hx
    have I1 := Lib.hid fun w => vp_is v n true w hv
    have I2 := Lib.hid fun w => vp_is x (n + b) true w hx
    have hk : Hid (x.k = v.k) := Lib.hid (by rw [(vM_some hM).2.2.2])
    have HI : Hid (vIs v n true = true → vIs x (n + b) true = true) := Lib.hid (vIs_move hM)
    have hP2 : vP x = true := by
      obtain ⟨q1, q2, q3, rfl⟩ := vM_some hM
      exact vP_move q1 q3
    rw [hM] at MP
    rw [vM_back hM] at MB
    rw [hP] at P1
    rw [hP2] at P2
    have hneg : IntKind.u64.wrap (-(b.toNat : Int)) = ((-b).toNat : Int) := by rw [IntKind.wrap_u64]; exact bv_neg b
    have hadd : IntKind.u64.wrap ((n.toNat : Int) + (b.toNat : Int)) = ((n + b).toNat : Int) := by rw [IntKind.wrap_u64]; exact bv_add n b
    simp only [Option.getD_some, Option.isSome_some] at MP MB
    generalize vIs v n true = p at *
    generalize vIs x (n + b) true = q at *
    generalize -b = nb at *
    generalize n + b = m at *
    clear hM hP hP2 hv
    go_enter Try.func6, Try.ntmps6
    go_wp2_with fail
    refine (SH.out _).mono ?_; rintro e w1 ⟨rfl, b1⟩
    have X1 := Lib.hid (X0.out.after b1)
    clear X0 b1 SH
    obtain ⟨c0, c1, c2, c3, c4, c5, c6⟩ := vB.cells (X1.out.get (g := w.heap.size) (cs := vCells v) (t := 30) (by simp))
    go_wp2_with fail
    refine (MP.out _).mono ?_; rintro e w2 ⟨rfl, b2⟩
    have X2 := Lib.hid ((X1.out.after b2).new (vCells x) 30)
    clear X1 b2 MP c0 c1 c2 c3 c4 c5 c6
    go_wp2_with fail
    generalize w2.alloc (.cells (vCells x) 30) = w3 at *
    generalize w2.heap.size = gx at *
    refine (MB.out _).mono ?_; rintro e w4 ⟨rfl, b4⟩
    have X4 := Lib.hid (X2.out.after b4)
    have X5 := Lib.hid (X4.out.new (vCells v) 30)
    obtain ⟨c0, c1, c2, c3, c4, c5, c6⟩ := vB.cells (X4.out.get (g := w.heap.size) (cs := vCells v) (t := 30) (by simp))
    have z1 := Blk.lt (X4.out.get (g := w.heap.size) (cs := vCells v) (t := 30) (by simp))
    clear X2 X4 b4 MB hneg
    go_wp2_with fail
    clear c0 c1 c2 c3 c4 c5 c6 z1
    generalize w4.alloc (.cells (vCells v) 30) = w5 at *
    generalize w4.heap.size = gy at *
    refine (P1.out _).mono ?_; rintro e w6 ⟨rfl, b6⟩
    have X6 := Lib.hid (X5.out.after b6)
    clear X5 b6 P1
    obtain ⟨c0, c1, c2, c3, c4, c5, c6⟩ := vB.cells (X6.out.get (g := gx) (cs := vCells x) (t := 30) (by simp))
    go_wp2_with fail
    refine (P2.out _).mono ?_; rintro e w7 ⟨rfl, b7⟩
    have X7 := Lib.hid (X6.out.after b7)
    clear X6 b7 P2 c0 c1 c2 c3 c4 c5 c6
    obtain ⟨c0, c1, c2, c3, c4, c5, c6⟩ := vB.cells (X7.out.get (g := gx) (cs := vCells x) (t := 30) (by simp))
    obtain ⟨d0, d1, d2, d3, d4, d5, d6⟩ := vB.cells (X7.out.get (g := w.heap.size) (cs := vCells v) (t := 30) (by simp))
    rw [hk.out] at c0
    go_wp2_with fail
    refine (I1.out _).mono ?_; rintro e w8 ⟨rfl, b8⟩
    have X8 := Lib.hid (X7.out.after b8)
    clear X7 b8 I1 c0 c1 c2 c3 c4 c5 c6 d0 d1 d2 d3 d4 d5 d6
    cases p
    · clear HI hk
      obtain ⟨c0, c1, c2, c3, c4, c5, c6⟩ := vB.cells (X8.out.get (g := gy) (cs := vCells v) (t := 30) (by simp))
      obtain ⟨d0, d1, d2, d3, d4, d5, d6⟩ := vB.cells (X8.out.get (g := w.heap.size) (cs := vCells v) (t := 30) (by simp))
      go_wp2_with fail
      go_ret
      exact ⟨rfl, X8.out.1⟩
    · have hq := HI.out rfl
      subst hq
      clear HI hk
      obtain ⟨c0, c1, c2, c3, c4, c5, c6⟩ := vB.cells (X8.out.get (g := gx) (cs := vCells x) (t := 30) (by simp))
      go_wp2_with fail
      refine (I2.out _).mono ?_; rintro e w9 ⟨rfl, b9⟩
      have X9 := Lib.hid (X8.out.after b9)
      clear X8 b9 I2 c0 c1 c2 c3 c4 c5 c6
      obtain ⟨c0, c1, c2, c3, c4, c5, c6⟩ := vB.cells (X9.out.get (g := gy) (cs := vCells v) (t := 30) (by simp))
      obtain ⟨d0, d1, d2, d3, d4, d5, d6⟩ := vB.cells (X9.out.get (g := w.heap.size) (cs := vCells v) (t := 30) (by simp))
      go_wp2_with fail
      go_ret
      exact ⟨rfl, X9.out.1⟩

end Go.Proofs.Ytgjcbcpedoihaaa

namespace Go.Proofs.Ytgjcbcpedoihaaa
open Go.ChangeShapes Go.WideShapes Go.ChangeAt Go.RowKit
set_option linter.unusedVariables false

set_option maxRecDepth 100000 in
theorem vmoves_lifted (os : Os) (started : os.Started) (H : Type) (enc : TypeId × Value → H) :
    ReturnsInHanded {} Try.checked os 6 .any (Rows.valMovesSpec.pre6 enc Try.prog Try.f6 Rows.valMovesRow.domain false) (Rows.valMovesSpec.post enc Try.prog Try.f6 false true false false) := by
  refine law_lifted (C := Try.checked) own_none started (by kernel_rfl) Try.func6
    (ChangeSpec.witness6 (enc := enc) (C := Try.checked) false ⟨#[], #[.agg #[.int .u8 0, .int .u64 0, .int .u64 0, .int .u64 0, .int .u64 0, .int .i64 0, .int .i64 0], .int .u64 0, .int .u64 0], []⟩ 8 (by kernel_rfl) (by kernel_rfl) (by kernel_rfl) (by kernel_rfl))
    laid_out rfl rfl Try.underlying4 (by kernel_rfl) (fun ds hd => by match ds, hd with | [d1, d2, d3], _ => rfl) ?_
  intro W base args ds p hval hA
  rw [Try.params6] at hval hA
  obtain ⟨v0, v1, v2, d0, d1, d2, p0, p1, p2, rfl, rfl, rfl, h0, h1, h2⟩ := trodAll_three hA
  obtain ⟨v, rfl, wv⟩ := open_val (hval 0 _ _ rfl rfl) h0
  obtain ⟨n, rfl, _, _, wn⟩ := open_int Try.underlying22 (hval 1 _ _ rfl rfl) h1
  obtain ⟨n, rfl⟩ := bv_of (bounds_u64 wn)
  obtain ⟨b, rfl, _, _, wb⟩ := open_int Try.underlying22 (hval 2 _ _ rfl rfl) h2
  obtain ⟨b, rfl⟩ := bv_of (bounds_u64 wb)
  exact vmoves_walk v n b W wv

theorem vmoves_holds : Rows.ValMovesSaid :=
  OpenClaim.holds_of_wide 6 Try.f6 rfl rfl rfl rfl rfl rfl rfl ⟨rfl, rfl, rfl, rfl, rfl⟩ rfl rfl rfl rfl rfl (by kernel_rfl) Try.func6 (by kernel_rfl)
    (of_decide_eq_true (by kernel_rfl)) (by unfold Func.isWrapper; first | (rw [if_pos (by decide +kernel)]; kernel_rfl) | (rw [if_neg (by decide +kernel)]; exact ⟨rfl, rfl⟩))
    (fun os started H enc _ => vmoves_lifted os started H enc)

#print axioms vmoves_holds
end Go.Proofs.Ytgjcbcpedoihaaa
