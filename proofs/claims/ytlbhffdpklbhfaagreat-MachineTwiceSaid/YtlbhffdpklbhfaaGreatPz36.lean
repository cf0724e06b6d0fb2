/-
  Texts, one behind the other: MachDo, MachStep.
  Conditions: those that each theorem states.
-/
import Derived.Deep.DeepCutAuto
import Derived.Test.YtlbhffdpklbhfaaGreatPz35
namespace Go.Proofs.YtlbhffdpklbhfaaGreat
open Go.RowKit
set_option maxRecDepth 100000
set_option linter.unusedVariables false
set_option linter.unusedSimpArgs false
theorem swapV_rng (t : Bool) (k a : Int) (ha : 0 ≤ a ∧ a ≤ 18446744073709551615) : 0 ≤ swapV t k a ∧ swapV t k a ≤ 18446744073709551615 := by
  unfold swapV
  split
  · split
    · exact swapW_range _ _
    · rename_i h _
      rcases h with rfl | rfl | rfl
      · show 0 ≤ a % 65536 ∧ a % 65536 ≤ _; omega
      · show 0 ≤ a % 4294967296 ∧ a % 4294967296 ≤ _; omega
      · show 0 ≤ a % 18446744073709551616 ∧ a % 18446744073709551616 ≤ _; omega
  · omega
theorem mValue_rng {S : MS} (h : S.ok) (hM : PMok S.M) (x : Ins) (v : Wh) (hr : RegOk x) : 0 ≤ (mValue S x v).1 ∧ (mValue S x v).1 ≤ 18446744073709551615 := by
  have z : 0 ≤ (0 : Int) ∧ (0 : Int) ≤ 18446744073709551615 := by omega
  unfold mValue
  split
  · unfold mArith
    split
    · split
      · exact aluV_range _ _ _ _ _
      · exact z
    · exact z
  · split
    · unfold mSwap
      split
      · exact swapV_rng _ _ _ (rd_rng h _ hr.1)
      · exact z
    · split
      · show 0 ≤ longI _ _ ∧ longI _ _ ≤ _
        unfold longI
        omega
      · split
        · unfold mTable
          split
          · exact z
          · exact word_rng _
        · unfold mLoad
          have q := pLoad_rng hM (offI (rd S x.src).1 x.off) v.size
          split
          · split
            · exact signW_range _ _ q.1 q.2
            · exact q
          · exact z
theorem sysX_pm {w : World} {g : Nat} {S : MS} {H : Nat → Prop} (h : (sysX g S).R w H) : PMok S.M := by
  obtain ⟨gm, gt, FT, _, _, hT, _, _⟩ := sysX_map h
  obtain ⟨F, G, hD, _⟩ := hT
  exact hD.mem.ok
def IX (w : World) (gx : Nat) (x : Ins) (wr : World) : Prop := Below w.heap.size w wr ∧ iB gx x wr
theorem IX.after {w w1 w2 : World} {gx : Nat} {x : Ins} (h : IX w gx x w1) (b : Below w1.heap.size w1 w2) : IX w gx x w2 := ⟨below_next' h.1 b, h.2.after b⟩
theorem sysX_atc {w : World} {g : Nat} {S : MS} {H : Nat → Prop} (h : (sysX g S).R w H) : w.cell? ⟨g, 27, none⟩ = some (.int .i64 S.at_) := by
  obtain ⟨A, _, hb, _, hok⟩ := sysX_blk h
  exact (xc_tail hb hok.n).1
theorem exitS_at (S : MS) : (exitS S).at_ = S.at_ := by unfold exitS; split <;> rfl
theorem Blk.fiv {g : Nat} {a b c d e : Value} {t : TypeId} {w : World} (h : Blk g #[a, b, c, d, e] t w) :
    (w.cell? ⟨g, 0, none⟩ = some a ∧ w.cell? ⟨g, 1, none⟩ = some b ∧ w.cell? ⟨g, 2, none⟩ = some c ∧ w.cell? ⟨g, 3, none⟩ = some d ∧ w.cell? ⟨g, 4, none⟩ = some e) ∧
    (w.frozen? ⟨g, 0, none⟩ = false ∧ w.frozen? ⟨g, 1, none⟩ = false ∧ w.frozen? ⟨g, 2, none⟩ = false ∧ w.frozen? ⟨g, 3, none⟩ = false ∧ w.frozen? ⟨g, 4, none⟩ = false) :=
  ⟨⟨Blk.cell h 0, Blk.cell h 1, Blk.cell h 2, Blk.cell h 3, Blk.cell h 4⟩, Blk.free h 0, Blk.free h 1, Blk.free h 2, Blk.free h 3, Blk.free h 4⟩
def fiv (w : World) (g : Nat) (a b c d e : Value) : World := ((((w.setCell ⟨g, 0, none⟩ a).setCell ⟨g, 1, none⟩ b).setCell ⟨g, 2, none⟩ c).setCell ⟨g, 3, none⟩ d).setCell ⟨g, 4, none⟩ e
theorem five_below {w0 w : World} {B g : Nat} (h : Below B w0 w) (hg : B ≤ g) (a b c d e : Value) : Below B w0 (fiv w g a b c d e) :=
  ((((h.setCell hg a).setCell hg b).setCell hg c).setCell hg d).setCell hg e
theorem fiv_blk {w : World} {g : Nat} {a0 b0 c0 d0 e0 : Value} {t : TypeId} (h : Blk g #[a0, b0, c0, d0, e0] t w) (a b c d e : Value) : Blk g #[a, b, c, d, e] t (fiv w g a b c d e) :=
  ((((Blk.set h 0 a).set 1 b).set 2 c).set 3 d).set 4 e
def pDoX (S : MS) (x : Ins) (v : Wh) : DS :=
  if v.kind == 12 then (if (rd S 0).2 == 0 then ⟨{ S with over := true }, S.at_, 0⟩ else ⟨S, S.at_, (rd S 0).2⟩)
  else if v.kind == 9 then ⟨S, tgOf S.l S.at_, 0⟩
  else if v.kind == 10 then ⟨S, (mBranch S x v).1, (mBranch S x v).2⟩
  else if v.kind == 11 then ⟨(mCall S x.imm).1, nextOf S.l S.at_, (mCall S x.imm).2⟩
  else if v.kind == 6 || (v.kind == 7 || v.kind == 8) then ⟨{ S with M := (mStore S x v).1 }, nextOf S.l S.at_, (mStore S x v).2⟩
  else if (mValue S x v).2 == 0 then ⟨setR S x.dst (mValue S x v).1, nextOf S.l S.at_, 0⟩
  else ⟨S, 0, (mValue S x v).2⟩
theorem pDo_eq (S : MS) : pDo S = pDoX S (iAt S.l S.at_) (wOf (iAt S.l S.at_)) := rfl
set_option maxHeartbeats 4000000 in
theorem m11_do (w : World) (g : Nat) (S : MS) (H : Nat → Prop) (h : (sysX g S).R w H) (hgo : S.go) :
    Calls Tryz.prog 35 #[.pointer (some ⟨g, 0, none⟩)] w (OpS (sysX g (pDo S).S) H (.tuple #[.int .i64 (pDo S).next, .int .i64 (pDo S).e]) w) := by
  rw [pDo_eq]
  have HH := Lib.hid fun u (b : Below w.heap.size w u) => (sysX g S).after h b
  obtain ⟨A, hA, hb, hl, hok⟩ := sysX_blk h
  obtain ⟨c0, -⟩ := xc_head hb
  obtain ⟨c1, -⟩ := xc_tail hb hok.n
  obtain ⟨gl, o, hal, hgl, i0, i1, i2, i3, i4⟩ := hl.l.at_ hok.at_.1
  have OKX : Hid (S.ok ∧ (iAt S.l S.at_).ok ∧ RegOk (iAt S.l S.at_)) := Lib.hid ⟨hok, hok.xok, hok.reg⟩
  have hw : wOk (iAt S.l S.at_) = true := hok.wOk
  have hlen := chk_len hok.chk
  have CN := Lib.hid fun u (b : Below w.heap.size w u) => c7_Next S.l A.al A.cl S.at_ u hlen (hl.l.after b)
  have CW := Lib.hid fun u => c7_What (iAt S.l S.at_) hok.xok u
  rw [hw] at CW
  have SZ := Lib.hid (size_rng hw)
  have HALF : Hid ((wOf (iAt S.l S.at_)).kind = 3 ∨ (wOf (iAt S.l S.at_)).kind = 4 → S.at_ + 1 < S.l.length) := Lib.hid (fun hk => hok.half hk)
  have IMM : Hid ((wOf (iAt S.l S.at_)).kind = 4 → 0 ≤ (iAt S.l S.at_).imm) := Lib.hid (fun hk => hok.imm hk)
  have a0 : (0 : Int) ≤ S.at_ := by omega
  have a1 : (S.at_ : Int) < S.l.length := by have := hok.at_.1; omega
  have PMK := Lib.hid (sysX_pm h)
  rw [hal] at c0 CN
  have HX := Lib.hid (And.intro c0 (And.intro c1 (And.intro i0 (And.intro i1 (And.intro i2 (And.intro i3 i4))))))
  have SAME := Lib.hid fun u (b : Below w.heap.size w u) => Tn.refl h b
  have HGO := Lib.hid hgo
  clear hA hb hl hok hal hlen hgo hw h c0 c1 i0 i1 i2 i3 i4
  generalize wOf (iAt S.l S.at_) = v at *
  generalize iAt S.l S.at_ = x at *
  generalize hnx : nextOf S.l S.at_ = nx at *
  generalize hR : pDoX S x v = R at *
  have HR := Lib.hid hR
  have HNX := Lib.hid hnx
  clear hR hnx
  have KK := Lib.hid (fun (wx : World) (hx : Below w.heap.size w wx) => And.intro (cell_on HX.out.1 hx) (And.intro (cell_on HX.out.2.1 hx) (And.intro (cell_on HX.out.2.2.1 hx) (And.intro (cell_on HX.out.2.2.2.1 hx) (And.intro (cell_on HX.out.2.2.2.2.1 hx) (And.intro (cell_on HX.out.2.2.2.2.2.1 hx) (cell_on HX.out.2.2.2.2.2.2 hx)))))))
  go_enter Tryz.func35, Tryz.ntmps35
  go_upto_region 1 with fail
  go_cut [4, 5] (fun xv nv wr => ∃ gx, xv = .pointer (some ⟨gx, 0, none⟩) ∧ nv = .int .i64 nx ∧ Hid (IX w gx x wr))
  case first =>
    have HB : Below w.heap.size w w.drew := Below.drew (Below.refl _ _)
    have HA1 : Below w.heap.size w ((w.alloc (.cells #[.int .u8 0, .int .u8 0, .int .u8 0, .int .i16 0, .int .i32 0] 63)).drew) := Below.drew (below_alloc (Below.refl _ _) _)
    have BZ : Hid (Blk w.heap.size #[.int .u8 0, .int .u8 0, .int .u8 0, .int .i16 0, .int .i32 0] 63 ((w.alloc (.cells #[.int .u8 0, .int .u8 0, .int .u8 0, .int .i16 0, .int .i32 0] 63)).drew)) := Lib.hid (Blk.new w _ _ rfl)
    go_region_held3 (fun w' => w'.cell? ⟨g, 0, none⟩ = some (.slice (some ⟨gl, o, none⟩) S.l.length A.cl) ∧ w'.cell? ⟨g, 27, none⟩ = some (.int .i64 S.at_) ∧
        w'.cell? ⟨gl, o + S.at_ * 5, none⟩ = some (.int .u8 x.op) ∧ w'.cell? ⟨gl, o + S.at_ * 5 + 1, none⟩ = some (.int .u8 x.dst) ∧ w'.cell? ⟨gl, o + S.at_ * 5 + 2, none⟩ = some (.int .u8 x.src) ∧ w'.cell? ⟨gl, o + S.at_ * 5 + 3, none⟩ = some (.int .i16 x.off) ∧ w'.cell? ⟨gl, o + S.at_ * 5 + 4, none⟩ = some (.int .i32 x.imm))
      (first
        | exact KK.out _ HB
        | exact KK.out _ HA1
        | exact KK.out _ (below_alloc HB _)
        | exact KK.out _ (five_below HB (Nat.le_refl _) _ _ _ _ _))
      (first
        | (go_at_call 63; refine (CN.out _ HB).mono ?_; rintro e w3 ⟨rfl, b3⟩; replace HB := below_next' HB b3; clear b3)
        | (go_at_call 63; refine (CN.out _ HA1).mono ?_; rintro e w3 ⟨rfl, b3⟩; replace HB := below_next' HA1 b3; have BX3 := Lib.hid (BZ.out.after b3); clear b3; obtain ⟨⟨z0, z1, z2, z3, z4⟩, f0, f1, f2, f3, f4⟩ := Blk.fiv BX3.out))
    all_goals
      go_wp2_with fail
      go_meet
      first
        | exact ⟨_, rfl, rfl, Lib.hid ⟨below_alloc HB _, iB.new w3 x rfl⟩⟩
        | exact ⟨_, rfl, rfl, Lib.hid ⟨five_below HB (Nat.le_refl _) _ _ _ _ _, fiv_blk BX3.out _ _ _ _ _⟩⟩
  case rest =>
    obtain ⟨gx, rfl, rfl, Q⟩ := hcut
    clear KK CN HX a0 a1 hgl
    obtain ⟨p0, p1, p2, p3, p4⟩ := Q.out.2.cells
    have k1 := Q.out.2.lt
    go_wp2_with fail
    refine (CW.out _).mono ?_
    rintro e w1 ⟨rfl, b1⟩
    have VB := Lib.hid (whB.new w1 v rfl)
    replace Q := Lib.hid ((Q.out.after b1).after (below_alloc (Below.refl _ _) (.cells (whCells v) 96)))
    clear b1 CW p0 p1 p2 p3 p4 k1
    obtain ⟨p0, p1, p2, p3, p4⟩ := Q.out.2.cells
    obtain ⟨z0, z1, z2, z3, z4, z5⟩ := VB.out.cells
    have k1 := Q.out.2.lt
    have k2 := VB.out.lt
    cases k12 : (v.kind == 12)
    rotate_left 1
    · have HE : Hid (R = if (rd S 0).2 == 0 then ⟨exitS S, S.at_, 0⟩ else ⟨S, S.at_, (rd S 0).2⟩) := Lib.hid (by
        rw [← HR.out]
        unfold pDoX exitS
        rw [k12, if_pos rfl]
        cases hq : ((rd S 0).2 == 0)
        · rw [if_neg Bool.false_ne_true, if_neg Bool.false_ne_true]
        · rw [if_pos rfl, if_pos rfl, if_pos rfl])
      have HF : Hid (R.S = exitS S ∧ R.next = S.at_ ∧ R.e = (rd S 0).2) := Lib.hid (by
        rw [HE.out]
        unfold exitS
        cases hq : ((rd S 0).2 == 0)
        · rw [if_neg Bool.false_ne_true, if_neg Bool.false_ne_true]; exact ⟨rfl, rfl, rfl⟩
        · rw [if_pos rfl, if_pos rfl]; exact ⟨rfl, rfl, (by simpa using hq : (rd S 0).2 = 0).symm⟩)
      have CX := Lib.hid fun u (b : Below w.heap.size w u) => m11_exit u g S H (HH.out u b)
      have AT := Lib.hid fun u (b : Below w.heap.size w u) => sysX_atc (HH.out u b)
      have AE := Lib.hid fun (u : World) (F : Nat → Prop) (hF : (sysX g (exitS S)).R u F) => (sysX_atc hF : u.cell? ⟨g, 27, none⟩ = some (.int .i64 ((exitS S).at_ : Int)))
      rw [exitS_at] at AE
      clear HE
      go_wp2_with fail
      have HB := Below.drew (Below.refl (w1.alloc (.cells (whCells v) 96)).heap.size (w1.alloc (.cells (whCells v) 96)))
      have HQ := below_next' Q.out.1 HB
      clear p0 p1 p2 p3 p4 z0 z1 z2 z3 z4 z5
      go_region_held3 (fun w' => w'.cell? ⟨g, 27, none⟩ = some (.int .i64 S.at_))
        (first
          | exact AT.out _ HQ
          | exact AE9.out)
        (first | (go_at_call 65; refine (CX.out _ HQ).mono ?_; rintro e w9 ⟨rfl, t9⟩; have TT := Lib.hid (Tn.before HQ t9); have AE9 := Lib.hid (t9.elim fun F hF => AE.out _ F hF.1); clear t9))
      all_goals
        go_wp2_with fail
        go_ret2
        rw [HF.out.1, HF.out.2.1, HF.out.2.2]
        exact ⟨rfl, TT.out⟩
    cases k9 : (v.kind == 9)
    rotate_left 1
    · have HF : Hid (R = ⟨S, tgOf S.l S.at_, 0⟩) := Lib.hid (by
        rw [← HR.out]
        unfold pDoX
        rw [k12, if_neg Bool.false_ne_true, k9, if_pos rfl])
      have CX := Lib.hid fun u (b : Below w.heap.size w u) => m11_target u g S H (HH.out u b)
      go_wp2_with fail
      refine (CX.out _ Q.out.1).mono ?_
      rintro e w9 ⟨rfl, b9⟩
      have TT := Lib.hid (SAME.out _ (below_next' Q.out.1 b9))
      clear b9
      go_wp2_with fail
      go_ret2
      rw [HF.out]
      exact ⟨rfl, TT.out⟩
    cases k10 : (v.kind == 10)
    rotate_left 1
    · have HF : Hid (R = ⟨S, (mBranch S x v).1, (mBranch S x v).2⟩) := Lib.hid (by
        rw [← HR.out]
        unfold pDoX
        rw [k12, if_neg Bool.false_ne_true, k9, if_neg Bool.false_ne_true, k10, if_pos rfl])
      have CX := Lib.hid fun u (b : Below w.heap.size w u) => m11_branch u g S H x v (HH.out u b) OKX.out.2.2 OKX.out.2.1
      rw [HNX.out] at CX
      go_wp2_with fail
      refine (CX.out _ Q.out.1).mono ?_
      rintro e w9 ⟨rfl, b9⟩
      have TT := Lib.hid (SAME.out _ (below_next' Q.out.1 b9))
      clear b9
      go_wp2_with fail
      go_ret2
      rw [HF.out]
      exact ⟨rfl, TT.out⟩
    cases k11 : (v.kind == 11)
    rotate_left 1
    · have HF : Hid (R = ⟨(mCall S x.imm).1, nx, (mCall S x.imm).2⟩) := Lib.hid (by
        rw [← HR.out, ← HNX.out]
        unfold pDoX
        rw [k12, if_neg Bool.false_ne_true, k9, if_neg Bool.false_ne_true, k10, if_neg Bool.false_ne_true, k11, if_pos rfl])
      have CX := Lib.hid fun u (b : Below w.heap.size w u) => m11_call u g S H x.imm (HH.out u b) HGO.out
      have e1 : wrap64 x.imm = x.imm := by have := OKX.out.2.1.2.2.2.2; unfold wrap64; omega
      go_wp2_with fail
      refine (CX.out _ Q.out.1).mono ?_
      rintro e w9 ⟨rfl, t9⟩
      have TT := Lib.hid (Tn.before Q.out.1 t9)
      clear t9
      go_wp2_with fail
      go_ret2
      rw [HF.out]
      exact ⟨rfl, TT.out⟩
    cases k6 : (v.kind == 6)
    rotate_left 1
    · have HF : Hid (R = ⟨{ S with M := (mStore S x v).1 }, nx, (mStore S x v).2⟩) := Lib.hid (by
        rw [← HR.out, ← HNX.out]
        unfold pDoX
        rw [k12, if_neg Bool.false_ne_true, k9, if_neg Bool.false_ne_true, k10, if_neg Bool.false_ne_true, k11, if_neg Bool.false_ne_true, if_pos (by rw [k6]; rfl)])
      have CX := Lib.hid fun u (b : Below w.heap.size w u) => m11_store u g S H x v (HH.out u b) OKX.out.2.2 OKX.out.2.1 SZ.out
      go_wp2_with fail
      refine (CX.out _ Q.out.1).mono ?_
      rintro e w9 ⟨rfl, t9⟩
      have TT := Lib.hid (Tn.before Q.out.1 t9)
      clear t9
      go_wp2_with fail
      go_ret2
      rw [HF.out]
      exact ⟨rfl, TT.out⟩
    cases k7 : (v.kind == 7)
    rotate_left 1
    · have HF : Hid (R = ⟨{ S with M := (mStore S x v).1 }, nx, (mStore S x v).2⟩) := Lib.hid (by
        rw [← HR.out, ← HNX.out]
        unfold pDoX
        rw [k12, if_neg Bool.false_ne_true, k9, if_neg Bool.false_ne_true, k10, if_neg Bool.false_ne_true, k11, if_neg Bool.false_ne_true, if_pos (by rw [k6, k7]; rfl)])
      have CX := Lib.hid fun u (b : Below w.heap.size w u) => m11_store u g S H x v (HH.out u b) OKX.out.2.2 OKX.out.2.1 SZ.out
      go_wp2_with fail
      refine (CX.out _ Q.out.1).mono ?_
      rintro e w9 ⟨rfl, t9⟩
      have TT := Lib.hid (Tn.before Q.out.1 t9)
      clear t9
      go_wp2_with fail
      go_ret2
      rw [HF.out]
      exact ⟨rfl, TT.out⟩
    cases k8 : (v.kind == 8)
    rotate_left 1
    · have HF : Hid (R = ⟨{ S with M := (mStore S x v).1 }, nx, (mStore S x v).2⟩) := Lib.hid (by
        rw [← HR.out, ← HNX.out]
        unfold pDoX
        rw [k12, if_neg Bool.false_ne_true, k9, if_neg Bool.false_ne_true, k10, if_neg Bool.false_ne_true, k11, if_neg Bool.false_ne_true, if_pos (by rw [k6, k7, k8]; rfl)])
      have CX := Lib.hid fun u (b : Below w.heap.size w u) => m11_store u g S H x v (HH.out u b) OKX.out.2.2 OKX.out.2.1 SZ.out
      go_wp2_with fail
      refine (CX.out _ Q.out.1).mono ?_
      rintro e w9 ⟨rfl, t9⟩
      have TT := Lib.hid (Tn.before Q.out.1 t9)
      clear t9
      go_wp2_with fail
      go_ret2
      rw [HF.out]
      exact ⟨rfl, TT.out⟩
    have HF : Hid (R = if (mValue S x v).2 == 0 then ⟨setR S x.dst (mValue S x v).1, nx, 0⟩ else ⟨S, 0, (mValue S x v).2⟩) := Lib.hid (by
      rw [← HR.out, ← HNX.out]
      unfold pDoX
      rw [k12, if_neg Bool.false_ne_true, k9, if_neg Bool.false_ne_true, k10, if_neg Bool.false_ne_true, k11, if_neg Bool.false_ne_true, if_neg (by rw [k6, k7, k8]; decide)])
    have CX := Lib.hid fun u (b : Below w.heap.size w u) => m11_value u g S H x v (HH.out u b) OKX.out.2.2 OKX.out.2.1 SZ.out (fun hk => HALF.out (.inl hk)) IMM.out
    have VR := Lib.hid (mValue_rng OKX.out.1 PMK.out x v OKX.out.2.2)
    have CS := Lib.hid fun u (b : Below w.heap.size w u) => m11_setReg u g S H x.dst (mValue S x v).1 (HH.out u b) OKX.out.2.2.1 VR.out
    clear VR
    generalize mValue S x v = q at *
    obtain ⟨n, en⟩ := q
    dsimp only at *
    cases h5 : (en == 0)
    · have n5 := ne_of_eq0 h5
      rw [h5, if_neg Bool.false_ne_true] at HF
      clear CS h5
      go_wp2_with fail
      refine (CX.out _ Q.out.1).mono ?_
      rintro e w9 ⟨rfl, b9⟩
      have TT := Lib.hid (SAME.out _ (below_next' Q.out.1 b9))
      clear b9
      go_wp2_with fail
      go_ret2
      rw [HF.out]
      exact ⟨rfl, TT.out⟩
    · have n5 := ne_of_eq1 h5
      rw [h5, if_pos rfl] at HF
      clear h5
      go_wp2_with fail
      refine (CX.out _ Q.out.1).mono ?_
      rintro e w9 ⟨rfl, b9⟩
      replace Q := Lib.hid (Q.out.after b9)
      clear b9 p0 p1 p2 p3 p4 z0 z1 z2 z3 z4 z5 k1 k2
      obtain ⟨p0, p1, p2, p3, p4⟩ := Q.out.2.cells
      have k1 := Q.out.2.lt
      go_wp2_with fail
      refine (CS.out _ Q.out.1).mono ?_
      rintro e w10 ⟨rfl, t9⟩
      have TT := Lib.hid (Tn.before Q.out.1 t9)
      clear t9
      go_wp2_with fail
      go_ret2
      rw [HF.out]
      exact ⟨rfl, TT.out⟩
theorem mDone_same (S : MS) (c : Cl) (t : TS) : (mDone S c t).1.l = S.l ∧ (mDone S c t).1.steps = S.steps ∧ (mDone S c t).1.over = S.over ∧ (mDone S c t).1.at_ = S.at_ ∧ (mDone S c t).1.D = S.D := by
  unfold mDone
  split <;> exact ⟨rfl, rfl, rfl, rfl, rfl⟩
theorem mCall_same (S : MS) (id : Int) : (mCall S id).1.l = S.l ∧ (mCall S id).1.steps = S.steps ∧ (mCall S id).1.over = S.over ∧ (mCall S id).1.at_ = S.at_ ∧ (mCall S id).1.D = S.D := by
  unfold mCall
  split
  · split
    · exact mDone_same _ _ _
    · exact ⟨rfl, rfl, rfl, rfl, rfl⟩
  · exact ⟨rfl, rfl, rfl, rfl, rfl⟩
theorem pDo_same (S : MS) : (pDo S).S.l = S.l ∧ (pDo S).S.steps = S.steps ∧ (pDo S).S.at_ = S.at_ ∧ (pDo S).S.D = S.D := by
  rw [pDo_eq]
  unfold pDoX
  split
  · split <;> exact ⟨rfl, rfl, rfl, rfl⟩
  · split
    · exact ⟨rfl, rfl, rfl, rfl⟩
    · split
      · exact ⟨rfl, rfl, rfl, rfl⟩
      · split
        · obtain ⟨h1, h2, _, h4, h5⟩ := mCall_same S (iAt S.l S.at_).imm
          exact ⟨h1, h2, h4, h5⟩
        · split
          · exact ⟨rfl, rfl, rfl, rfl⟩
          · split <;> exact ⟨rfl, rfl, rfl, rfl⟩
theorem pDo_next {S : MS} (h : S.ok) (he : (pDo S).e = 0) : ∃ m : Nat, (pDo S).next = m ∧ m < S.l.length ∧ stAt S.l m = true := by
  have hj : jumpy (iAt S.l S.at_) = true → ∃ m : Nat, tgOf S.l S.at_ = m ∧ m < S.l.length ∧ stAt S.l m = true := (target_in h.chk h.at_.1 h.at_.2).2
  have hn : ends (iAt S.l S.at_) = false → ∃ m : Nat, nextOf S.l S.at_ = m ∧ m < S.l.length ∧ stAt S.l m = true := fun hf => by
    obtain ⟨h1, h2⟩ := next_in h.chk h.at_.1 h.at_.2 hf
    refine ⟨nxt S.l S.at_, ?_, h1, h2⟩
    unfold nextOf
    rw [if_neg (by have := h.at_.1; omega), Int.toNat_natCast]
  rw [pDo_eq] at he ⊢
  unfold pDoX at he ⊢
  unfold ends at hn
  unfold jumpy at hj
  generalize hv : wOf (iAt S.l S.at_) = v at *
  cases k12 : (v.kind == 12)
  rotate_left 1
  · rw [if_pos rfl]
    refine ⟨S.at_, ?_, h.at_⟩
    split <;> rfl
  rw [k12, if_neg Bool.false_ne_true] at he
  rw [if_neg Bool.false_ne_true]
  cases k9 : (v.kind == 9)
  rotate_left 1
  · rw [if_pos rfl]
    exact hj (by rw [k9]; rfl)
  rw [k12, k9] at hn
  have hn' := hn rfl
  rw [k9, if_neg Bool.false_ne_true] at he
  rw [if_neg Bool.false_ne_true]
  cases k10 : (v.kind == 10)
  rotate_left 1
  · rw [if_pos rfl]
    rw [k10, if_pos rfl] at he
    have hj' := hj (by rw [k10, k9]; rfl)
    show ∃ m : Nat, (mBranch S (iAt S.l S.at_) v).1 = m ∧ _
    unfold mBranch at he ⊢
    cases q1 : ((rd S (iAt S.l S.at_).dst).2 == 0)
    · rw [q1, if_neg Bool.false_ne_true] at he
      simp at q1
      exact absurd he q1
    · rw [q1, if_pos rfl] at he
      rw [if_pos rfl]
      cases q2 : ((mSec S (iAt S.l S.at_) v).2 == 0)
      · rw [q2, if_neg Bool.false_ne_true] at he
        simp at q2
        exact absurd he q2
      · rw [if_pos rfl]
        dsimp only
        split
        · exact hj'
        · exact hn'
  rw [k10, if_neg Bool.false_ne_true] at he
  rw [if_neg Bool.false_ne_true]
  cases k11 : (v.kind == 11)
  rotate_left 1
  · rw [if_pos rfl]
    exact hn'
  rw [k11, if_neg Bool.false_ne_true] at he
  rw [if_neg Bool.false_ne_true]
  split
  · exact hn'
  · rename_i hk
    rw [if_neg hk] at he
    split
    · exact hn'
    · rename_i hq
      rw [if_neg hq] at he
      exact absurd (by simpa using he) hq
theorem step_ok {S1 : MS} (h : S1.ok) {m : Nat} (hm : m < S1.l.length ∧ stAt S1.l m = true) : ({ S1 with at_ := m, steps := S1.steps + 1 } : MS).ok :=
  ⟨h.l, h.chk, hm, h.n, h.r, h.D, h.dr, ⟨Nat.le_trans h.steps.1 (Nat.le_succ _), Nat.le_trans h.steps.2 (by show 20001 + S1.steps ≤ 20001 + (S1.steps + 1); omega)⟩⟩
theorem why_ok {S1 : MS} (h : S1.ok) (b : Bool) (e : Int) : ({ S1 with over := b, why := e } : MS).ok := ⟨h.l, h.chk, h.at_, h.n, h.r, h.D, h.dr, h.steps⟩
set_option maxHeartbeats 2000000 in
theorem m11_Step (w : World) (g : Nat) (S : MS) (H : Nat → Prop) (h : (sysX g S).R w H) (hgo : S.over = false → S.go) :
    Calls Tryz.prog 12 #[.pointer (some ⟨g, 0, none⟩)] w (OpS (sysX g (pStep S).1) H (.int .i64 (pStep S).2) w) := by
  have C1 := Lib.hid (m11_isNone w g S H h)
  have hok := sysX_ok h
  have SAME := Lib.hid fun u (b : Below w.heap.size w u) => Tn.refl h b
  have CO := Lib.hid fun u (b : Below w.heap.size w u) => by
    obtain ⟨A, _, hb, _, hok⟩ := sysX_blk ((sysX g S).after h b)
    exact (xc_tail hb hok.n).2.1
  have DO := Lib.hid fun u (b : Below w.heap.size w u) (hg : S.go) => m11_do u g S H ((sysX g S).after h b) hg
  unfold pStep
  cases ho : S.over
  rotate_left 1
  · rw [if_pos rfl]
    rw [ho] at CO
    clear h hgo hok DO ho
    go_enter Tryz.func12, Tryz.ntmps12
    go_wp2_with fail
    refine (C1.out).mono ?_
    rintro e w1 ⟨rfl, b1⟩
    have c0 := CO.out _ b1
    have TT := Lib.hid (SAME.out _ b1)
    clear b1
    go_wp2_with fail
    go_ret
    exact ⟨rfl, TT.out⟩
  · rw [if_neg Bool.false_ne_true]
    rw [ho] at CO
    have hgo' := hgo ho
    have DO2 := Lib.hid fun u (b : Below w.heap.size w u) => DO.out u b hgo'
    obtain ⟨e1, e2, e3, e4⟩ := pDo_same S
    have hst : (pDo S).S.steps ≤ 50000 := by rw [e2]; exact hgo'.2.2
    have NX := Lib.hid (fun he => pDo_next hok he)
    rw [← e1] at NX
    clear h hgo hok DO ho hgo' e1 e2 e3 e4
    generalize pDo S = R at *
    obtain ⟨S1, nx, er⟩ := R
    dsimp only at *
    cases h5 : (er == 0)
    · have n5 := ne_of_eq0 h5
      rw [if_neg Bool.false_ne_true]
      clear h5 NX
      go_enter Tryz.func12, Tryz.ntmps12
      go_wp2_with fail
      refine (C1.out).mono ?_
      rintro e w1 ⟨rfl, b1⟩
      have c0 := CO.out _ b1
      have B1 := Lib.hid b1
      clear b1
      go_wp2_with fail
      refine (DO2.out _ B1.out).mono ?_
      rintro e w2 ⟨rfl, F2, h2, t2, f2⟩
      have hok2 := sysX_ok h2
      have TX := sysX_blkT (S' := { S1 with over := true, why := er }) (w' := (w2.setCell ⟨g, 28, none⟩ (.bool true)).setCell ⟨g, 29, none⟩ (.int .i64 er)) h2 (why_ok hok2 true er) rfl rfl rfl rfl rfl rfl
        (fun A hb => by
          have := blk_list (blk_list hb 28 (.bool true)) 29 (.int .i64 er)
          rwa [xC_over A S1 hok2.n true, xC_why A { S1 with over := true } hok2.n er] at this) ((turn_g w2 g _ _).trans (turn_g _ g _ _) (fun x hx => .inl hx))
      have TT := Lib.hid (Tn.before B1.out (Tn.chain t2 f2 TX))
      have f28 := sysX_free h2 28
      have f29 := sysX_free h2 29
      obtain ⟨A, _, hb, _, _⟩ := sysX_blk h2
      obtain ⟨-, y28, y29, -, -⟩ := xc_tail hb hok2.n
      clear h2 t2 f2 hok2 TX hb c0
      go_wp2_with fail
      go_ret
      exact ⟨rfl, TT.out⟩
    · have h0 : er = 0 := by simpa using h5
      subst h0
      rw [if_pos rfl]
      clear h5
      obtain ⟨m, rfl, hm⟩ := NX.out rfl
      have e1 : wrap64 ((S1.steps : Int) + 1) = ((S1.steps + 1 : Nat) : Int) := by unfold wrap64; omega
      have HM := Lib.hid hm
      clear hm NX
      rw [Int.toNat_natCast]
      go_enter Tryz.func12, Tryz.ntmps12
      go_wp2_with fail
      refine (C1.out).mono ?_
      rintro e w1 ⟨rfl, b1⟩
      have c0 := CO.out _ b1
      have B1 := Lib.hid b1
      clear b1
      go_wp2_with fail
      refine (DO2.out _ B1.out).mono ?_
      rintro e w2 ⟨rfl, F2, h2, t2, f2⟩
      have hok2 := sysX_ok h2
      have TX := sysX_blkT (S' := { S1 with at_ := m, steps := S1.steps + 1 }) (w' := (w2.setCell ⟨g, 27, none⟩ (.int .i64 m)).setCell ⟨g, 30, none⟩ (.int .i64 ((S1.steps + 1 : Nat) : Int))) h2 (step_ok hok2 HM.out) rfl rfl rfl rfl rfl rfl
        (fun A hb => by
          have := blk_list (blk_list hb 27 (.int .i64 m)) 30 (.int .i64 ((S1.steps + 1 : Nat) : Int))
          rwa [xC_at A S1 hok2.n m, xC_steps A { S1 with at_ := m } hok2.n (S1.steps + 1)] at this) ((turn_g w2 g _ _).trans (turn_g _ g _ _) (fun x hx => .inl hx))
      have TT := Lib.hid (Tn.before B1.out (Tn.chain t2 f2 TX))
      have f27 := sysX_free h2 27
      have f30 := sysX_free h2 30
      obtain ⟨A, _, hb, _, _⟩ := sysX_blk h2
      obtain ⟨y27, -, -, y30, -⟩ := xc_tail hb hok2.n
      have y30' : (w2.setCell ⟨g, 27, none⟩ (.int .i64 m)).cell? ⟨g, 30, none⟩ = some (.int .i64 S1.steps) := (cell_setCell_off _ g 27 30 _ (by decide)).trans y30
      clear h2 t2 f2 hok2 TX hb c0
      go_wp2_with fail
      go_ret
      exact ⟨rfl, TT.out⟩
end Go.Proofs.YtlbhffdpklbhfaaGreat
