/-
  Texts, one behind the other: Ref06s, Fact3, Ref06k, Ref04c, Ref06w, Ref06j, Fact4.
  Conditions: those that each theorem states.
-/
import Derived.LoopTactic
import Derived.Test.YtgjcbcpedoihaaaMg4
import Derived.StillTailTactics
import Derived.Test.YtgjcbcpedoihaaaMg3
import Derived.Deep.RegionHeld3

namespace Go.Proofs.Ytgjcbcpedoihaaa
open Go.RowKit
set_option maxRecDepth 100000
set_option linter.unusedVariables false

set_option maxHeartbeats 4000000 in
theorem rf_settle_run (f : Fc) (w : World) (hf : fIn f) (hr : fRR f = true) : Calls Try.prog 39 #[fV f] w (Gives (fBV ((fS f).getD fZ) (fS f).isSome) w) := by
  have R1 : Hid (∀ w, Calls Try.prog 58 #[tV f.1] w (Gives (.bool true) w)) := Lib.hid fun w => by
    have h := rright_says f.1 w
    rw [(fRR_iff.mp hr).1] at h
    exact h
  have R2 : Hid (∀ w, Calls Try.prog 59 #[sV f.2] w (Gives (.bool true) w)) := Lib.hid fun w => by
    have h := rs_right f.2 w
    rw [(fRR_iff.mp hr).2] at h
    exact h
  have hx := Lib.hid (FDuo.new f fZ w)
  have HR := Lib.hid fun (g : Fc) (hg : fIn g) => fun w => rf_round g w hg
  have h80 : fS f = fIt 80 f := by unfold fS; rw [if_pos hr]
  rw [h80]
  generalize hF : fIt 80 f = F
  have HF := Lib.hid hF
  clear hF h80
  generalize hV : fBV (F.getD fZ) F.isSome = V
  have HV := Lib.hid hV
  clear hV
  go_enter Try.func39, Try.ntmps39
  go_wp2_with fail
  refine (R1.out _).mono ?_; rintro e w1 ⟨rfl, b1⟩
  have x1 := hx.out.after b1
  obtain ⟨c0, c1, c2, c3⟩ := x1.2.1.cells
  have X1 := Lib.hid x1
  clear x1 hx b1
  go_wp2_with fail
  refine (R2.out _).mono ?_; rintro e w2 ⟨rfl, b2⟩
  have X2 := Lib.hid (X1.out.after b2)
  clear X1 b2 c0 c1 c2 c3
  go_wp2_with fail
  clear R1 R2
  go_loopw [4] (fun i wr => ∃ (j : Nat) (g : Fc), j ≤ 80 ∧ i = .int .i64 j ∧ fIn g ∧ fRR g = true ∧ fIt (80 - j) g = F ∧ Hid (FDuo g fZ w wr)) (fun i _ => 80 - (intOf i).toNat)
  case atStart => exact ⟨0, f, by omega, rfl, hf, hr, HF.out, X2⟩
  case round =>
    obtain ⟨j, g, hj, rfl, ig, rg, hg, X⟩ := hrel
    have R := Lib.hid (HR.out g ig)
    obtain ⟨c0, c1, c2, c3⟩ := X.out.2.1.cells
    by_cases hlt : (j : Int) < 80
    · obtain ⟨n, hn⟩ : ∃ n, 80 - j = n + 1 := ⟨79 - j, by omega⟩
      rw [hn] at hg
      cases h : rdok g
      · have hV : V = fBV fZ false := by rw [← HV.out, ← hg, fIt_no h]; rfl
        subst hV
        rw [h, if_neg (by decide)] at R
        clear HR HV HF hg
        go_wp2_with fail
        refine (R.out _).mono ?_; rintro e w3 ⟨rfl, b3⟩
        have x3 := X.out.after b3
        obtain ⟨e0, e1, e2, e3⟩ := x3.2.2.cells
        obtain ⟨g0, g1, g2, g3⟩ := x3.2.2.free
        have k1 := x3.2.2.lt
        have XE := Lib.hid ((x3.set fZ).alloc (.cells (fCells fZ) 28))
        clear x3 X b3 c0 c1 c2 c3 R
        go_wp2_with fail
        exact bodyPost_ret (v := fBV fZ false) (by simp [results, Try.results39, go_sem, e0, e1, e2, e3, fZ, k1]) rfl ⟨rfl, XE.out.1⟩
      · rw [h, if_pos rfl] at R
        by_cases he : rd g = g
        · have hV : V = fBV g true := by rw [← HV.out, ← hg, fIt_end h he]; rfl
          subst hV
          rw [he] at R
          clear HR HV HF hg
          go_wp2_with fail
          refine (R.out _).mono ?_; rintro e w3 ⟨rfl, b3⟩
          have x3 := X.out.after b3
          obtain ⟨e0, e1, e2, e3⟩ := x3.2.2.cells
          obtain ⟨g0, g1, g2, g3⟩ := x3.2.2.free
          have k1 := x3.2.2.lt
          have XE := Lib.hid ((x3.set g).alloc (.cells (fCells g) 28))
          clear c0 c1 c2 c3
          obtain ⟨c0, c1, c2, c3⟩ := x3.2.1.cells
          have k2 := x3.2.1.lt
          clear x3 X b3 R
          go_wp2_with fail
          exact bodyPost_ret (v := fBV g true) (by simp [results, Try.results39, go_sem, e0, e1, e2, e3, k1]) rfl ⟨rfl, XE.out.1⟩
        · rw [fIt_on h he] at hg
          have ig2 := rd_in ig
          have rg2 := rd_right h
          have hne : (¬ ((rd g).1.1.toNat : Int) = (g.1.1.toNat : Int)) ∨ (((rd g).1.1.toNat : Int) = (g.1.1.toNat : Int) ∧ ¬ ((rd g).1.2.toNat : Int) = (g.1.2.toNat : Int)) ∨
              (((rd g).1.1.toNat : Int) = (g.1.1.toNat : Int) ∧ ((rd g).1.2.toNat : Int) = (g.1.2.toNat : Int) ∧ ¬ (rd g).2.1 = g.2.1) ∨
              (((rd g).1.1.toNat : Int) = (g.1.1.toNat : Int) ∧ ((rd g).1.2.toNat : Int) = (g.1.2.toNat : Int) ∧ (rd g).2.1 = g.2.1 ∧ ¬ (rd g).2.2 = g.2.2) := by
            have hb : ∀ x y : BitVec 64, (x.toNat : Int) = (y.toNat : Int) → x = y := fun x y h => BitVec.eq_of_toNat_eq (by omega)
            by_cases a1 : ((rd g).1.1.toNat : Int) = (g.1.1.toNat : Int)
            · by_cases a2 : ((rd g).1.2.toNat : Int) = (g.1.2.toNat : Int)
              · by_cases a3 : (rd g).2.1 = g.2.1
                · by_cases a4 : (rd g).2.2 = g.2.2
                  · exact absurd (Prod.ext (Prod.ext (hb _ _ a1) (hb _ _ a2)) (Prod.ext a3 a4)) he
                  · exact .inr (.inr (.inr ⟨a1, a2, a3, a4⟩))
                · exact .inr (.inr (.inl ⟨a1, a2, a3⟩))
              · exact .inr (.inl ⟨a1, a2⟩)
            · exact .inl a1
          have hg2 : fIt (80 - (j + 1)) (rd g) = F := by rw [show 80 - (j + 1) = n by omega]; exact hg
          have HG := Lib.hid hg2
          clear hg hg2 he
          generalize rd g = g' at *
          clear HR
          rcases hne with a1 | ⟨a1, a2⟩ | ⟨a1, a2, a3⟩ | ⟨a1, a2, a3, a4⟩
          all_goals
            go_wp2_with fail
            refine (R.out _).mono ?_; rintro e w3 ⟨rfl, b3⟩
            have x3 := X.out.after b3
            clear c0 c1 c2 c3
            obtain ⟨c0, c1, c2, c3⟩ := x3.2.1.cells
            obtain ⟨f0, f1, f2, f3⟩ := x3.2.1.free
            have k2 := x3.2.1.lt
            have XN := Lib.hid ((x3.setA g').alloc (.cells (fCells g') 28))
            clear X b3 R x3
            go_wp2_with fail
            go_round
            case rel =>
              have XM := XN.out
              simp only [fCells, uV] at XM
              try rw [a1] at XM
              try rw [a2] at XM
              try rw [a3] at XM
              exact ⟨j + 1, g', by omega, by go_num, ig2, rg2, HG.out, Lib.hid XM⟩
            case measure => first | (simp [intOf]; done) | (simp [intOf]; omega)
    · have hj2 : j = 80 := by omega
      subst hj2
      have hV : V = fBV g true := by rw [← HV.out, ← hg]; rfl
      subst hV
      clear HR HV HF hg R
      obtain ⟨e0, e1, e2, e3⟩ := X.out.2.2.cells
      obtain ⟨g0, g1, g2, g3⟩ := X.out.2.2.free
      have XE := Lib.hid (X.out.set g)
      clear X
      go_wp2_with fail
      exact bodyPost_ret (v := fBV g true) (by simp [results, Try.results39, go_sem, e0, e1, e2, e3]) rfl ⟨rfl, XE.out.1⟩

/-- Two facts that are not one part somewhere first. -/
theorem fc_ne {a b : Fc} (h : ¬ a = b) : (¬ (a.1.1.toNat : Int) = (b.1.1.toNat : Int)) ∨ ((a.1.1.toNat : Int) = (b.1.1.toNat : Int) ∧ ¬ (a.1.2.toNat : Int) = (b.1.2.toNat : Int)) ∨
    ((a.1.1.toNat : Int) = (b.1.1.toNat : Int) ∧ (a.1.2.toNat : Int) = (b.1.2.toNat : Int) ∧ ¬ a.2.1 = b.2.1) ∨
    ((a.1.1.toNat : Int) = (b.1.1.toNat : Int) ∧ (a.1.2.toNat : Int) = (b.1.2.toNat : Int) ∧ a.2.1 = b.2.1 ∧ ¬ a.2.2 = b.2.2) := by
  have hb : ∀ x y : BitVec 64, (x.toNat : Int) = (y.toNat : Int) → x = y := fun x y h => BitVec.eq_of_toNat_eq (by omega)
  by_cases a1 : (a.1.1.toNat : Int) = (b.1.1.toNat : Int)
  · by_cases a2 : (a.1.2.toNat : Int) = (b.1.2.toNat : Int)
    · by_cases a3 : a.2.1 = b.2.1
      · by_cases a4 : a.2.2 = b.2.2
        · exact absurd (Prod.ext (Prod.ext (hb _ _ a1) (hb _ _ a2)) (Prod.ext a3 a4)) h
        · exact .inr (.inr (.inr ⟨a1, a2, a3, a4⟩))
      · exact .inr (.inr (.inl ⟨a1, a2, a3⟩))
    · exact .inr (.inl ⟨a1, a2⟩)
  · exact .inl a1

set_option maxHeartbeats 1000000 in
theorem rf_settle (f : Fc) (w : World) (hf : fIn f) : Calls Try.prog 39 #[fV f] w (Gives (fBV ((fS f).getD fZ) (fS f).isSome) w) := by
  cases hr : fRR f
  · have hz : fS f = none := by unfold fS; rw [hr]; rfl
    rw [hz]
    show Calls _ _ _ _ (Gives (fBV fZ false) w)
    have R1 := Lib.hid fun w => rright_says f.1 w
    have R2 := Lib.hid fun w => rs_right f.2 w
    have hx := Lib.hid (FDuo.new f fZ w)
    cases h1 : tR f.1
    · rw [h1] at R1
      clear hr hz
      go_enter Try.func39, Try.ntmps39
      go_wp2_with fail
      refine (R1.out _).mono ?_; rintro e w1 ⟨rfl, b1⟩
      have x1 := hx.out.after b1
      obtain ⟨e0, e1, e2, e3⟩ := x1.2.2.cells
      obtain ⟨g0, g1, g2, g3⟩ := x1.2.2.free
      have XE := Lib.hid (x1.set fZ)
      clear x1 hx b1
      go_wp2_with fail
      exact bodyPost_ret (v := fBV fZ false) (by simp [results, Try.results39, go_sem, e0, e1, e2, e3, fZ]) rfl ⟨rfl, XE.out.1⟩
    · have h2 : sR f.2 = false := by
        unfold fRR at hr
        rw [h1] at hr
        simpa using hr
      rw [h1] at R1
      rw [h2] at R2
      clear hr hz
      go_enter Try.func39, Try.ntmps39
      go_wp2_with fail
      refine (R1.out _).mono ?_; rintro e w1 ⟨rfl, b1⟩
      have x1 := hx.out.after b1
      obtain ⟨c0, c1, c2, c3⟩ := x1.2.1.cells
      have X1 := Lib.hid x1
      clear x1 hx b1
      go_wp2_with fail
      refine (R2.out _).mono ?_; rintro e w2 ⟨rfl, b2⟩
      have x2 := X1.out.after b2
      obtain ⟨e0, e1, e2, e3⟩ := x2.2.2.cells
      obtain ⟨g0, g1, g2, g3⟩ := x2.2.2.free
      have XE := Lib.hid (x2.set fZ)
      clear x2 X1 b2 c0 c1 c2 c3
      go_wp2_with fail
      exact bodyPost_ret (v := fBV fZ false) (by simp [results, Try.results39, go_sem, e0, e1, e2, e3, fZ]) rfl ⟨rfl, XE.out.1⟩
  · exact rf_settle_run f w hf hr

set_option maxHeartbeats 1000000 in
theorem rf_right (f : Fc) (w : World) (hf : fIn f) : Calls Try.prog 24 #[fV f] w (Gives (.bool (fR f)) w) := by
  have S := Lib.hid fun w => rf_settle f w hf
  have hx := Lib.hid (show Blks w [(w.heap.size, fCells f, 28)] (w.alloc (.cells (fCells f) 28)) from (Blks.start w).new (fCells f) 28)
  cases hs : fS f with
  | none =>
    have e : fR f = false := by unfold fR; rw [hs]; exact decide_eq_false (fun h => by cases h)
    rw [hs] at S
    rw [e]
    replace S : Hid (∀ w, Calls Try.prog 39 #[fV f] w (Gives (fBV fZ false) w)) := S
    go_enter Try.func24, Try.ntmps24
    go_wp2_with fail
    refine (S.out _).mono ?_; rintro e w1 ⟨rfl, b1⟩
    have x1 := hx.out.after b1
    clear hx b1
    go_wp2_with fail
    go_ret
    exact ⟨rfl, below_alloc x1.1 _⟩
  | some g =>
    rw [hs] at S
    replace S : Hid (∀ w, Calls Try.prog 39 #[fV f] w (Gives (fBV g true) w)) := S
    by_cases hg : g = f
    · subst hg
      have e : fR g = true := decide_eq_true hs
      rw [e]
      go_enter Try.func24, Try.ntmps24
      go_wp2_with fail
      refine (S.out _).mono ?_; rintro e w1 ⟨rfl, b1⟩
      have x1 := hx.out.after b1
      have y1 : fB w.heap.size g w1 := x1.get (by simp)
      obtain ⟨c0, c1, c2, c3⟩ := y1.cells
      have k1 := y1.lt
      clear hx b1 y1
      go_wp2_with fail
      go_ret
      exact ⟨rfl, below_alloc x1.1 _⟩
    · have e : fR f = false := by unfold fR; rw [hs]; exact decide_eq_false (fun h => hg (Option.some.inj h))
      rw [e]
      rcases fc_ne hg with a1 | ⟨a1, a2⟩ | ⟨a1, a2, a3⟩ | ⟨a1, a2, a3, a4⟩
      all_goals
        go_enter Try.func24, Try.ntmps24
        go_wp2_with fail
        refine (S.out _).mono ?_; rintro e w1 ⟨rfl, b1⟩
        have x1 := hx.out.after b1
        have y1 : fB w.heap.size f w1 := x1.get (by simp)
        obtain ⟨c0, c1, c2, c3⟩ := y1.cells
        have k1 := y1.lt
        clear hx b1 y1
        go_wp2_with fail
        go_ret
        exact ⟨rfl, below_alloc x1.1 _⟩

end Go.Proofs.Ytgjcbcpedoihaaa

namespace Go.Proofs.Ytgjcbcpedoihaaa
open Go.RowKit
set_option maxRecDepth 100000
set_option linter.unusedVariables false

theorem rdok_RR {f : Fc} (h : rdok f = true) : fRR f = true := by
  obtain ⟨h1, h2⟩ := rdok_iff.mp h
  have k := sTok_le (show sTok (max f.2.1 (bSp f.1).1) (min f.2.2 (bSp f.1).2) = true from h1)
  have k2 : tRR f.1 (rS (rdS f)) = true := by
    unfold tMok at h2
    exact (Bool.and_eq_true_iff.mp h2).1
  unfold tRR at k2
  exact fRR_iff.mpr ⟨(Bool.and_eq_true_iff.mp k2).1, decide_eq_true (by omega)⟩
theorem fS_no {f : Fc} (h : rdok f = false) : fS f = none := by
  rw [fS_eq]
  split
  · exact fE_no h
  · rfl
theorem fS_end {f : Fc} (h : rdok f = true) (e : rd f = f) : fS f = some f := by
  rw [fS_eq, if_pos (rdok_RR h)]
  exact fE_end h e
theorem fS_on {f : Fc} (h : rdok f = true) (e : ¬ rd f = f) : fS f = fS (rd f) := by
  rw [fS_eq, fS_eq, if_pos (rdok_RR h), if_pos (rd_right h)]
  exact fE_on (rdok_RR h) h e

/-- The fact that lies in a block. -/
def cellN (w : World) (g k : Nat) : Int := match w.cell? ⟨g, k, none⟩ with | some (.int _ n) => n | _ => 0
def rdF (g : Nat) (w : World) : Fc := ((BitVec.ofInt 64 (cellN w g 0), BitVec.ofInt 64 (cellN w g 1)), (cellN w g 2, cellN w g 3))
theorem rdF_of {g : Nat} {f : Fc} {w : World} (h : fB g f w) : rdF g w = f := by
  obtain ⟨c0, c1, c2, c3⟩ := h.cells
  unfold rdF cellN
  rw [c0, c1, c2, c3]
  dsimp only
  rw [ofInt_eq rfl, ofInt_eq rfl]

set_option maxRecDepth 100000 in
set_option maxHeartbeats 4000000 in
theorem fp_settle (f : Fc) (w : World) (hf : fIn f) : Calls Try.prog 41 #[fV f] w (Gives (fBV ((fS f).getD fZ) (fS f).isSome) w) := by
  have hx := Lib.hid (FDuo.new f fZ w)
  have HR := Lib.hid fun (g : Fc) (hg : fIn g) => fun w => fp_round g w hg
  generalize hF : fS f = F
  have HF := Lib.hid hF
  clear hF
  generalize hV : fBV (F.getD fZ) F.isSome = V
  have HV := Lib.hid hV
  clear hV
  go_enter Try.func41, Try.ntmps41
  go_wp2_with fail
  go_loopw [] (fun wr => ∃ g : Fc, fIn g ∧ fS g = F ∧ Hid (FDuo g fZ w wr)) (fun wr => fM (rdF w.heap.size wr))
  case atStart => exact ⟨f, hf, HF.out, hx⟩
  case round =>
    obtain ⟨g, ig, hg, X⟩ := hrel
    have R := Lib.hid (HR.out g ig)
    obtain ⟨c0, c1, c2, c3⟩ := X.out.2.1.cells
    cases h : rdok g
    · have hV : V = fBV fZ false := by rw [← HV.out, ← hg, fS_no h]; rfl
      subst hV
      rw [h, if_neg (by decide)] at R
      clear HR HV HF hg
      go_wp2_with fail
      refine (R.out _).mono ?_; rintro e w3 ⟨rfl, b3⟩
      have x3 := X.out.after b3
      obtain ⟨e0, e1, e2, e3⟩ := x3.2.2.cells
      obtain ⟨g0, g1, g2, g3⟩ := x3.2.2.free
      have k1 := x3.2.2.lt
      have XE := Lib.hid ((x3.set fZ).alloc (.cells (fCells fZ) 28))
      clear x3 X b3 c0 c1 c2 c3 R
      go_wp2_with fail
      exact bodyPost_ret (v := fBV fZ false) (by simp [results, Try.results41, go_sem, e0, e1, e2, e3, fZ, k1]) rfl ⟨rfl, XE.out.1⟩
    · rw [h, if_pos rfl] at R
      by_cases he : rd g = g
      · have hV : V = fBV g true := by rw [← HV.out, ← hg, fS_end h he]; rfl
        subst hV
        rw [he] at R
        clear HR HV HF hg
        go_wp2_with fail
        refine (R.out _).mono ?_; rintro e w3 ⟨rfl, b3⟩
        have x3 := X.out.after b3
        obtain ⟨e0, e1, e2, e3⟩ := x3.2.2.cells
        obtain ⟨g0, g1, g2, g3⟩ := x3.2.2.free
        have k1 := x3.2.2.lt
        have XE := Lib.hid ((x3.set g).alloc (.cells (fCells g) 28))
        clear c0 c1 c2 c3
        obtain ⟨c0, c1, c2, c3⟩ := x3.2.1.cells
        have k2 := x3.2.1.lt
        clear x3 X b3 R
        go_wp2_with fail
        exact bodyPost_ret (v := fBV g true) (by simp [results, Try.results41, go_sem, e0, e1, e2, e3, k1]) rfl ⟨rfl, XE.out.1⟩
      · rw [fS_on h he] at hg
        have ig2 := rd_in ig
        have hne := fc_ne he
        have HM := Lib.hid (fM_less (rdok_RR h) h he)
        have HG := Lib.hid hg
        clear hg he
        generalize rd g = g' at *
        clear HR
        have HD := Lib.hid (rdF_of X.out.2.1)
        rcases hne with a1 | ⟨a1, a2⟩ | ⟨a1, a2, a3⟩ | ⟨a1, a2, a3, a4⟩
        all_goals
          go_wp2_with fail
          refine (R.out _).mono ?_; rintro e w3 ⟨rfl, b3⟩
          have x3 := X.out.after b3
          clear c0 c1 c2 c3
          obtain ⟨c0, c1, c2, c3⟩ := x3.2.1.cells
          obtain ⟨f0, f1, f2, f3⟩ := x3.2.1.free
          have k2 := x3.2.1.lt
          have XN := Lib.hid ((x3.setA g').alloc (.cells (fCells g') 28))
          clear X b3 R x3
          go_wp2_with fail
          have XM := XN.out
          simp only [fCells, uV] at XM
          try rw [a1] at XM
          try rw [a2] at XM
          try rw [a3] at XM
          refine ⟨⟨g', ig2, HG.out, Lib.hid XM⟩, ?_⟩
          rw [HD.out, rdF_of XM.2.1]
          exact HM.out

end Go.Proofs.Ytgjcbcpedoihaaa

namespace Go.Proofs.Ytgjcbcpedoihaaa
open Go.RowKit
set_option maxRecDepth 100000
set_option linter.unusedVariables false

/-- Known bits' block, a span's, and a result's. -/
def TSF (t : Tn) (s : Sp) (r : Fc) (w u : World) : Prop := Below w.heap.size w u ∧ Box w.heap.size t u ∧ sB (w.heap.size + 1) s u ∧ fB (w.heap.size + 1 + 1) r u
theorem TSF.new (t : Tn) (s : Sp) (w : World) : TSF t s fZ w (((w.alloc (.cells #[uV t.1, uV t.2] 24)).alloc (.cells #[.int .u64 s.1, .int .u64 s.2] 26)).alloc (.cells (fCells fZ) 28)) :=
  ⟨below_alloc (below_alloc (below_alloc (Below.refl _ _) _) _) _, ((Box.new w t rfl).alloc _).alloc _, (sB.new _ s (by simp)).alloc _, fB.new _ fZ (by simp)⟩
theorem TSF.after {t : Tn} {s : Sp} {r : Fc} {w u u' : World} (h : TSF t s r w u) (k : Below u.heap.size u u') : TSF t s r w u' := ⟨below_next' h.1 k, h.2.1.after k, h.2.2.1.after k, h.2.2.2.after k⟩

set_option maxHeartbeats 1000000 in
theorem rf_settled (t : Tn) (s : Sp) (w : World) (hs : sIn s) : Calls Try.prog 55 #[tV t, sV s] w (Gives (fV (fSd (t, s))) w) := by
  have S : Hid (∀ w, Calls Try.prog 39 #[fV (t, s)] w (Gives (fBV (fSd (t, s)) (fS (t, s)).isSome) w)) := Lib.hid fun w => rf_settle (t, s) w hs
  have hx := Lib.hid (TSF.new t s w)
  generalize fSd (t, s) = g at *
  generalize (fS (t, s)).isSome = k at *
  go_enter Try.func55, Try.ntmps55
  go_wp2_with fail
  refine (S.out _).mono ?_; rintro e w1 ⟨rfl, b1⟩
  have x1 := hx.out.after b1
  obtain ⟨e0, e1, e2, e3⟩ := x1.2.2.2.cells
  obtain ⟨g0, g1, g2, g3⟩ := x1.2.2.2.free
  have k1 := x1.2.2.2.lt
  have XE := Lib.hid (below_alloc (below_four x1.1 (k := w.heap.size + 1 + 1) (by omega) g) (.cells (fCells g) 28))
  clear x1 hx b1
  go_wp2_with fail
  exact bodyPost_ret (v := fV g) (by simp [results, Try.results55, go_sem, e0, e1, e2, e3, k1]) rfl ⟨rfl, XE.out⟩

set_option maxHeartbeats 1000000 in
theorem rf_has (f : Fc) (n : BitVec 64) (w : World) (hf : fIn f) : Calls Try.prog 31 #[fV f, uV n] w (Gives (.bool (fHs f n)) w) := by
  have R := Lib.hid fun w => rf_right f w hf
  have H1 := Lib.hid (rhas_says f.1 n)
  have H2 := Lib.hid (rs_has f.2 (n.toNat : Int))
  have hx := Lib.hid (show Blks w [(w.heap.size, fCells f, 28)] (w.alloc (.cells (fCells f) 28)) from (Blks.start w).new (fCells f) 28)
  unfold fHs fHas
  generalize sH f.2 (n.toNat : Int) = q at *
  cases hr : fR f
  · rw [hr] at R
    clear hr
    go_enter Try.func31, Try.ntmps31
    go_wp2_with fail
    refine (R.out _).mono ?_; rintro e w1 ⟨rfl, b1⟩
    have x1 := hx.out.after b1
    clear hx b1
    go_wp2_with fail
    go_ret
    exact ⟨rfl, x1.1⟩
  · rw [hr] at R
    clear hr
    cases h1 : tH f.1 n
    · rw [h1] at H1
      clear h1
      go_enter Try.func31, Try.ntmps31
      go_wp2_with fail
      refine (R.out _).mono ?_; rintro e w1 ⟨rfl, b1⟩
      have x1 := hx.out.after b1
      have y1 : fB w.heap.size f w1 := x1.get (by simp)
      obtain ⟨c0, c1, c2, c3⟩ := y1.cells
      clear hx b1 y1
      go_wp2_with fail
      refine (H1.out _).mono ?_; rintro e w2 ⟨rfl, b2⟩
      have x2 := x1.after b2
      clear x1 b2 c0 c1 c2 c3
      go_wp2_with fail
      go_ret
      exact ⟨rfl, x2.1⟩
    · rw [h1] at H1
      clear h1
      go_enter Try.func31, Try.ntmps31
      go_wp2_with fail
      refine (R.out _).mono ?_; rintro e w1 ⟨rfl, b1⟩
      have x1 := hx.out.after b1
      have y1 : fB w.heap.size f w1 := x1.get (by simp)
      obtain ⟨c0, c1, c2, c3⟩ := y1.cells
      clear hx b1 y1
      go_wp2_with fail
      refine (H1.out _).mono ?_; rintro e w2 ⟨rfl, b2⟩
      have x2 := x1.after b2
      have y2 : fB w.heap.size f w2 := x2.get (by simp)
      clear x1 b2 c0 c1 c2 c3
      obtain ⟨c0, c1, c2, c3⟩ := y2.cells
      go_wp2_with fail
      refine (H2.out _).mono ?_; rintro e w3 ⟨rfl, b3⟩
      have x3 := x2.after b3
      clear x2 b3 c0 c1 c2 c3 y2
      go_wp2_with fail
      go_ret
      exact ⟨rfl, x3.1⟩

end Go.Proofs.Ytgjcbcpedoihaaa

namespace Go.Proofs.Ytgjcbcpedoihaaa
open Go.RowKit
set_option maxRecDepth 100000
set_option linter.unusedVariables false

set_option maxRecDepth 100000 in
set_option maxHeartbeats 1000000 in
theorem rjoin_says (a b : Tn) (w : World) : Calls Try.prog 56 #[tV a, tV b] w (Gives (tV (tJ a b)) w) := by
  have hx := Lib.hid (Trio.new a b w)
  have h1 := Lib.hid (rboth_says a b)
  unfold tJ
  generalize tRR a b = r1 at *
  cases r1
  · rw [if_neg (by decide)]
    go_enter Try.func56, Try.ntmps56
    go_wp2_with fail
    refine (h1.out _).mono ?_; rintro e w1 ⟨rfl, b1⟩
    have x1 := hx.out.after b1
    obtain ⟨c0, c1⟩ := x1.2.cells
    obtain ⟨f0, f1⟩ := x1.2.free
    have X1 := Lib.hid (x1.set (0#64, 0#64))
    clear x1 hx b1
    go_wp2_with fail
    exact bodyPost_ret (v := tV (0#64, 0#64)) (by simp [results, Try.results56, go_sem, c0, c1]) rfl ⟨rfl, X1.out.1.1⟩
  · rw [if_pos rfl]
    generalize ht : tMade a.1 (a.2 ||| b.2 ||| (a.1 ^^^ b.1)) = t at *
    have ht := Lib.hid ht
    go_enter Try.func56, Try.ntmps56
    go_wp2_with fail
    refine (h1.out _).mono ?_; rintro e w1 ⟨rfl, b1⟩
    have x1 := hx.out.after b1
    obtain ⟨p0, p1, p2, p3⟩ := x1.1.cells
    obtain ⟨c0, c1⟩ := x1.2.cells
    obtain ⟨f0, f1⟩ := x1.2.free
    have X1 := Lib.hid x1
    clear x1 hx b1
    go_wp2_with fail
    simp only [bv_xor, bv_or]
    refine (rmade_says _ _ _).mono ?_; rintro e w2 ⟨rfl, b2⟩
    rw [ht.out]
    have x2 := X1.out.after b2
    clear p0 p1 p2 p3 c0 c1 f0 f1 X1 b2 ht
    obtain ⟨c0, c1⟩ := x2.2.cells
    obtain ⟨f0, f1⟩ := x2.2.free
    have X2 := Lib.hid (x2.set t)
    clear x2
    go_wp2_with fail
    exact bodyPost_ret (v := tV t) (by simp [results, Try.results56, go_sem, c0, c1]) rfl ⟨rfl, X2.out.1.1⟩


end Go.Proofs.Ytgjcbcpedoihaaa

namespace Go.Proofs.Ytgjcbcpedoihaaa
open Go.RowKit
set_option maxRecDepth 100000
set_option linter.unusedVariables false

set_option maxHeartbeats 2000000 in
theorem rf_within (a b : Fc) (w : World) (ha : fIn a) (hb : fIn b) : Calls Try.prog 36 #[fV a, fV b] w (Gives (.bool (fWi a b)) w) := by
  have R1 := Lib.hid fun w => rf_right a w ha
  have R2 := Lib.hid fun w => rf_right b w hb
  have W1 := Lib.hid (rwithin_says a.1 b.1)
  have W2 := Lib.hid (rs_within a.2 b.2)
  have hx := Lib.hid (FDuo.new a b w)
  unfold fWi fLe
  generalize sW a.2 b.2 = q at *
  cases h1 : fR a
  · rw [h1] at R1
    clear h1
    go_enter Try.func36, Try.ntmps36
    go_wp2_with fail
    refine (R1.out _).mono ?_; rintro e w1 ⟨rfl, b1⟩
    have x1 := hx.out.after b1
    clear hx b1
    obtain ⟨p0, p1, p2, p3⟩ := x1.2.1.cells
    obtain ⟨q0, q1, q2, q3⟩ := x1.2.2.cells
    go_wp2_with fail
    go_ret
    exact ⟨rfl, x1.1⟩
  · rw [h1] at R1
    clear h1
    cases h2 : fR b
    · rw [h2] at R2
      clear h2
      go_enter Try.func36, Try.ntmps36
      go_wp2_with fail
      refine (R1.out _).mono ?_; rintro e w1 ⟨rfl, b1⟩
      have x1 := hx.out.after b1
      clear hx b1
      obtain ⟨p0, p1, p2, p3⟩ := x1.2.1.cells
      obtain ⟨q0, q1, q2, q3⟩ := x1.2.2.cells
      go_wp2_with fail
      refine (R2.out _).mono ?_; rintro e w2 ⟨rfl, b2⟩
      have x2 := x1.after b2
      clear x1 b2
      clear p0 p1 p2 p3 q0 q1 q2 q3
      obtain ⟨p0, p1, p2, p3⟩ := x2.2.1.cells
      obtain ⟨q0, q1, q2, q3⟩ := x2.2.2.cells
      go_wp2_with fail
      go_ret
      exact ⟨rfl, x2.1⟩
    · rw [h2] at R2
      clear h2
      cases h3 : tW a.1 b.1
      · rw [h3] at W1
        clear h3
        go_enter Try.func36, Try.ntmps36
        go_wp2_with fail
        refine (R1.out _).mono ?_; rintro e w1 ⟨rfl, b1⟩
        have x1 := hx.out.after b1
        clear hx b1
        obtain ⟨p0, p1, p2, p3⟩ := x1.2.1.cells
        obtain ⟨q0, q1, q2, q3⟩ := x1.2.2.cells
        go_wp2_with fail
        refine (R2.out _).mono ?_; rintro e w2 ⟨rfl, b2⟩
        have x2 := x1.after b2
        clear x1 b2
        clear p0 p1 p2 p3 q0 q1 q2 q3
        obtain ⟨p0, p1, p2, p3⟩ := x2.2.1.cells
        obtain ⟨q0, q1, q2, q3⟩ := x2.2.2.cells
        go_wp2_with fail
        refine (W1.out _).mono ?_; rintro e w3 ⟨rfl, b3⟩
        have x3 := x2.after b3
        clear x2 b3
        clear p0 p1 p2 p3 q0 q1 q2 q3
        obtain ⟨p0, p1, p2, p3⟩ := x3.2.1.cells
        obtain ⟨q0, q1, q2, q3⟩ := x3.2.2.cells
        go_wp2_with fail
        go_ret
        exact ⟨rfl, x3.1⟩
      · rw [h3] at W1
        clear h3
        go_enter Try.func36, Try.ntmps36
        go_wp2_with fail
        refine (R1.out _).mono ?_; rintro e w1 ⟨rfl, b1⟩
        have x1 := hx.out.after b1
        clear hx b1
        obtain ⟨p0, p1, p2, p3⟩ := x1.2.1.cells
        obtain ⟨q0, q1, q2, q3⟩ := x1.2.2.cells
        go_wp2_with fail
        refine (R2.out _).mono ?_; rintro e w2 ⟨rfl, b2⟩
        have x2 := x1.after b2
        clear x1 b2
        clear p0 p1 p2 p3 q0 q1 q2 q3
        obtain ⟨p0, p1, p2, p3⟩ := x2.2.1.cells
        obtain ⟨q0, q1, q2, q3⟩ := x2.2.2.cells
        go_wp2_with fail
        refine (W1.out _).mono ?_; rintro e w3 ⟨rfl, b3⟩
        have x3 := x2.after b3
        clear x2 b3
        clear p0 p1 p2 p3 q0 q1 q2 q3
        obtain ⟨p0, p1, p2, p3⟩ := x3.2.1.cells
        obtain ⟨q0, q1, q2, q3⟩ := x3.2.2.cells
        go_wp2_with fail
        refine (W2.out _).mono ?_; rintro e w4 ⟨rfl, b4⟩
        have x4 := x3.after b4
        clear x3 b4
        clear p0 p1 p2 p3 q0 q1 q2 q3
        obtain ⟨p0, p1, p2, p3⟩ := x4.2.1.cells
        obtain ⟨q0, q1, q2, q3⟩ := x4.2.2.cells
        go_wp2_with fail
        go_ret
        exact ⟨rfl, x4.1⟩

/-- A fact's block, a result's, and a span's variable. -/
def FDS (f r : Fc) (s : Sp) (w u : World) : Prop := FDuo f r w u ∧ sB (w.heap.size + 1 + 1) s u
theorem FDS.after {f r : Fc} {s : Sp} {w u u' : World} (h : FDS f r s w u) (k : Below u.heap.size u u') : FDS f r s w u' := ⟨h.1.after k, h.2.after k⟩

end Go.Proofs.Ytgjcbcpedoihaaa

namespace Go.Proofs.Ytgjcbcpedoihaaa
open Go.RowKit
set_option maxRecDepth 100000
set_option linter.unusedVariables false

/-- Two facts' blocks, and behind them a result's. -/
def FTri (a b r : Fc) (w u : World) : Prop := FDuo a b w u ∧ fB (w.heap.size + 1 + 1) r u
theorem FTri.new (a b r : Fc) (w : World) : FTri a b r w (((w.alloc (.cells (fCells a) 28)).alloc (.cells (fCells b) 28)).alloc (.cells (fCells r) 28)) :=
  ⟨(FDuo.new a b w).alloc _, fB.new _ r (by simp)⟩
theorem FTri.after {a b r : Fc} {w u u' : World} (h : FTri a b r w u) (k : Below u.heap.size u u') : FTri a b r w u' := ⟨h.1.after k, h.2.after k⟩
theorem FTri.set {a b r : Fc} {w u : World} (h : FTri a b r w u) (s : Fc) :
    FTri a b s w ((((u.setCell ⟨w.heap.size + 1 + 1, 0, none⟩ (uV s.1.1)).setCell ⟨w.heap.size + 1 + 1, 1, none⟩ (uV s.1.2)).setCell ⟨w.heap.size + 1 + 1, 2, none⟩ (.int .u64 s.2.1)).setCell ⟨w.heap.size + 1 + 1, 3, none⟩ (.int .u64 s.2.2)) :=
  ⟨⟨below_four h.1.1 (by omega) s, h.1.2.1.others (by omega), h.1.2.2.others (by omega)⟩, h.2.set s⟩

set_option maxHeartbeats 4000000 in
theorem rf_join_run (a b : Fc) (t : Tn) (s : Sp) (g : Fc) (w : World)
    (R1 : Hid (∀ w, Calls Try.prog 24 #[fV a] w (Gives (.bool true) w)))
    (R2 : Hid (∀ w, Calls Try.prog 24 #[fV b] w (Gives (.bool true) w)))
    (J1 : Hid (∀ w, Calls Try.prog 56 #[tV a.1, tV b.1] w (Gives (tV t) w)))
    (J2 : Hid (∀ w, Calls Try.prog 57 #[sV a.2, sV b.2] w (Gives (sV s) w)))
    (S : Hid (∀ w, Calls Try.prog 55 #[tV t, sV s] w (Gives (fV g) w))) :
    Calls Try.prog 38 #[fV a, fV b] w (Gives (fV g) w) := by
  have hx := Lib.hid (FTri.new a b fZ w)
  go_enter Try.func38, Try.ntmps38
  go_wp2_with fail
  refine (R1.out _).mono ?_; rintro e w1 ⟨rfl, b1⟩
  have x1 := hx.out.after b1
  obtain ⟨q0, q1, q2, q3⟩ := x1.1.2.2.cells
  clear hx b1
  go_wp2_with fail
  refine (R2.out _).mono ?_; rintro e w2 ⟨rfl, b2⟩
  have X2 := Lib.hid (x1.after b2)
  clear x1 b2 q0 q1 q2 q3
  go_wp2_with fail
  have HB : Below w2.heap.size w2 w2.drew := Below.drew (Below.refl _ _)
  have KK := Lib.hid (fun (wx : World) (hx : Below w2.heap.size w2 wx) => And.intro (X2.out.after hx).1.2.1.cells (X2.out.after hx).1.2.2.cells)
  have KS := Lib.hid (fun (wx : World) (hx : Below w2.heap.size w2 wx) => And.intro ((X2.out.after hx).set g).1.2.1.cells ((X2.out.after hx).set g).1.2.2.cells)
  have FR := Lib.hid (fun (wx : World) (hx : Below w2.heap.size w2 wx) => And.intro (X2.out.after hx).2.free (X2.out.after hx).2.cells)
  go_region_held3 (fun w' => (w'.cell? ⟨w.heap.size, 0, none⟩ = some (uV a.1.1) ∧ w'.cell? ⟨w.heap.size, 1, none⟩ = some (uV a.1.2) ∧ w'.cell? ⟨w.heap.size, 2, none⟩ = some (.int .u64 a.2.1) ∧ w'.cell? ⟨w.heap.size, 3, none⟩ = some (.int .u64 a.2.2)) ∧
      w'.cell? ⟨w.heap.size + 1, 0, none⟩ = some (uV b.1.1) ∧ w'.cell? ⟨w.heap.size + 1, 1, none⟩ = some (uV b.1.2) ∧ w'.cell? ⟨w.heap.size + 1, 2, none⟩ = some (.int .u64 b.2.1) ∧ w'.cell? ⟨w.heap.size + 1, 3, none⟩ = some (.int .u64 b.2.2))
    (first
      | exact KK.out _ HB
      | exact KK.out _ (Below.drew HB)
      | exact KS.out _ HB)
    (first
      | (go_at_call 56; refine (J1.out _).mono ?_; rintro e w6 ⟨rfl, hb6⟩; replace HB := below_next' HB hb6; clear hb6)
      | (go_at_call 57; refine (J2.out _).mono ?_; rintro e w8 ⟨rfl, hb8⟩; replace HB := below_next' HB hb8; clear hb8)
      | (go_at_call 55; refine (S.out _).mono ?_; rintro e w7 ⟨rfl, hb7⟩; replace HB := below_next' HB hb7; clear hb7; obtain ⟨⟨g0, g1, g2, g3⟩, e0, e1, e2, e3⟩ := FR.out _ HB))
  all_goals
    have XE := Lib.hid ((X2.out.after HB).set g)
    clear KK KS FR X2
    go_wp2_with fail
    exact bodyPost_ret (v := fV g) (by simp [results, Try.results38, go_sem, e0, e1, e2, e3]) rfl ⟨rfl, XE.out.1.1⟩

set_option maxHeartbeats 2000000 in
theorem rf_join (a b : Fc) (w : World) (ha : fIn a) (hb : fIn b) : Calls Try.prog 38 #[fV a, fV b] w (Gives (fV (fJ a b)) w) := by
  have R1 := Lib.hid fun w => rf_right a w ha
  have R2 := Lib.hid fun w => rf_right b w hb
  have J1 := Lib.hid (rjoin_says a.1 b.1)
  have J2 := Lib.hid (rs_join a.2 b.2)
  have S := Lib.hid fun w => rf_settled (tJ a.1 b.1) (sJ a.2 b.2) w (sJ_in ha hb)
  unfold fJ
  cases h1 : fR a
  · rw [h1] at R1
    clear h1 S J1 J2
    have hx := Lib.hid (FTri.new a b fZ w)
    show Calls _ _ _ _ (Gives (fV fZ) w)
    go_enter Try.func38, Try.ntmps38
    go_wp2_with fail
    refine (R1.out _).mono ?_; rintro e w1 ⟨rfl, b1⟩
    have x1 := hx.out.after b1
    obtain ⟨e0, e1, e2, e3⟩ := x1.2.cells
    obtain ⟨g0, g1, g2, g3⟩ := x1.2.free
    have XE := Lib.hid (x1.set fZ)
    clear x1 hx b1
    go_wp2_with fail
    exact bodyPost_ret (v := fV fZ) (by simp [results, Try.results38, go_sem, e0, e1, e2, e3, fZ]) rfl ⟨rfl, XE.out.1.1⟩
  · rw [h1] at R1
    clear h1
    cases h2 : fR b
    · rw [h2] at R2
      clear h2 S J1 J2
      have hx := Lib.hid (FTri.new a b fZ w)
      show Calls _ _ _ _ (Gives (fV fZ) w)
      go_enter Try.func38, Try.ntmps38
      go_wp2_with fail
      refine (R1.out _).mono ?_; rintro e w1 ⟨rfl, b1⟩
      have x1 := hx.out.after b1
      obtain ⟨q0, q1, q2, q3⟩ := x1.1.2.2.cells
      clear hx b1
      go_wp2_with fail
      refine (R2.out _).mono ?_; rintro e w2 ⟨rfl, b2⟩
      have x2 := x1.after b2
      clear q0 q1 q2 q3
      obtain ⟨e0, e1, e2, e3⟩ := x2.2.cells
      obtain ⟨g0, g1, g2, g3⟩ := x2.2.free
      have XE := Lib.hid (x2.set fZ)
      clear x2 x1 b2
      go_wp2_with fail
      exact bodyPost_ret (v := fV fZ) (by simp [results, Try.results38, go_sem, e0, e1, e2, e3, fZ]) rfl ⟨rfl, XE.out.1.1⟩
    · rw [h2] at R2
      exact rf_join_run a b _ _ _ w R1 R2 J1 J2 S

end Go.Proofs.Ytgjcbcpedoihaaa

namespace Go.Proofs.Ytgjcbcpedoihaaa
open Go.RowKit
set_option maxRecDepth 100000
set_option linter.unusedVariables false

set_option maxHeartbeats 1000000 in
theorem fp_right (f : Fc) (w : World) (hf : fIn f) : Calls Try.prog 29 #[fV f] w (Gives (.bool (fR f)) w) := by
  have S := Lib.hid fun w => fp_settle f w hf
  have hx := Lib.hid (show Blks w [(w.heap.size, fCells f, 28)] (w.alloc (.cells (fCells f) 28)) from (Blks.start w).new (fCells f) 28)
  cases hs : fS f with
  | none =>
    have e : fR f = false := by unfold fR; rw [hs]; exact decide_eq_false (fun h => by cases h)
    rw [hs] at S
    rw [e]
    replace S : Hid (∀ w, Calls Try.prog 41 #[fV f] w (Gives (fBV fZ false) w)) := S
    go_enter Try.func29, Try.ntmps29
    go_wp2_with fail
    refine (S.out _).mono ?_; rintro e w1 ⟨rfl, b1⟩
    have x1 := hx.out.after b1
    clear hx b1
    go_wp2_with fail
    go_ret
    exact ⟨rfl, below_alloc x1.1 _⟩
  | some g =>
    rw [hs] at S
    replace S : Hid (∀ w, Calls Try.prog 41 #[fV f] w (Gives (fBV g true) w)) := S
    by_cases hg : g = f
    · subst hg
      have e : fR g = true := decide_eq_true hs
      rw [e]
      go_enter Try.func29, Try.ntmps29
      go_wp2_with fail
      refine (S.out _).mono ?_; rintro e w1 ⟨rfl, b1⟩
      have x1 := hx.out.after b1
      have y1 : fB w.heap.size g w1 := x1.get (by simp)
      obtain ⟨c0, c1, c2, c3⟩ := y1.cells
      have k1 := y1.lt
      clear hx b1 y1
      go_wp2_with fail
      go_ret
      exact ⟨rfl, below_alloc x1.1 _⟩
    · have e : fR f = false := by unfold fR; rw [hs]; exact decide_eq_false (fun h => hg (Option.some.inj h))
      rw [e]
      rcases fc_ne hg with a1 | ⟨a1, a2⟩ | ⟨a1, a2, a3⟩ | ⟨a1, a2, a3, a4⟩
      all_goals
        go_enter Try.func29, Try.ntmps29
        go_wp2_with fail
        refine (S.out _).mono ?_; rintro e w1 ⟨rfl, b1⟩
        have x1 := hx.out.after b1
        have y1 : fB w.heap.size f w1 := x1.get (by simp)
        obtain ⟨c0, c1, c2, c3⟩ := y1.cells
        have k1 := y1.lt
        clear hx b1 y1
        go_wp2_with fail
        go_ret
        exact ⟨rfl, below_alloc x1.1 _⟩

set_option maxHeartbeats 1000000 in
theorem fp_has (f : Fc) (n : BitVec 64) (w : World) (hf : fIn f) : Calls Try.prog 42 #[fV f, uV n] w (Gives (.bool (fHs f n)) w) := by
  have R := Lib.hid fun w => fp_right f w hf
  have H1 := Lib.hid (has_says f.1 n)
  have H2 := Lib.hid (shas_says f.2 (n.toNat : Int))
  have hx := Lib.hid (show Blks w [(w.heap.size, fCells f, 28)] (w.alloc (.cells (fCells f) 28)) from (Blks.start w).new (fCells f) 28)
  unfold fHs fHas
  generalize sH f.2 (n.toNat : Int) = q at *
  cases hr : fR f
  · rw [hr] at R
    clear hr
    go_enter Try.func42, Try.ntmps42
    go_wp2_with fail
    refine (R.out _).mono ?_; rintro e w1 ⟨rfl, b1⟩
    have x1 := hx.out.after b1
    clear hx b1
    go_wp2_with fail
    go_ret
    exact ⟨rfl, x1.1⟩
  · rw [hr] at R
    clear hr
    cases h1 : tH f.1 n
    · rw [h1] at H1
      clear h1
      go_enter Try.func42, Try.ntmps42
      go_wp2_with fail
      refine (R.out _).mono ?_; rintro e w1 ⟨rfl, b1⟩
      have x1 := hx.out.after b1
      have y1 : fB w.heap.size f w1 := x1.get (by simp)
      obtain ⟨c0, c1, c2, c3⟩ := y1.cells
      clear hx b1 y1
      go_wp2_with fail
      refine (H1.out _).mono ?_; rintro e w2 ⟨rfl, b2⟩
      have x2 := x1.after b2
      clear x1 b2 c0 c1 c2 c3
      go_wp2_with fail
      go_ret
      exact ⟨rfl, x2.1⟩
    · rw [h1] at H1
      clear h1
      go_enter Try.func42, Try.ntmps42
      go_wp2_with fail
      refine (R.out _).mono ?_; rintro e w1 ⟨rfl, b1⟩
      have x1 := hx.out.after b1
      have y1 : fB w.heap.size f w1 := x1.get (by simp)
      obtain ⟨c0, c1, c2, c3⟩ := y1.cells
      clear hx b1 y1
      go_wp2_with fail
      refine (H1.out _).mono ?_; rintro e w2 ⟨rfl, b2⟩
      have x2 := x1.after b2
      have y2 : fB w.heap.size f w2 := x2.get (by simp)
      clear x1 b2 c0 c1 c2 c3
      obtain ⟨c0, c1, c2, c3⟩ := y2.cells
      go_wp2_with fail
      refine (H2.out _).mono ?_; rintro e w3 ⟨rfl, b3⟩
      have x3 := x2.after b3
      clear x2 b3 c0 c1 c2 c3 y2
      go_wp2_with fail
      go_ret
      exact ⟨rfl, x3.1⟩


set_option maxHeartbeats 1000000 in
theorem fp_both (a b : Fc) (w : World) (ha : fIn a) (hb : fIn b) : Calls Try.prog 48 #[fV a, fV b] w (Gives (.bool (fR a && fR b)) w) := by
  have R1 := Lib.hid fun w => fp_right a w ha
  have R2 := Lib.hid fun w => fp_right b w hb
  have hx := Lib.hid (FDuo.new a b w)
  generalize fR b = y at *
  cases h1 : fR a
  · rw [h1] at R1
    clear h1
    go_enter Try.func48, Try.ntmps48
    go_wp2_with fail
    refine (R1.out _).mono ?_; rintro e w1 ⟨rfl, b1⟩
    have x1 := hx.out.after b1
    clear hx b1
    go_wp2_with fail
    go_ret
    exact ⟨rfl, x1.1⟩
  · rw [h1] at R1
    clear h1
    go_enter Try.func48, Try.ntmps48
    go_wp2_with fail
    refine (R1.out _).mono ?_; rintro e w1 ⟨rfl, b1⟩
    have x1 := hx.out.after b1
    clear hx b1
    obtain ⟨q0, q1, q2, q3⟩ := x1.2.2.cells
    go_wp2_with fail
    refine (R2.out _).mono ?_; rintro e w2 ⟨rfl, b2⟩
    have x2 := x1.after b2
    clear x1 b2 q0 q1 q2 q3
    go_wp2_with fail
    go_ret
    exact ⟨rfl, x2.1⟩

set_option maxHeartbeats 2000000 in
theorem fp_within (a b : Fc) (w : World) (ha : fIn a) (hb : fIn b) : Calls Try.prog 35 #[fV a, fV b] w (Gives (.bool (fWi a b)) w) := by
  have R1 := Lib.hid fun w => fp_both a b w ha hb
  have W1 := Lib.hid (within_says a.1 b.1)
  have W2 := Lib.hid (swithin_says a.2 b.2)
  have hx := Lib.hid (FDuo.new a b w)
  unfold fWi fLe
  generalize sW a.2 b.2 = q at *
  cases h1 : (fR a && fR b)
  · rw [h1] at R1
    clear h1
    go_enter Try.func35, Try.ntmps35
    go_wp2_with fail
    refine (R1.out _).mono ?_; rintro e w1 ⟨rfl, b1⟩
    have x1 := hx.out.after b1
    clear hx b1
    go_wp2_with fail
    go_ret
    exact ⟨rfl, x1.1⟩
  · rw [h1] at R1
    clear h1
    cases h3 : tW a.1 b.1
    · rw [h3] at W1
      clear h3
      go_enter Try.func35, Try.ntmps35
      go_wp2_with fail
      refine (R1.out _).mono ?_; rintro e w1 ⟨rfl, b1⟩
      have x1 := hx.out.after b1
      clear hx b1
      obtain ⟨p0, p1, p2, p3⟩ := x1.2.1.cells
      obtain ⟨q0, q1, q2, q3⟩ := x1.2.2.cells
      go_wp2_with fail
      refine (W1.out _).mono ?_; rintro e w2 ⟨rfl, b2⟩
      have x2 := x1.after b2
      clear x1 b2 p0 p1 p2 p3 q0 q1 q2 q3
      go_wp2_with fail
      go_ret
      exact ⟨rfl, x2.1⟩
    · rw [h3] at W1
      clear h3
      go_enter Try.func35, Try.ntmps35
      go_wp2_with fail
      refine (R1.out _).mono ?_; rintro e w1 ⟨rfl, b1⟩
      have x1 := hx.out.after b1
      clear hx b1
      obtain ⟨p0, p1, p2, p3⟩ := x1.2.1.cells
      obtain ⟨q0, q1, q2, q3⟩ := x1.2.2.cells
      go_wp2_with fail
      refine (W1.out _).mono ?_; rintro e w2 ⟨rfl, b2⟩
      have x2 := x1.after b2
      clear x1 b2 p0 p1 p2 p3 q0 q1 q2 q3
      obtain ⟨p0, p1, p2, p3⟩ := x2.2.1.cells
      obtain ⟨q0, q1, q2, q3⟩ := x2.2.2.cells
      go_wp2_with fail
      refine (W2.out _).mono ?_; rintro e w3 ⟨rfl, b3⟩
      have x3 := x2.after b3
      clear x2 b3 p0 p1 p2 p3 q0 q1 q2 q3
      go_wp2_with fail
      go_ret
      exact ⟨rfl, x3.1⟩

end Go.Proofs.Ytgjcbcpedoihaaa
