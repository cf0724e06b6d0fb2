/-
  Texts, one behind the other: MachStays, Leaf, Frame.
  Conditions: those that each theorem states.
-/
import Derived.Deep.DeepCutAuto
import Derived.LoopTactic
import Derived.Deep.RegionHeld3
import Derived.Deep.RegionHeld
import Derived.Test.YtlbhffdpklbhfaaGreatPz29
import Derived.Test.YtlbhffdpklbhfaaGreatPy1
import Derived.Test.YtlbhffdpklbhfaaGreatPz49
import Derived.Test.YtlbhffdpklbhfaaGreatPz48
import Derived.Test.YtlbhffdpklbhfaaGreatPz50
import Derived.WalkKit
import Derived.ProofKit
import Derived.OpenShut
import Derived.Test.YtlbhffdpklbhfaaGreatRows
import Derived.ChangeOld
import Derived.Below
import Derived.Carry
namespace Go.Proofs.YtlbhffdpklbhfaaGreat
open Go.RowKit
set_option maxRecDepth 100000
set_option linter.unusedVariables false
set_option linter.unusedSimpArgs false
theorem new_ten {l : List Ins} {E : EV} {S : MS} (h : mLaw l E = some S) : rg S.r 10 = (atI 2 512, true) := by
  unfold mLaw mNew at h
  split at h
  · unfold mMade at h
    split at h
    · cases h
    · split at h
      · have e := (Option.some.inj h).symm
        subst e
        rfl
      · cases h
  · cases h
theorem code_r0 (S : MS) : mCode S = 0 ∨ mR0 S = 0 := by
  unfold mCode mR0
  cases S.over
  · exact .inr rfl
  · cases h : (S.why == 0)
    · exact .inr rfl
    · exact .inl (by simpa using h)
theorem cntD_next {l : List Cl} {j : Nat} {c : Cl} (h : l[j]? = some c) : cntD (l.take (j + 1)) = cntD (l.take j) + (if isD c.id then 1 else 0) := by
  rw [List.take_add_one, h, cntD_app]
  congr 1
  unfold cntD
  cases hd : isD c.id
  · rw [Option.toList_some, List.filter_cons_of_neg (by rw [hd]; exact Bool.false_ne_true)]
    rfl
  · rw [Option.toList_some, List.filter_cons_of_pos (by exact hd)]
    rfl
set_option maxHeartbeats 8000000 in
theorem l11_Stays_none (w : World) (l : List Ins) (A : Option Addr) (c : Nat) (E : EV) (f1 : Int) (h : InsS w A l) (hx : OkAll l) (hc : l.length ≤ c) (hcm : c ≤ maxLen) (hE : EnvS w E) (hok : E.raw) (ho : mLaw l E = none) :
    Calls Tryz.prog 5 #[.slice A l.length c, envV E, .int .u16 f1] w (Gives (.bool true) w) := by
  have SH := Lib.hid fun u => l11_shown u
  have FW := Lib.hid fun u => l11_few u A l.length c hc hcm
  have EN := Lib.hid fun u (b : Below w.heap.size w u) => l11_env u E (hE.after b) hok
  have NW := Lib.hid fun u L' ia ic (b : Below w.heap.size w u) hs hk hi => m11_NewLaw u l A c E L' ia ic (h.after b) hx hc hcm hs hk hi
  rw [ho] at NW
  unfold envV at EN NW
  unfold envV
  have Q := Lib.hid (EQ.new w (.slice E.ca E.ctx.length E.cc) (.slice E.da E.D.length E.dc) (.slice E.ia E.L.length E.ic) (.slice E.na E.dr.length E.nc))
  clear h hx hE
  generalize hll : l.length = nl at *
  clear hll
  unfold maxLen at hcm
  go_enter Tryz.func5, Tryz.ntmps5
  go_wp2_with fail
  refine (SH.out _).mono ?_
  rintro e w2 ⟨rfl, b2⟩
  replace Q := Lib.hid (Q.out.after b2)
  obtain ⟨q0, q1, q2, q3⟩ := Q.out.cells
  clear b2 SH
  go_wp2_with fail
  refine (EN.out _ Q.out.bl).mono ?_
  rintro e w3 ⟨ia1, ic1, L1, rfl, hs, hk, hi, b3⟩
  have NC := Lib.hid fun u (b : Below w.heap.size w u) (q : EnvS u (cutE E L1 ia1 ic1)) => NW.out u L1 ia1 ic1 b q hk hi
  clear NW hi hk
  generalize hC : cutE E L1 ia1 ic1 = C at *
  replace hC := Lib.hid hC
  unfold envV
  have B3 := Lib.hid (below_next' Q.out.bl b3)
  have B4 := Lib.hid (below_alloc B3.out (.cells #[.slice C.ca C.ctx.length C.cc, .slice C.da C.D.length C.dc, .slice C.ia C.L.length C.ic, .slice C.na C.dr.length C.nc] 28))
  have HS := Lib.hid (hs.after (below_alloc (Below.refl w3.heap.size w3) (.cells #[.slice C.ca C.ctx.length C.cc, .slice C.da C.D.length C.dc, .slice C.ia C.L.length C.ic, .slice C.na C.dr.length C.nc] 28)))
  have BX := Lib.hid (Blk.new w3 #[.slice C.ca C.ctx.length C.cc, .slice C.da C.D.length C.dc, .slice C.ia C.L.length C.ic, .slice C.na C.dr.length C.nc] 28 rfl)
  clear hs b3 EN Q q0 q1 q2 q3
  have s1 := str_bytS HS.out.c C.cc
  go_wp2_with fail
  generalize w3.alloc (.cells #[.slice C.ca C.ctx.length C.cc, .slice C.da C.D.length C.dc, .slice C.ia C.L.length C.ic, .slice C.na C.dr.length C.nc] 28) = w4 at *
  generalize w3.heap.size = gx at *
  clear B3 s1
  have HB : Below w4.heap.size w4 w4.drew := Below.drew (Below.refl _ _)
  have KK := Lib.hid fun u (b : Below w4.heap.size w4 u) => (Blk.fou (BX.out.after b)).1
  go_region_held3 (fun w' => w'.cell? ⟨gx, 0, none⟩ = some (.slice C.ca C.ctx.length C.cc) ∧ w'.cell? ⟨gx, 1, none⟩ = some (.slice C.da C.D.length C.dc) ∧ w'.cell? ⟨gx, 2, none⟩ = some (.slice C.ia C.L.length C.ic) ∧ w'.cell? ⟨gx, 3, none⟩ = some (.slice C.na C.dr.length C.nc))
    (first | with_reducible exact KK.out _ HB)
    (first
      | (go_at_call 9; refine (FW.out _).mono ?_; rintro e w5 ⟨rfl, b5⟩; replace HB := below_next' HB b5; clear b5)
      | (go_at_call 8; refine (NC.out _ (below_next' B4.out HB) (HS.out.after HB)).mono ?_; rintro e w6 ⟨rfl, b6⟩; replace HB := below_next' HB b6; clear b6))
  rename_i hh
  clear hh
  have BE := Lib.hid (below_next' B4.out HB)
  clear HB KK NC FW HS
  go_wp2_with fail
  go_ret
  exact ⟨rfl, BE.out⟩
set_option maxHeartbeats 8000000 in
theorem l11_Stays_some (w : World) (l : List Ins) (A : Option Addr) (c : Nat) (E : EV) (f1 : Int) (h : InsS w A l) (hx : OkAll l) (hc : l.length ≤ c) (hcm : c ≤ maxLen) (hE : EnvS w E) (hok : E.raw) (S : MS) (ho : mLaw l E = some S) (hf1 : 0 ≤ f1 ∧ f1 ≤ 65535) :
    Calls Tryz.prog 5 #[.slice A l.length c, envV E, .int .u16 f1] w (Gives (.bool true) w) := by
  have SH := Lib.hid fun u => l11_shown u
  have FW := Lib.hid fun u => l11_few u A l.length c hc hcm
  have EN := Lib.hid fun u (b : Below w.heap.size w u) => l11_env u E (hE.after b) hok
  have NW := Lib.hid fun u L' ia ic (b : Below w.heap.size w u) hs hk hi => m11_NewLaw u l A c E L' ia ic (h.after b) hx hc hcm hs hk hi
  rw [ho] at NW
  obtain ⟨hcan, hst, hcl, hov, hD, hdr⟩ := law_can hok ho
  have h10 := new_ten ho
  obtain ⟨n, hn⟩ : ∃ n : Int, n = f1 % 1001 := ⟨_, rfl⟩
  have ht1 : f1.tmod 1001 = n := by rw [Int.tmod_eq_emod_of_nonneg hf1.1, hn]
  have hn0 : 0 ≤ n ∧ n ≤ 1000 := by omega
  clear hn
  have HR10 : Hid (S.pl → rg (pRun n S).r 10 = (atI 2 512, true)) := Lib.hid fun hp => (run_ten n hp).trans h10
  have HRD : Hid ((pRun n S).D.length = (E.D.take 10).length) := Lib.hid (by rw [run_D, hD])
  have HDR : Hid (Drew (E.dr.take 100) (pRun n S)) := Lib.hid (by rw [← hdr]; exact run_drew n (drew_new hcl))
  have C1 := Lib.hid fun u F g (h : (sysX g S).R u F) => m11_Run u g S F n h hcan (by omega) (by omega)
  clear hcan hst hov hcl hD hdr h10
  generalize pRun n S = R at *
  have HC := code_r0 R
  have RG := Lib.hid fun u F g (h : (sysX g R).R u F) (h10 : rg R.r 10 = (atI 2 512, true)) => (show Calls Tryz.prog 16 #[.pointer (some ⟨g, 0, none⟩), .int .i64 10] u (Gives (.tuple #[.int .u64 (atI 2 512), .bool true]) u) from by
    have q := m11_Reg u g R F 10 h
    rw [show regI R 10 = (atI 2 512, true) from by unfold regI; rw [if_pos (by decide)]; exact h10] at q
    exact q)
  have AT := Lib.hid fun u => c8_At 2 512 u
  unfold RunQ endV at C1
  generalize atI 2 512 = t10 at *
  unfold envV at EN NW
  unfold envV
  have Q := Lib.hid (EQ.new w (.slice E.ca E.ctx.length E.cc) (.slice E.da E.D.length E.dc) (.slice E.ia E.L.length E.ic) (.slice E.na E.dr.length E.nc))
  clear h hx hE
  generalize hll : l.length = nl at *
  clear hll
  unfold maxLen at hcm
  go_enter Tryz.func5, Tryz.ntmps5
  go_wp2_with fail
  refine (SH.out _).mono ?_
  rintro e w2 ⟨rfl, b2⟩
  replace Q := Lib.hid (Q.out.after b2)
  obtain ⟨q0, q1, q2, q3⟩ := Q.out.cells
  clear b2 SH
  go_wp2_with fail
  refine (EN.out _ Q.out.bl).mono ?_
  rintro e w3 ⟨ia1, ic1, L1, rfl, hs, hk, hi, b3⟩
  have NC := Lib.hid fun u (b : Below w.heap.size w u) (q : EnvS u (cutE E L1 ia1 ic1)) => NW.out u L1 ia1 ic1 b q hk hi
  clear NW hi hk
  generalize hC : cutE E L1 ia1 ic1 = C at *
  replace hC := Lib.hid hC
  unfold envV
  have B3 := Lib.hid (below_next' Q.out.bl b3)
  have B4 := Lib.hid (below_alloc B3.out (.cells #[.slice C.ca C.ctx.length C.cc, .slice C.da C.D.length C.dc, .slice C.ia C.L.length C.ic, .slice C.na C.dr.length C.nc] 28))
  have HS := Lib.hid (hs.after (below_alloc (Below.refl w3.heap.size w3) (.cells #[.slice C.ca C.ctx.length C.cc, .slice C.da C.D.length C.dc, .slice C.ia C.L.length C.ic, .slice C.na C.dr.length C.nc] 28)))
  have BX := Lib.hid (Blk.new w3 #[.slice C.ca C.ctx.length C.cc, .slice C.da C.D.length C.dc, .slice C.ia C.L.length C.ic, .slice C.na C.dr.length C.nc] 28 rfl)
  clear hs b3 EN Q q0 q1 q2 q3
  have s1 := str_bytS HS.out.c C.cc
  go_wp2_with fail
  generalize w3.alloc (.cells #[.slice C.ca C.ctx.length C.cc, .slice C.da C.D.length C.dc, .slice C.ia C.L.length C.ic, .slice C.na C.dr.length C.nc] 28) = w4 at *
  generalize w3.heap.size = gx at *
  clear B3 s1
  have HB : Below w4.heap.size w4 w4.drew := Below.drew (Below.refl _ _)
  have KK := Lib.hid fun u (b : Below w4.heap.size w4 u) => (Blk.fou (BX.out.after b)).1
  go_region_held3 (fun w' => w'.cell? ⟨gx, 0, none⟩ = some (.slice C.ca C.ctx.length C.cc) ∧ w'.cell? ⟨gx, 1, none⟩ = some (.slice C.da C.D.length C.dc) ∧ w'.cell? ⟨gx, 2, none⟩ = some (.slice C.ia C.L.length C.ic) ∧ w'.cell? ⟨gx, 3, none⟩ = some (.slice C.na C.dr.length C.nc))
    (first | with_reducible exact KK.out _ HB)
    (first
      | (go_at_call 9; refine (FW.out _).mono ?_; rintro e w5 ⟨rfl, b5⟩; replace HB := below_next' HB b5; clear b5)
      | (go_at_call 8; refine (NC.out _ (below_next' B4.out HB) (HS.out.after HB)).mono ?_; rintro e w6 ⟨g1, F1, rfl, r1, b6, f1'⟩; have X1 := Lib.hid r1; have FL1 : Hid (∀ x, F1 x → w4.heap.size ≤ x) := Lib.hid (fun x hx => Nat.le_trans HB.size (f1' x hx)); replace HB := below_next' HB b6; clear b6 r1 f1'))
  rename_i hh
  clear hh
  have B6 := Lib.hid HB
  clear HB KK NC FW
  have H10 := Lib.hid (HR10.out ⟨(sysX_ok X1.out).l, (sysX_ok X1.out).chk, (sysX_ok X1.out).at_⟩)
  clear HR10
  have HCD : Hid (R.D.length = C.D.length) := Lib.hid (by rw [HRD.out, ← hC.out]; rfl)
  have HDL : C.dr.length ≤ 100 := by
    rw [← hC.out]
    show (E.dr.take 100).length ≤ 100
    rw [List.length_take]
    omega
  have HCR : Hid (Drew C.dr R) := Lib.hid (by rw [← hC.out]; exact HDR.out)
  clear HRD HDR hC
  go_wp2_with fail
  refine (C1.out _ _ _ X1.out).mono ?_
  rintro e w7 ⟨F2, N1, va, ca, vm, cm, L, Ls, rfl, r2, t2, f2, E2, b2⟩
  obtain ⟨⟨D2, cr⟩, -, hcc, -⟩ := E2
  have B7 := Turn.on B6.out t2 B6.out.size FL1.out
  have D8 := below_alloc (Below.refl w7.heap.size w7) (.cells (endC R va ca vm cm) 54)
  have CR8 := Lib.hid (cr.after D8)
  have X8 := Lib.hid ((sysX g1 R).after r2 D8)
  have B8 := Lib.hid (below_next' B7 D8)
  have BE8 := Lib.hid (Blk.new w7 (endC R va ca vm cm) 54 rfl)
  have hcc' := Lib.hid hcc
  clear r2 t2 f2 b2 cr B7 D8 C1 X1 B6 FL1 hcc
  go_wp2_with fail
  generalize w7.alloc (.cells (endC R va ca vm cm) 54) = w8 at *
  generalize w7.heap.size = ge at *
  refine (RG.out _ _ _ X8.out H10.out).mono ?_
  rintro e w9 ⟨rfl, b9⟩
  have CR9 := Lib.hid (CR8.out.after b9)
  have B9 := Lib.hid (below_next' B8.out b9)
  have BE9 := Lib.hid (BE8.out.after b9)
  have e4 : w9.cell? ⟨ge, 4, none⟩ = some (.slice va R.calls.length ca) := Blk.cell BE9.out 4
  clear b9 CR8 B8 BE8 X8 RG H10
  have hLn : Hid (L.length = R.calls.length) := Lib.hid (by rw [← hcc'.out, List.length_map])
  have HAT : Hid (∀ j, j < R.calls.length → R.calls[j]? = some (crAt L j).c) := Lib.hid fun j hj => by
    have q : j < L.length := by rw [hLn.out]; exact hj
    rw [← hcc'.out, List.getElem?_map, List.getElem?_eq_getElem q]
    unfold crAt
    rw [List.getD_eq_getElem?_getD, List.getElem?_eq_getElem q]
    rfl
  clear hcc'
  have hcp := own_caps CR9.out.row
  rw [hLn.out] at hcp
  unfold maxLen at hcp
  go_wp2_with fail
  generalize hnC : R.calls.length = nC at *
  clear e4
  go_loopw [51, 15] (fun iv dv wr => ∃ j : Nat, iv = .int .i64 j ∧ dv = .int .i64 ((cntD (R.calls.take j) : Nat) : Int) ∧ j ≤ nC ∧ Hid (Below w9.heap.size w9 wr)) (fun iv dv wr => nC - (intOf iv).toNat)
  case atStart => exact ⟨0, rfl, rfl, by omega, Lib.hid (Below.refl _ _)⟩
  case round =>
    obtain ⟨j, rfl, rfl, hj, V⟩ := hrel
    have j0 : (0 : Int) ≤ (j : Int) := by omega
    by_cases hlt : (j : Int) < nC
    · have hjn : j < nC := by omega
      have q1 := CR9.out.after V.out
      have r1 := q1.row
      rw [hLn.out] at r1
      obtain ⟨ga, ea, -, hga⟩ := own_addr r1 (by omega)
      subst ea
      have x : ∀ r, r < 6 → wr.cell? ⟨ga, j * 6 + r, none⟩ = (cCR (crAt L j))[r]? := fun r hr => by rw [r1.cellAt _ (by omega), crC_at L j r (by rw [hLn.out]; exact hjn) hr]
      have hcj := HAT.out j hjn
      have DJ := HCR.out.at_ j _ hcj
      have CN := cntD_next hcj
      have x0 := x 0 (by omega)
      have x1 := x 1 (by omega)
      have x2 := x 2 (by omega)
      have x3 := x 3 (by omega)
      have x4 := x 4 (by omega)
      have x5 := x 5 (by omega)
      clear x q1 r1 hcj
      generalize crAt L j = s at *
      obtain ⟨cc, ka, kc, va', vc, na, nc⟩ := s
      obtain ⟨id, mp, kk, vv, nn, ret⟩ := cc
      dsimp only [cCR] at x0 x1 x2 x3 x4 x5 DJ CN
      replace x0 : wr.cell? ⟨ga, j * 6, none⟩ = some (.int .i64 id) := x0
      replace x1 : wr.cell? ⟨ga, j * 6 + 1, none⟩ = some (.int .i64 mp) := x1
      replace x2 : wr.cell? ⟨ga, j * 6 + 2, none⟩ = some (.slice ka kk.length kc) := x2
      replace x3 : wr.cell? ⟨ga, j * 6 + 3, none⟩ = some (.slice va' vv.length vc) := x3
      replace x4 : wr.cell? ⟨ga, j * 6 + 4, none⟩ = some (.slice na nn.length nc) := x4
      replace x5 : wr.cell? ⟨ga, j * 6 + 5, none⟩ = some (.int .u64 ret) := x5
      generalize hdn1 : cntD (R.calls.take (j + 1)) = dn at *
      replace hdn1 := Lib.hid hdn1
      generalize cntD (R.calls.take j) = dj at *
      have VA := Lib.hid (below_next' V.out (below_alloc (Below.refl wr.heap.size wr) (.cells #[.int .i64 id, .int .i64 mp, .slice ka kk.length kc, .slice va' vv.length vc, .slice na nn.length nc, .int .u64 ret] 59)))
      have BC := Lib.hid (Blk.new wr #[.int .i64 id, .int .i64 mp, .slice ka kk.length kc, .slice va' vv.length vc, .slice na nn.length nc, .int .u64 ret] 59 rfl)
      have BXA := Lib.hid (BX.out.after (below_next' B9.out VA.out))
      have NSA := Lib.hid (HS.out.n.after (below_next' B9.out VA.out))
      clear V
      cases q5 : (id == 5)
      · cases q7 : (id == 7)
        · cases q8 : (id == 8)
          · have hdn : dn = dj := by rw [CN]; simp [isD, q5, q7, q8]
            subst hdn
            clear DJ CN BC BXA NSA
            go_wp2_with fail
            go_round
            case rel => exact ⟨j + 1, by go_num, by rw [hdn1.out], by omega, VA⟩
            case measure => simp [intOf]; omega
          · have hD : isD id = true := by simp [isD, q5, q7, q8]
            obtain ⟨d1, d2⟩ := DJ hD
            have hdn : dn = dj + 1 := by rw [CN, hD]; rfl
            have dd : decide (C.dr.length ≤ dj) = false := decide_eq_false (by omega)
            have dd2 : (dj : Int) < C.dr.length := by omega
            have dd0 : (0 : Int) ≤ dj := by omega
            clear DJ CN d2 hD
            go_upto_region 14 with fail
            generalize wr.alloc (.cells #[.int .i64 id, .int .i64 mp, .slice ka kk.length kc, .slice va' vv.length vc, .slice na nn.length nc, .int .u64 ret] 59) = wa at *
            generalize wr.heap.size = gc at *
            have QB : Hid (Below wa.heap.size wa wa.drew) := Lib.hid (Below.drew (Below.refl _ _))
            have SD : Hid (∀ u, Below wa.heap.size wa u → u.cell? ⟨gx, 3, none⟩ = some (.slice C.na C.dr.length C.nc) ∧ u.cell? ⟨gc, 0, none⟩ = some (.int .i64 id) ∧ u.cell? ⟨gc, 5, none⟩ = some (.int .u64 ret)) := Lib.hid fun u b => ⟨(Blk.fou (BXA.out.after b)).1.2.2.2, Blk.cell (BC.out.after b) 0, Blk.cell (BC.out.after b) 5⟩
            clear x0 x1 x2 x3 x4 x5
            refine wp_region_held_drew (S := fun u => u.cell? ⟨gx, 3, none⟩ = some (.slice C.na C.dr.length C.nc) ∧ u.cell? ⟨gc, 0, none⟩ = some (.int .i64 id) ∧ u.cell? ⟨gc, 5, none⟩ = some (.int .u64 ret)) (by kernel_rfl) (SD.out _ QB.out) (fun hHeld => ?_)
            generalize wa.drew = wd at *
            refine wpAnyH_take (i := 0) (oi := { dst := some 68, op := Op.move (Operand.tmp 15), type := _, pos := _, after := _, guard := none }) (v := ?_) rfl (by kernel_rfl) (by kernel_rfl) (by kernel_rfl) (fun _ _ _ h => h) (Or.inl ⟨by rfl, ?_⟩) (by first | exact hHeld | assumption) ?_
            rotate_left 1
            · intro w hSw; (try dsimp only at hSw); go_simp; try (with_reducible rfl)
            try simp only [Act.put, List.setIfInBounds_toArray, List.set_cons_zero, List.set_cons_succ]
            refine wpAnyH_take (i := 1) (oi := { dst := some 69, op := Op.fieldAddr 28 (Operand.tmp 8) 3, type := _, pos := _, after := _, guard := none }) (v := ?_) rfl (by kernel_rfl) (by kernel_rfl) (by kernel_rfl) (fun _ _ _ h => h) (Or.inl ⟨by rfl, ?_⟩) (by first | exact hHeld | assumption) ?_
            rotate_left 1
            · intro w hSw; (try dsimp only at hSw); go_simp; try (with_reducible rfl)
            try simp only [Act.put, List.setIfInBounds_toArray, List.set_cons_zero, List.set_cons_succ]
            refine wpAnyH_take (i := 2) (oi := { dst := some 70, op := Op.load 26 (Operand.tmp 69), type := _, pos := _, after := _, guard := none }) (v := ?_) rfl (by kernel_rfl) (by kernel_rfl) (by kernel_rfl) (fun _ _ _ h => h) (Or.inl ⟨by rfl, ?_⟩) (by first | exact hHeld | assumption) ?_
            rotate_left 1
            · intro w hSw; (try dsimp only at hSw); go_simp; try (with_reducible rfl)
            try simp only [Act.put, List.setIfInBounds_toArray, List.set_cons_zero, List.set_cons_succ]
            refine wpAnyH_take (i := 3) (oi := { dst := some 71, op := Op.call { callee := Callee.builtin Builtin.len, args := #[Operand.tmp 70], argTypes := #[26] }, type := _, pos := _, after := _, guard := none }) (v := ?_) rfl (by kernel_rfl) (by kernel_rfl) (by kernel_rfl) (fun _ _ _ h => h) (Or.inl ⟨by rfl, ?_⟩) (by first | exact hHeld | assumption) ?_
            rotate_left 1
            · intro w hSw; (try dsimp only at hSw); go_simp; try (with_reducible rfl)
            try simp only [Act.put, List.setIfInBounds_toArray, List.set_cons_zero, List.set_cons_succ]
            refine wpAnyH_take (i := 4) (oi := { dst := some 72, op := Op.binOp BinOp.geq 3 (Operand.tmp 68) (Operand.tmp 71) 3, type := _, pos := _, after := _, guard := none }) (v := ?_) rfl (by kernel_rfl) (by kernel_rfl) (by kernel_rfl) (fun _ _ _ h => h) (Or.inl ⟨by rfl, ?_⟩) (by first | exact hHeld | assumption) ?_
            rotate_left 1
            · intro w hSw; (try dsimp only at hSw); go_simp; try (with_reducible rfl)
            try simp only [Act.put, List.setIfInBounds_toArray, List.set_cons_zero, List.set_cons_succ]
            refine wpAnyH_take (i := 5) (oi := { dst := some 73, op := Op.move (Operand.tmp 72), type := _, pos := _, after := _, guard := none }) (v := ?_) rfl (by kernel_rfl) (by kernel_rfl) (by kernel_rfl) (fun _ _ _ h => h) (Or.inl ⟨by rfl, ?_⟩) (by first | exact hHeld | assumption) ?_
            rotate_left 1
            · intro w hSw; (try dsimp only at hSw); go_simp; try (with_reducible rfl)
            try simp only [Act.put, List.setIfInBounds_toArray, List.set_cons_zero, List.set_cons_succ]
            refine wpAnyH_take (i := 6) (oi := { dst := some 74, op := Op.fieldAddr 59 (Operand.tmp 17) 0, type := _, pos := _, after := _, guard := some (5, false) }) (v := ?_) rfl (by kernel_rfl) (by kernel_rfl) (by kernel_rfl) (fun _ _ _ h => h) (Or.inl ⟨by rfl, ?_⟩) (by first | exact hHeld | assumption) ?_
            rotate_left 1
            · intro w hSw; (try dsimp only at hSw); go_simp; try (with_reducible rfl)
            try simp only [Act.put, List.setIfInBounds_toArray, List.set_cons_zero, List.set_cons_succ]
            refine wpAnyH_take (i := 7) (oi := { dst := some 75, op := Op.load 3 (Operand.tmp 74), type := _, pos := _, after := _, guard := some (5, false) }) (v := ?_) rfl (by kernel_rfl) (by kernel_rfl) (by kernel_rfl) (fun _ _ _ h => h) (Or.inl ⟨by rfl, ?_⟩) (by first | exact hHeld | assumption) ?_
            rotate_left 1
            · intro w hSw; (try dsimp only at hSw); go_simp; try (with_reducible rfl)
            try simp only [Act.put, List.setIfInBounds_toArray, List.set_cons_zero, List.set_cons_succ]
            refine wpAnyH_take (i := 8) (oi := { dst := some 76, op := Op.binOp BinOp.eql 3 (Operand.tmp 75) (Operand.const (Value.int IntKind.i64 5)) 3, type := _, pos := _, after := _, guard := some (5, false) }) (v := ?_) rfl (by kernel_rfl) (by kernel_rfl) (by kernel_rfl) (fun _ _ _ h => h) (Or.inl ⟨by rfl, ?_⟩) (by first | exact hHeld | assumption) ?_
            rotate_left 1
            · intro w hSw; (try dsimp only at hSw); go_simp; try (with_reducible rfl)
            try simp only [Act.put, List.setIfInBounds_toArray, List.set_cons_zero, List.set_cons_succ]
            refine wpAnyH_take (i := 9) (oi := { dst := some 77, op := Op.move (Operand.tmp 76), type := _, pos := _, after := _, guard := some (5, false) }) (v := ?_) rfl (by kernel_rfl) (by kernel_rfl) (by kernel_rfl) (fun _ _ _ h => h) (Or.inl ⟨by rfl, ?_⟩) (by first | exact hHeld | assumption) ?_
            rotate_left 1
            · intro w hSw; (try dsimp only at hSw); go_simp; try (with_reducible rfl)
            try simp only [Act.put, List.setIfInBounds_toArray, List.set_cons_zero, List.set_cons_succ]
            refine wpAnyH_take (i := 10) (oi := { dst := some 78, op := Op.fieldAddr 59 (Operand.tmp 17) 5, type := _, pos := _, after := _, guard := some (9, true) }) (v := undef) rfl (by kernel_rfl) (by kernel_rfl) (by kernel_rfl) (fun _ _ _ h => h) (Or.inr ⟨by rfl, rfl⟩) (by first | exact hHeld | assumption) ?_
            try simp only [Act.put, List.setIfInBounds_toArray, List.set_cons_zero, List.set_cons_succ]
            refine wpAnyH_take (i := 11) (oi := { dst := some 79, op := Op.load 42 (Operand.tmp 78), type := _, pos := _, after := _, guard := some (9, true) }) (v := undef) rfl (by kernel_rfl) (by kernel_rfl) (by kernel_rfl) (fun _ _ _ h => h) (Or.inr ⟨by rfl, rfl⟩) (by first | exact hHeld | assumption) ?_
            try simp only [Act.put, List.setIfInBounds_toArray, List.set_cons_zero, List.set_cons_succ]
            refine wpAnyH_take (i := 12) (oi := { dst := some 80, op := Op.fieldAddr 28 (Operand.tmp 8) 3, type := _, pos := _, after := _, guard := some (9, true) }) (v := undef) rfl (by kernel_rfl) (by kernel_rfl) (by kernel_rfl) (fun _ _ _ h => h) (Or.inr ⟨by rfl, rfl⟩) (by first | exact hHeld | assumption) ?_
            try simp only [Act.put, List.setIfInBounds_toArray, List.set_cons_zero, List.set_cons_succ]
            refine wpAnyH_take (i := 13) (oi := { dst := some 81, op := Op.load 26 (Operand.tmp 80), type := _, pos := _, after := _, guard := some (9, true) }) (v := undef) rfl (by kernel_rfl) (by kernel_rfl) (by kernel_rfl) (fun _ _ _ h => h) (Or.inr ⟨by rfl, rfl⟩) (by first | exact hHeld | assumption) ?_
            try simp only [Act.put, List.setIfInBounds_toArray, List.set_cons_zero, List.set_cons_succ]
            refine wpAnyH_take (i := 14) (oi := { dst := some 82, op := Op.move (Operand.tmp 15), type := _, pos := _, after := _, guard := some (9, true) }) (v := undef) rfl (by kernel_rfl) (by kernel_rfl) (by kernel_rfl) (fun _ _ _ h => h) (Or.inr ⟨by rfl, rfl⟩) (by first | exact hHeld | assumption) ?_
            try simp only [Act.put, List.setIfInBounds_toArray, List.set_cons_zero, List.set_cons_succ]
            refine wpAnyH_take (i := 15) (oi := { dst := some 83, op := Op.indexAddr 26 (Operand.tmp 81) (Operand.tmp 82), type := _, pos := _, after := _, guard := some (9, true) }) (v := undef) rfl (by kernel_rfl) (by kernel_rfl) (by kernel_rfl) (fun _ _ _ h => h) (Or.inr ⟨by rfl, rfl⟩) (by first | exact hHeld | assumption) ?_
            try simp only [Act.put, List.setIfInBounds_toArray, List.set_cons_zero, List.set_cons_succ]
            refine wpAnyH_take (i := 16) (oi := { dst := some 84, op := Op.load 42 (Operand.tmp 83), type := _, pos := _, after := _, guard := some (9, true) }) (v := undef) rfl (by kernel_rfl) (by kernel_rfl) (by kernel_rfl) (fun _ _ _ h => h) (Or.inr ⟨by rfl, rfl⟩) (by first | exact hHeld | assumption) ?_
            try simp only [Act.put, List.setIfInBounds_toArray, List.set_cons_zero, List.set_cons_succ]
            refine wpAnyH_take (i := 17) (oi := { dst := some 85, op := Op.binOp BinOp.neq 42 (Operand.tmp 79) (Operand.tmp 84) 42, type := _, pos := _, after := _, guard := some (9, true) }) (v := undef) rfl (by kernel_rfl) (by kernel_rfl) (by kernel_rfl) (fun _ _ _ h => h) (Or.inr ⟨by rfl, rfl⟩) (by first | exact hHeld | assumption) ?_
            try simp only [Act.put, List.setIfInBounds_toArray, List.set_cons_zero, List.set_cons_succ]
            refine wpAnyH_take (i := 18) (oi := { dst := some 86, op := Op.pick (Operand.tmp 77) (Operand.tmp 85) (Operand.const (Value.bool false)), type := _, pos := _, after := _, guard := some (5, false) }) (v := ?_) rfl (by kernel_rfl) (by kernel_rfl) (by kernel_rfl) (fun _ _ _ h => h) (Or.inl ⟨by rfl, ?_⟩) (by first | exact hHeld | assumption) ?_
            rotate_left 1
            · intro w hSw; (try dsimp only at hSw); go_simp; try (with_reducible rfl)
            try simp only [Act.put, List.setIfInBounds_toArray, List.set_cons_zero, List.set_cons_succ]
            refine wpAnyH_take (i := 19) (oi := { dst := some 87, op := Op.pick (Operand.tmp 73) (Operand.const (Value.bool true)) (Operand.tmp 86), type := _, pos := _, after := _, guard := none }) (v := ?_) rfl (by kernel_rfl) (by kernel_rfl) (by kernel_rfl) (fun _ _ _ h => h) (Or.inl ⟨by rfl, ?_⟩) (by first | exact hHeld | assumption) ?_
            rotate_left 1
            · intro w hSw; (try dsimp only at hSw); go_simp; try (with_reducible rfl)
            try simp only [Act.put, List.setIfInBounds_toArray, List.set_cons_zero, List.set_cons_succ]
            refine wpAnyH_done (by kernel_rfl) ?_ _
            go_wp2_with fail
            go_round
            case rel => exact ⟨j + 1, by go_num, by rw [hdn1.out, hdn]; go_num, by omega, Lib.hid (below_next' VA.out QB.out)⟩
            case measure => simp [intOf]; omega
        · have hD : isD id = true := by simp [isD, q5, q7]
          obtain ⟨d1, d2⟩ := DJ hD
          have hdn : dn = dj + 1 := by rw [CN, hD]; rfl
          have dd : decide (C.dr.length ≤ dj) = false := decide_eq_false (by omega)
          have dd2 : (dj : Int) < C.dr.length := by omega
          have dd0 : (0 : Int) ≤ dj := by omega
          clear DJ CN d2 hD
          go_upto_region 14 with fail
          generalize wr.alloc (.cells #[.int .i64 id, .int .i64 mp, .slice ka kk.length kc, .slice va' vv.length vc, .slice na nn.length nc, .int .u64 ret] 59) = wa at *
          generalize wr.heap.size = gc at *
          have QB : Hid (Below wa.heap.size wa wa.drew) := Lib.hid (Below.drew (Below.refl _ _))
          have SD : Hid (∀ u, Below wa.heap.size wa u → u.cell? ⟨gx, 3, none⟩ = some (.slice C.na C.dr.length C.nc) ∧ u.cell? ⟨gc, 0, none⟩ = some (.int .i64 id) ∧ u.cell? ⟨gc, 5, none⟩ = some (.int .u64 ret)) := Lib.hid fun u b => ⟨(Blk.fou (BXA.out.after b)).1.2.2.2, Blk.cell (BC.out.after b) 0, Blk.cell (BC.out.after b) 5⟩
          clear x0 x1 x2 x3 x4 x5
          refine wp_region_held_drew (S := fun u => u.cell? ⟨gx, 3, none⟩ = some (.slice C.na C.dr.length C.nc) ∧ u.cell? ⟨gc, 0, none⟩ = some (.int .i64 id) ∧ u.cell? ⟨gc, 5, none⟩ = some (.int .u64 ret)) (by kernel_rfl) (SD.out _ QB.out) (fun hHeld => ?_)
          generalize wa.drew = wd at *
          refine wpAnyH_take (i := 0) (oi := { dst := some 68, op := Op.move (Operand.tmp 15), type := _, pos := _, after := _, guard := none }) (v := ?_) rfl (by kernel_rfl) (by kernel_rfl) (by kernel_rfl) (fun _ _ _ h => h) (Or.inl ⟨by rfl, ?_⟩) (by first | exact hHeld | assumption) ?_
          rotate_left 1
          · intro w hSw; (try dsimp only at hSw); go_simp; try (with_reducible rfl)
          try simp only [Act.put, List.setIfInBounds_toArray, List.set_cons_zero, List.set_cons_succ]
          refine wpAnyH_take (i := 1) (oi := { dst := some 69, op := Op.fieldAddr 28 (Operand.tmp 8) 3, type := _, pos := _, after := _, guard := none }) (v := ?_) rfl (by kernel_rfl) (by kernel_rfl) (by kernel_rfl) (fun _ _ _ h => h) (Or.inl ⟨by rfl, ?_⟩) (by first | exact hHeld | assumption) ?_
          rotate_left 1
          · intro w hSw; (try dsimp only at hSw); go_simp; try (with_reducible rfl)
          try simp only [Act.put, List.setIfInBounds_toArray, List.set_cons_zero, List.set_cons_succ]
          refine wpAnyH_take (i := 2) (oi := { dst := some 70, op := Op.load 26 (Operand.tmp 69), type := _, pos := _, after := _, guard := none }) (v := ?_) rfl (by kernel_rfl) (by kernel_rfl) (by kernel_rfl) (fun _ _ _ h => h) (Or.inl ⟨by rfl, ?_⟩) (by first | exact hHeld | assumption) ?_
          rotate_left 1
          · intro w hSw; (try dsimp only at hSw); go_simp; try (with_reducible rfl)
          try simp only [Act.put, List.setIfInBounds_toArray, List.set_cons_zero, List.set_cons_succ]
          refine wpAnyH_take (i := 3) (oi := { dst := some 71, op := Op.call { callee := Callee.builtin Builtin.len, args := #[Operand.tmp 70], argTypes := #[26] }, type := _, pos := _, after := _, guard := none }) (v := ?_) rfl (by kernel_rfl) (by kernel_rfl) (by kernel_rfl) (fun _ _ _ h => h) (Or.inl ⟨by rfl, ?_⟩) (by first | exact hHeld | assumption) ?_
          rotate_left 1
          · intro w hSw; (try dsimp only at hSw); go_simp; try (with_reducible rfl)
          try simp only [Act.put, List.setIfInBounds_toArray, List.set_cons_zero, List.set_cons_succ]
          refine wpAnyH_take (i := 4) (oi := { dst := some 72, op := Op.binOp BinOp.geq 3 (Operand.tmp 68) (Operand.tmp 71) 3, type := _, pos := _, after := _, guard := none }) (v := ?_) rfl (by kernel_rfl) (by kernel_rfl) (by kernel_rfl) (fun _ _ _ h => h) (Or.inl ⟨by rfl, ?_⟩) (by first | exact hHeld | assumption) ?_
          rotate_left 1
          · intro w hSw; (try dsimp only at hSw); go_simp; try (with_reducible rfl)
          try simp only [Act.put, List.setIfInBounds_toArray, List.set_cons_zero, List.set_cons_succ]
          refine wpAnyH_take (i := 5) (oi := { dst := some 73, op := Op.move (Operand.tmp 72), type := _, pos := _, after := _, guard := none }) (v := ?_) rfl (by kernel_rfl) (by kernel_rfl) (by kernel_rfl) (fun _ _ _ h => h) (Or.inl ⟨by rfl, ?_⟩) (by first | exact hHeld | assumption) ?_
          rotate_left 1
          · intro w hSw; (try dsimp only at hSw); go_simp; try (with_reducible rfl)
          try simp only [Act.put, List.setIfInBounds_toArray, List.set_cons_zero, List.set_cons_succ]
          refine wpAnyH_take (i := 6) (oi := { dst := some 74, op := Op.fieldAddr 59 (Operand.tmp 17) 0, type := _, pos := _, after := _, guard := some (5, false) }) (v := ?_) rfl (by kernel_rfl) (by kernel_rfl) (by kernel_rfl) (fun _ _ _ h => h) (Or.inl ⟨by rfl, ?_⟩) (by first | exact hHeld | assumption) ?_
          rotate_left 1
          · intro w hSw; (try dsimp only at hSw); go_simp; try (with_reducible rfl)
          try simp only [Act.put, List.setIfInBounds_toArray, List.set_cons_zero, List.set_cons_succ]
          refine wpAnyH_take (i := 7) (oi := { dst := some 75, op := Op.load 3 (Operand.tmp 74), type := _, pos := _, after := _, guard := some (5, false) }) (v := ?_) rfl (by kernel_rfl) (by kernel_rfl) (by kernel_rfl) (fun _ _ _ h => h) (Or.inl ⟨by rfl, ?_⟩) (by first | exact hHeld | assumption) ?_
          rotate_left 1
          · intro w hSw; (try dsimp only at hSw); go_simp; try (with_reducible rfl)
          try simp only [Act.put, List.setIfInBounds_toArray, List.set_cons_zero, List.set_cons_succ]
          refine wpAnyH_take (i := 8) (oi := { dst := some 76, op := Op.binOp BinOp.eql 3 (Operand.tmp 75) (Operand.const (Value.int IntKind.i64 5)) 3, type := _, pos := _, after := _, guard := some (5, false) }) (v := ?_) rfl (by kernel_rfl) (by kernel_rfl) (by kernel_rfl) (fun _ _ _ h => h) (Or.inl ⟨by rfl, ?_⟩) (by first | exact hHeld | assumption) ?_
          rotate_left 1
          · intro w hSw; (try dsimp only at hSw); go_simp; try (with_reducible rfl)
          try simp only [Act.put, List.setIfInBounds_toArray, List.set_cons_zero, List.set_cons_succ]
          refine wpAnyH_take (i := 9) (oi := { dst := some 77, op := Op.move (Operand.tmp 76), type := _, pos := _, after := _, guard := some (5, false) }) (v := ?_) rfl (by kernel_rfl) (by kernel_rfl) (by kernel_rfl) (fun _ _ _ h => h) (Or.inl ⟨by rfl, ?_⟩) (by first | exact hHeld | assumption) ?_
          rotate_left 1
          · intro w hSw; (try dsimp only at hSw); go_simp; try (with_reducible rfl)
          try simp only [Act.put, List.setIfInBounds_toArray, List.set_cons_zero, List.set_cons_succ]
          refine wpAnyH_take (i := 10) (oi := { dst := some 78, op := Op.fieldAddr 59 (Operand.tmp 17) 5, type := _, pos := _, after := _, guard := some (9, true) }) (v := undef) rfl (by kernel_rfl) (by kernel_rfl) (by kernel_rfl) (fun _ _ _ h => h) (Or.inr ⟨by rfl, rfl⟩) (by first | exact hHeld | assumption) ?_
          try simp only [Act.put, List.setIfInBounds_toArray, List.set_cons_zero, List.set_cons_succ]
          refine wpAnyH_take (i := 11) (oi := { dst := some 79, op := Op.load 42 (Operand.tmp 78), type := _, pos := _, after := _, guard := some (9, true) }) (v := undef) rfl (by kernel_rfl) (by kernel_rfl) (by kernel_rfl) (fun _ _ _ h => h) (Or.inr ⟨by rfl, rfl⟩) (by first | exact hHeld | assumption) ?_
          try simp only [Act.put, List.setIfInBounds_toArray, List.set_cons_zero, List.set_cons_succ]
          refine wpAnyH_take (i := 12) (oi := { dst := some 80, op := Op.fieldAddr 28 (Operand.tmp 8) 3, type := _, pos := _, after := _, guard := some (9, true) }) (v := undef) rfl (by kernel_rfl) (by kernel_rfl) (by kernel_rfl) (fun _ _ _ h => h) (Or.inr ⟨by rfl, rfl⟩) (by first | exact hHeld | assumption) ?_
          try simp only [Act.put, List.setIfInBounds_toArray, List.set_cons_zero, List.set_cons_succ]
          refine wpAnyH_take (i := 13) (oi := { dst := some 81, op := Op.load 26 (Operand.tmp 80), type := _, pos := _, after := _, guard := some (9, true) }) (v := undef) rfl (by kernel_rfl) (by kernel_rfl) (by kernel_rfl) (fun _ _ _ h => h) (Or.inr ⟨by rfl, rfl⟩) (by first | exact hHeld | assumption) ?_
          try simp only [Act.put, List.setIfInBounds_toArray, List.set_cons_zero, List.set_cons_succ]
          refine wpAnyH_take (i := 14) (oi := { dst := some 82, op := Op.move (Operand.tmp 15), type := _, pos := _, after := _, guard := some (9, true) }) (v := undef) rfl (by kernel_rfl) (by kernel_rfl) (by kernel_rfl) (fun _ _ _ h => h) (Or.inr ⟨by rfl, rfl⟩) (by first | exact hHeld | assumption) ?_
          try simp only [Act.put, List.setIfInBounds_toArray, List.set_cons_zero, List.set_cons_succ]
          refine wpAnyH_take (i := 15) (oi := { dst := some 83, op := Op.indexAddr 26 (Operand.tmp 81) (Operand.tmp 82), type := _, pos := _, after := _, guard := some (9, true) }) (v := undef) rfl (by kernel_rfl) (by kernel_rfl) (by kernel_rfl) (fun _ _ _ h => h) (Or.inr ⟨by rfl, rfl⟩) (by first | exact hHeld | assumption) ?_
          try simp only [Act.put, List.setIfInBounds_toArray, List.set_cons_zero, List.set_cons_succ]
          refine wpAnyH_take (i := 16) (oi := { dst := some 84, op := Op.load 42 (Operand.tmp 83), type := _, pos := _, after := _, guard := some (9, true) }) (v := undef) rfl (by kernel_rfl) (by kernel_rfl) (by kernel_rfl) (fun _ _ _ h => h) (Or.inr ⟨by rfl, rfl⟩) (by first | exact hHeld | assumption) ?_
          try simp only [Act.put, List.setIfInBounds_toArray, List.set_cons_zero, List.set_cons_succ]
          refine wpAnyH_take (i := 17) (oi := { dst := some 85, op := Op.binOp BinOp.neq 42 (Operand.tmp 79) (Operand.tmp 84) 42, type := _, pos := _, after := _, guard := some (9, true) }) (v := undef) rfl (by kernel_rfl) (by kernel_rfl) (by kernel_rfl) (fun _ _ _ h => h) (Or.inr ⟨by rfl, rfl⟩) (by first | exact hHeld | assumption) ?_
          try simp only [Act.put, List.setIfInBounds_toArray, List.set_cons_zero, List.set_cons_succ]
          refine wpAnyH_take (i := 18) (oi := { dst := some 86, op := Op.pick (Operand.tmp 77) (Operand.tmp 85) (Operand.const (Value.bool false)), type := _, pos := _, after := _, guard := some (5, false) }) (v := ?_) rfl (by kernel_rfl) (by kernel_rfl) (by kernel_rfl) (fun _ _ _ h => h) (Or.inl ⟨by rfl, ?_⟩) (by first | exact hHeld | assumption) ?_
          rotate_left 1
          · intro w hSw; (try dsimp only at hSw); go_simp; try (with_reducible rfl)
          try simp only [Act.put, List.setIfInBounds_toArray, List.set_cons_zero, List.set_cons_succ]
          refine wpAnyH_take (i := 19) (oi := { dst := some 87, op := Op.pick (Operand.tmp 73) (Operand.const (Value.bool true)) (Operand.tmp 86), type := _, pos := _, after := _, guard := none }) (v := ?_) rfl (by kernel_rfl) (by kernel_rfl) (by kernel_rfl) (fun _ _ _ h => h) (Or.inl ⟨by rfl, ?_⟩) (by first | exact hHeld | assumption) ?_
          rotate_left 1
          · intro w hSw; (try dsimp only at hSw); go_simp; try (with_reducible rfl)
          try simp only [Act.put, List.setIfInBounds_toArray, List.set_cons_zero, List.set_cons_succ]
          refine wpAnyH_done (by kernel_rfl) ?_ _
          go_wp2_with fail
          go_round
          case rel => exact ⟨j + 1, by go_num, by rw [hdn1.out, hdn]; go_num, by omega, Lib.hid (below_next' VA.out QB.out)⟩
          case measure => simp [intOf]; omega
      · have hD : isD id = true := by simp [isD, q5]
        obtain ⟨d1, d2⟩ := DJ hD
        have hdn : dn = dj + 1 := by rw [CN, hD]; rfl
        have dd : decide (C.dr.length ≤ dj) = false := decide_eq_false (by omega)
        have dd2 : (dj : Int) < C.dr.length := by omega
        have dd0 : (0 : Int) ≤ dj := by omega
        have hret : ret = bAt C.dr dj := d2 (beq_iff_eq.mp q5)
        subst hret
        obtain ⟨gn, on, hna, -, hnc⟩ := NSA.out (by omega)
        have hcn := hnc dj d1
        clear hnc
        clear DJ CN d2 hD
        go_upto_region 14 with fail
        generalize wr.alloc (.cells #[.int .i64 id, .int .i64 mp, .slice ka kk.length kc, .slice va' vv.length vc, .slice na nn.length nc, .int .u64 (bAt C.dr dj)] 59) = wa at *
        generalize wr.heap.size = gc at *
        have QB : Hid (Below wa.heap.size wa wa.drew) := Lib.hid (Below.drew (Below.refl _ _))
        have hcn' := Lib.hid hcn
        have SD : Hid (∀ u, Below wa.heap.size wa u → u.cell? ⟨gx, 3, none⟩ = some (.slice (some ⟨gn, on, none⟩) C.dr.length C.nc) ∧ u.cell? ⟨gc, 0, none⟩ = some (.int .i64 id) ∧ u.cell? ⟨gc, 5, none⟩ = some (.int .u64 (bAt C.dr dj)) ∧ u.cell? ⟨gn, on + dj, none⟩ = some (.int .u64 (bAt C.dr dj))) := Lib.hid fun u b => ⟨by rw [← hna]; exact (Blk.fou (BXA.out.after b)).1.2.2.2, Blk.cell (BC.out.after b) 0, Blk.cell (BC.out.after b) 5, cell_on hcn'.out b⟩
        clear x0 x1 x2 x3 x4 x5 hcn
        refine wp_region_held_drew (S := fun u => u.cell? ⟨gx, 3, none⟩ = some (.slice (some ⟨gn, on, none⟩) C.dr.length C.nc) ∧ u.cell? ⟨gc, 0, none⟩ = some (.int .i64 id) ∧ u.cell? ⟨gc, 5, none⟩ = some (.int .u64 (bAt C.dr dj)) ∧ u.cell? ⟨gn, on + dj, none⟩ = some (.int .u64 (bAt C.dr dj))) (by kernel_rfl) (SD.out _ QB.out) (fun hHeld => ?_)
        generalize wa.drew = wd at *
        refine wpAnyH_take (i := 0) (oi := { dst := some 68, op := Op.move (Operand.tmp 15), type := _, pos := _, after := _, guard := none }) (v := ?_) rfl (by kernel_rfl) (by kernel_rfl) (by kernel_rfl) (fun _ _ _ h => h) (Or.inl ⟨by rfl, ?_⟩) (by first | exact hHeld | assumption) ?_
        rotate_left 1
        · intro w hSw; (try dsimp only at hSw); go_simp; try (with_reducible rfl)
        try simp only [Act.put, List.setIfInBounds_toArray, List.set_cons_zero, List.set_cons_succ]
        refine wpAnyH_take (i := 1) (oi := { dst := some 69, op := Op.fieldAddr 28 (Operand.tmp 8) 3, type := _, pos := _, after := _, guard := none }) (v := ?_) rfl (by kernel_rfl) (by kernel_rfl) (by kernel_rfl) (fun _ _ _ h => h) (Or.inl ⟨by rfl, ?_⟩) (by first | exact hHeld | assumption) ?_
        rotate_left 1
        · intro w hSw; (try dsimp only at hSw); go_simp; try (with_reducible rfl)
        try simp only [Act.put, List.setIfInBounds_toArray, List.set_cons_zero, List.set_cons_succ]
        refine wpAnyH_take (i := 2) (oi := { dst := some 70, op := Op.load 26 (Operand.tmp 69), type := _, pos := _, after := _, guard := none }) (v := ?_) rfl (by kernel_rfl) (by kernel_rfl) (by kernel_rfl) (fun _ _ _ h => h) (Or.inl ⟨by rfl, ?_⟩) (by first | exact hHeld | assumption) ?_
        rotate_left 1
        · intro w hSw; (try dsimp only at hSw); go_simp; try (with_reducible rfl)
        try simp only [Act.put, List.setIfInBounds_toArray, List.set_cons_zero, List.set_cons_succ]
        refine wpAnyH_take (i := 3) (oi := { dst := some 71, op := Op.call { callee := Callee.builtin Builtin.len, args := #[Operand.tmp 70], argTypes := #[26] }, type := _, pos := _, after := _, guard := none }) (v := ?_) rfl (by kernel_rfl) (by kernel_rfl) (by kernel_rfl) (fun _ _ _ h => h) (Or.inl ⟨by rfl, ?_⟩) (by first | exact hHeld | assumption) ?_
        rotate_left 1
        · intro w hSw; (try dsimp only at hSw); go_simp; try (with_reducible rfl)
        try simp only [Act.put, List.setIfInBounds_toArray, List.set_cons_zero, List.set_cons_succ]
        refine wpAnyH_take (i := 4) (oi := { dst := some 72, op := Op.binOp BinOp.geq 3 (Operand.tmp 68) (Operand.tmp 71) 3, type := _, pos := _, after := _, guard := none }) (v := ?_) rfl (by kernel_rfl) (by kernel_rfl) (by kernel_rfl) (fun _ _ _ h => h) (Or.inl ⟨by rfl, ?_⟩) (by first | exact hHeld | assumption) ?_
        rotate_left 1
        · intro w hSw; (try dsimp only at hSw); go_simp; try (with_reducible rfl)
        try simp only [Act.put, List.setIfInBounds_toArray, List.set_cons_zero, List.set_cons_succ]
        refine wpAnyH_take (i := 5) (oi := { dst := some 73, op := Op.move (Operand.tmp 72), type := _, pos := _, after := _, guard := none }) (v := ?_) rfl (by kernel_rfl) (by kernel_rfl) (by kernel_rfl) (fun _ _ _ h => h) (Or.inl ⟨by rfl, ?_⟩) (by first | exact hHeld | assumption) ?_
        rotate_left 1
        · intro w hSw; (try dsimp only at hSw); go_simp; try (with_reducible rfl)
        try simp only [Act.put, List.setIfInBounds_toArray, List.set_cons_zero, List.set_cons_succ]
        refine wpAnyH_take (i := 6) (oi := { dst := some 74, op := Op.fieldAddr 59 (Operand.tmp 17) 0, type := _, pos := _, after := _, guard := some (5, false) }) (v := ?_) rfl (by kernel_rfl) (by kernel_rfl) (by kernel_rfl) (fun _ _ _ h => h) (Or.inl ⟨by rfl, ?_⟩) (by first | exact hHeld | assumption) ?_
        rotate_left 1
        · intro w hSw; (try dsimp only at hSw); go_simp; try (with_reducible rfl)
        try simp only [Act.put, List.setIfInBounds_toArray, List.set_cons_zero, List.set_cons_succ]
        refine wpAnyH_take (i := 7) (oi := { dst := some 75, op := Op.load 3 (Operand.tmp 74), type := _, pos := _, after := _, guard := some (5, false) }) (v := ?_) rfl (by kernel_rfl) (by kernel_rfl) (by kernel_rfl) (fun _ _ _ h => h) (Or.inl ⟨by rfl, ?_⟩) (by first | exact hHeld | assumption) ?_
        rotate_left 1
        · intro w hSw; (try dsimp only at hSw); go_simp; try (with_reducible rfl)
        try simp only [Act.put, List.setIfInBounds_toArray, List.set_cons_zero, List.set_cons_succ]
        refine wpAnyH_take (i := 8) (oi := { dst := some 76, op := Op.binOp BinOp.eql 3 (Operand.tmp 75) (Operand.const (Value.int IntKind.i64 5)) 3, type := _, pos := _, after := _, guard := some (5, false) }) (v := ?_) rfl (by kernel_rfl) (by kernel_rfl) (by kernel_rfl) (fun _ _ _ h => h) (Or.inl ⟨by rfl, ?_⟩) (by first | exact hHeld | assumption) ?_
        rotate_left 1
        · intro w hSw; (try dsimp only at hSw); go_simp; try (with_reducible rfl)
        try simp only [Act.put, List.setIfInBounds_toArray, List.set_cons_zero, List.set_cons_succ]
        refine wpAnyH_take (i := 9) (oi := { dst := some 77, op := Op.move (Operand.tmp 76), type := _, pos := _, after := _, guard := some (5, false) }) (v := ?_) rfl (by kernel_rfl) (by kernel_rfl) (by kernel_rfl) (fun _ _ _ h => h) (Or.inl ⟨by rfl, ?_⟩) (by first | exact hHeld | assumption) ?_
        rotate_left 1
        · intro w hSw; (try dsimp only at hSw); go_simp; try (with_reducible rfl)
        try simp only [Act.put, List.setIfInBounds_toArray, List.set_cons_zero, List.set_cons_succ]
        refine wpAnyH_take (i := 10) (oi := { dst := some 78, op := Op.fieldAddr 59 (Operand.tmp 17) 5, type := _, pos := _, after := _, guard := some (9, true) }) (v := ?_) rfl (by kernel_rfl) (by kernel_rfl) (by kernel_rfl) (fun _ _ _ h => h) (Or.inl ⟨by rfl, ?_⟩) (by first | exact hHeld | assumption) ?_
        rotate_left 1
        · intro w hSw; (try dsimp only at hSw); go_simp; try (with_reducible rfl)
        try simp only [Act.put, List.setIfInBounds_toArray, List.set_cons_zero, List.set_cons_succ]
        refine wpAnyH_take (i := 11) (oi := { dst := some 79, op := Op.load 42 (Operand.tmp 78), type := _, pos := _, after := _, guard := some (9, true) }) (v := ?_) rfl (by kernel_rfl) (by kernel_rfl) (by kernel_rfl) (fun _ _ _ h => h) (Or.inl ⟨by rfl, ?_⟩) (by first | exact hHeld | assumption) ?_
        rotate_left 1
        · intro w hSw; (try dsimp only at hSw); go_simp; try (with_reducible rfl)
        try simp only [Act.put, List.setIfInBounds_toArray, List.set_cons_zero, List.set_cons_succ]
        refine wpAnyH_take (i := 12) (oi := { dst := some 80, op := Op.fieldAddr 28 (Operand.tmp 8) 3, type := _, pos := _, after := _, guard := some (9, true) }) (v := ?_) rfl (by kernel_rfl) (by kernel_rfl) (by kernel_rfl) (fun _ _ _ h => h) (Or.inl ⟨by rfl, ?_⟩) (by first | exact hHeld | assumption) ?_
        rotate_left 1
        · intro w hSw; (try dsimp only at hSw); go_simp; try (with_reducible rfl)
        try simp only [Act.put, List.setIfInBounds_toArray, List.set_cons_zero, List.set_cons_succ]
        refine wpAnyH_take (i := 13) (oi := { dst := some 81, op := Op.load 26 (Operand.tmp 80), type := _, pos := _, after := _, guard := some (9, true) }) (v := ?_) rfl (by kernel_rfl) (by kernel_rfl) (by kernel_rfl) (fun _ _ _ h => h) (Or.inl ⟨by rfl, ?_⟩) (by first | exact hHeld | assumption) ?_
        rotate_left 1
        · intro w hSw; (try dsimp only at hSw); go_simp; try (with_reducible rfl)
        try simp only [Act.put, List.setIfInBounds_toArray, List.set_cons_zero, List.set_cons_succ]
        refine wpAnyH_take (i := 14) (oi := { dst := some 82, op := Op.move (Operand.tmp 15), type := _, pos := _, after := _, guard := some (9, true) }) (v := ?_) rfl (by kernel_rfl) (by kernel_rfl) (by kernel_rfl) (fun _ _ _ h => h) (Or.inl ⟨by rfl, ?_⟩) (by first | exact hHeld | assumption) ?_
        rotate_left 1
        · intro w hSw; (try dsimp only at hSw); go_simp; try (with_reducible rfl)
        try simp only [Act.put, List.setIfInBounds_toArray, List.set_cons_zero, List.set_cons_succ]
        refine wpAnyH_take (i := 15) (oi := { dst := some 83, op := Op.indexAddr 26 (Operand.tmp 81) (Operand.tmp 82), type := _, pos := _, after := _, guard := some (9, true) }) (v := ?_) rfl (by kernel_rfl) (by kernel_rfl) (by kernel_rfl) (fun _ _ _ h => h) (Or.inl ⟨by rfl, ?_⟩) (by first | exact hHeld | assumption) ?_
        rotate_left 1
        · intro w hSw; (try dsimp only at hSw); go_simp; try (with_reducible rfl)
        try simp only [Act.put, List.setIfInBounds_toArray, List.set_cons_zero, List.set_cons_succ]
        refine wpAnyH_take (i := 16) (oi := { dst := some 84, op := Op.load 42 (Operand.tmp 83), type := _, pos := _, after := _, guard := some (9, true) }) (v := ?_) rfl (by kernel_rfl) (by kernel_rfl) (by kernel_rfl) (fun _ _ _ h => h) (Or.inl ⟨by rfl, ?_⟩) (by first | exact hHeld | assumption) ?_
        rotate_left 1
        · intro w hSw; (try dsimp only at hSw); go_simp; try (with_reducible rfl)
        try simp only [Act.put, List.setIfInBounds_toArray, List.set_cons_zero, List.set_cons_succ]
        refine wpAnyH_take (i := 17) (oi := { dst := some 85, op := Op.binOp BinOp.neq 42 (Operand.tmp 79) (Operand.tmp 84) 42, type := _, pos := _, after := _, guard := some (9, true) }) (v := ?_) rfl (by kernel_rfl) (by kernel_rfl) (by kernel_rfl) (fun _ _ _ h => h) (Or.inl ⟨by rfl, ?_⟩) (by first | exact hHeld | assumption) ?_
        rotate_left 1
        · intro w hSw; (try dsimp only at hSw); go_simp; try (with_reducible rfl)
        try simp only [Act.put, List.setIfInBounds_toArray, List.set_cons_zero, List.set_cons_succ]
        refine wpAnyH_take (i := 18) (oi := { dst := some 86, op := Op.pick (Operand.tmp 77) (Operand.tmp 85) (Operand.const (Value.bool false)), type := _, pos := _, after := _, guard := some (5, false) }) (v := ?_) rfl (by kernel_rfl) (by kernel_rfl) (by kernel_rfl) (fun _ _ _ h => h) (Or.inl ⟨by rfl, ?_⟩) (by first | exact hHeld | assumption) ?_
        rotate_left 1
        · intro w hSw; (try dsimp only at hSw); go_simp; try (with_reducible rfl)
        try simp only [Act.put, List.setIfInBounds_toArray, List.set_cons_zero, List.set_cons_succ]
        refine wpAnyH_take (i := 19) (oi := { dst := some 87, op := Op.pick (Operand.tmp 73) (Operand.const (Value.bool true)) (Operand.tmp 86), type := _, pos := _, after := _, guard := none }) (v := ?_) rfl (by kernel_rfl) (by kernel_rfl) (by kernel_rfl) (fun _ _ _ h => h) (Or.inl ⟨by rfl, ?_⟩) (by first | exact hHeld | assumption) ?_
        rotate_left 1
        · intro w hSw; (try dsimp only at hSw); go_simp; try (with_reducible rfl)
        try simp only [Act.put, List.setIfInBounds_toArray, List.set_cons_zero, List.set_cons_succ]
        refine wpAnyH_done (by kernel_rfl) ?_ _
        go_wp2_with fail
        go_round
        case rel => exact ⟨j + 1, by go_num, by rw [hdn1.out, hdn]; go_num, by omega, Lib.hid (below_next' VA.out QB.out)⟩
        case measure => simp [intOf]; omega
    · have hj2 : j = nC := by omega
      subst hj2
      have V9 := below_next' B9.out V.out
      obtain ⟨⟨y0, y1, y2, y3⟩, -⟩ := Blk.fou (BX.out.after V9)
      have YB := Lib.hid (below_next' B4.out V9)
      have BXW := Lib.hid (BX.out.after V9)
      have BEW := Lib.hid (BE9.out.after V.out)
      have CTW := Lib.hid (HS.out.c.after V9)
      clear V9 V CR9 BX B9 BE9 HAT HCR HS
      go_wp2_with fail
      refine (AT.out _).mono ?_
      rintro e w10 ⟨rfl, b10⟩
      have YE := Lib.hid (below_next' YB.out b10)
      clear y0 y1 y2 y3
      obtain ⟨⟨y0, y1, y2, y3⟩, -⟩ := Blk.fou (BXW.out.after b10)
      have s1 := str_bytS (CTW.out.after b10) C.cc
      have e0 : w10.cell? ⟨ge, 0, none⟩ = some (.int .i64 (mCode R)) := Blk.cell (BEW.out.after b10) 0
      have e2 : w10.cell? ⟨ge, 2, none⟩ = some (.int .u64 (mR0 R)) := Blk.cell (BEW.out.after b10) 2
      have e5 : w10.cell? ⟨ge, 5, none⟩ = some (.slice vm R.D.length cm) := Blk.cell (BEW.out.after b10) 5
      rw [HCD.out] at e5
      clear b10 BXW BEW CTW YB
      cases hz : (mCode R == 0)
      · have hr0 : mR0 R = 0 := by
          rcases HC with k | k
          · rw [k] at hz; cases hz
          · exact k
        rw [hr0] at e2
        clear hr0 HC
        go_wp2_with fail
        go_ret
        exact ⟨rfl, YE.out⟩
      · clear HC
        go_wp2_with fail
        go_ret
        exact ⟨rfl, YE.out⟩
end Go.Proofs.YtlbhffdpklbhfaaGreat
namespace Go.Proofs.YtlbhffdpklbhfaaGreat
open Go.ChangeShapes Go.WideShapes Go.RowKit
def LeafOk : Option IntKind → Value → Prop
  | some k, v => ∃ n, v = .int k n ∧ (Lit.int k n).wf = true
  | none, v => ∃ b, v = .bool b
def leafAt (P : Program) : Nat → TypeId → Nat → Option (Option IntKind)
  | 0, _, _ => none
  | n + 1, t, j =>
    match P.underlying t with
    | some (.int k) => if j = 0 then some (some k) else none
    | some .bool => if j = 0 then some none else none
    | some (.struct fs) => (fs.toList.find? fun f => decide (f.offset ≤ j ∧ j < f.offset + P.cellsOf f.type)).bind fun f => leafAt P n f.type (j - f.offset)
    | some (.array m e) => if P.cellsOf e = 0 then none else if j < m * P.cellsOf e then leafAt P n e (j % P.cellsOf e) else none
    | _ => none
section
variable {H : Type} {enc : TypeId × Value → H} {P : Program} {w : World} {base : Nat} {spare : Nat → Bool} {held : Bool}
theorem leaf_of_trod : ∀ (n fuel : Nat) (t : TypeId) (cs : List Value) (x : DataW H × List MemPlace) (j : Nat) (L : Option IntKind),
    DataW.trod enc P w base spare held fuel t cs = some x → leafAt P n t j = some L → ∃ v, cs[j]? = some v ∧ LeafOk L v := by
  intro n
  induction n with
  | zero => intro fuel t cs x j L _ hl; simp [leafAt] at hl
  | succ n ih =>
    intro fuel t cs x j L h hl
    unfold leafAt at hl
    split at hl
    · rename_i k hk
      obtain ⟨m, rfl, _, hw⟩ := DataW.trod_int hk h
      split at hl
      · rename_i hj
        subst hj
        cases hl
        exact ⟨_, rfl, m, rfl, hw⟩
      · cases hl
    · rename_i hk
      obtain ⟨b, rfl, _⟩ := DataW.trod_bool hk h
      split at hl
      · rename_i hj
        subst hj
        cases hl
        exact ⟨_, rfl, b, rfl⟩
      · cases hl
    · rename_i fs hk
      obtain ⟨xs, m, _, _, _, hlen, hf⟩ := DataW.trod_struct hk h
      obtain ⟨f, hfind, hrest⟩ := Option.bind_eq_some_iff.1 hl
      have hmem := List.mem_of_find?_eq_some hfind
      have hp := List.find?_some hfind
      simp only [decide_eq_true_eq] at hp
      obtain ⟨i, hi, hget⟩ := List.getElem_of_mem hmem
      have hif : fs[i]? = some f := by
        have : i < fs.size := by simpa using hi
        rw [Array.getElem?_eq_getElem this]
        simpa using hget
      have hx : xs[i]? = some (xs[i]'(by rw [hlen]; simpa using hi)) := List.getElem?_eq_getElem _
      have h1 := (hf i f hif).trans hx
      obtain ⟨v, hv, hok⟩ := ih _ _ _ _ _ _ h1 hrest
      refine ⟨v, ?_, hok⟩
      rw [List.getElem?_take, if_pos (by omega), List.getElem?_drop] at hv
      rw [← hv]
      congr 1
      omega
    · rename_i m e hk
      obtain ⟨xs, k, _, _, _, hlen, hf⟩ := DataW.trod_array hk h
      split at hl
      · cases hl
      · rename_i hne
        split at hl
        · rename_i hlt
          have hpos : 0 < P.cellsOf e := Nat.pos_of_ne_zero hne
          have hdm := Nat.div_add_mod j (P.cellsOf e)
          have hq : j / P.cellsOf e < m := (Nat.div_lt_iff_lt_mul hpos).2 hlt
          have hr := Nat.mod_lt j hpos
          have hx : xs[j / P.cellsOf e]? = some (xs[j / P.cellsOf e]'(by omega)) := List.getElem?_eq_getElem _
          have h1 := (hf _ hq).trans hx
          obtain ⟨v, hv, hok⟩ := ih _ _ _ _ _ _ h1 hl
          refine ⟨v, ?_, hok⟩
          rw [List.getElem?_take, if_pos hr, List.getElem?_drop] at hv
          rw [← hv]
          congr 1
          rw [Nat.mul_comm] at hdm
          omega
        · cases hl
    · cases hl
theorem agg_of_struct {r : Reach} {b0 : Nat} {t : TypeId} {fs : Array Field} {v : Value} (ht : P.underlying t = some (.struct fs)) (hv : Value.okWide P w r b0 t v) :
    ∃ l : List Value, v = .agg ⟨l⟩ ∧ l.length = P.cellsOf t := by
  obtain ⟨cs, rfl, hs⟩ := okWide_struct ht hv
  exact ⟨cs.toList, by simp, by simpa using hs⟩
end
theorem LeafOk.int_ {k : IntKind} {l : List Value} {j : Nat} (h : ∃ u, l[j]? = some u ∧ LeafOk (some k) u) : ∃ n, l[j]? = some (.int k n) ∧ (Lit.int k n).wf = true := by
  obtain ⟨u, hu, n, rfl, hw⟩ := h
  exact ⟨n, hu, hw⟩
end Go.Proofs.YtlbhffdpklbhfaaGreat
namespace Go.Proofs.YtlbhffdpklbhfaaGreat
open Go.ChangeShapes Go.WideShapes Go.ChangeAt Go.RowKit
section
variable {H : Type} {enc : TypeId × Value → H}
theorem below_trodAll {P : Program} (hl : laidOutB P = true) {W W' : World} (hb : Below W.heap.size W W') :
    ∀ (ts : List TypeId) (vs : List Value) (ds : List (DataW H)) (ps : List MemPlace),
      (ts.all fun t => P.readableRec t && decide (t < P.types.size)) = true →
      DataW.TrodAll enc P W 0 (fun _ => true) true ts vs ds ps →
      DataW.TrodAll enc P W' 0 (fun b => decide (b < W.heap.size)) true ts vs ds ps := by
  intro ts
  induction ts with
  | nil =>
    intro vs ds ps _ h
    cases vs with
    | nil =>
      cases ds with
      | nil => simpa [DataW.TrodAll] using h
      | cons d ds => simp [DataW.TrodAll] at h
    | cons v vs => simp [DataW.TrodAll] at h
  | cons t ts ih =>
    intro vs ds ps hr h
    simp only [List.all_cons, Bool.and_eq_true, decide_eq_true_eq] at hr
    obtain ⟨v, vs', d, ds', p, q, rfl, rfl, rfl, h1, h2⟩ := trodAll_cons h
    have hlt : ∀ x ∈ p, x.block < W.heap.size := by
      obtain ⟨m, hm⟩ := h1
      exact DataW.trod_lt m _ _ _ hm
    exact trodAll_cons_mk (Below.trod hl hr.1.1 hr.1.2 h1 hb hlt) (ih _ _ _ hr.2 h2)
theorem trodAll_length {P : Program} {w : World} {base : Nat} {spare : Nat → Bool} {held : Bool} : ∀ (ts : List TypeId) (vs : List Value) (ds : List (DataW H)) (ps : List MemPlace),
    DataW.TrodAll enc P w base spare held ts vs ds ps → ds.length = ts.length := by
  intro ts
  induction ts with
  | nil =>
    intro vs ds ps h
    cases vs with
    | nil =>
      cases ds with
      | nil => rfl
      | cons d ds => simp [DataW.TrodAll] at h
    | cons v vs => simp [DataW.TrodAll] at h
  | cons t ts ih =>
    intro vs ds ps h
    obtain ⟨v, vs', d, ds', p, q, rfl, rfl, rfl, _, h2⟩ := trodAll_cons h
    simp [ih _ _ _ h2]
theorem law_lifted {C : Checked} {os : Os} {f : FuncId} {fn : Func} {s : ChangeSpec} {conds : List PathCond} {b : TypeId}
    (own : ownKnob C.prog.godebug = none) (started : os.Started) (noInit : C.prog.inits.idxOf? f = none) (hfn : C.prog.funcs[f]? = some fn)
    (witness : ∃ (w : World) (tape : Tape) (i : Input), w.os = os ∧ (w.forCall tape i).Shaped C.prog ∧ i.vars = [] ∧ Input.okWide C.prog (w.forCall tape i) .any w.heap.size f i ∧
      s.pre6 enc C.prog fn conds false (w.forCall tape i).memory i.args ∧ ({} : Assume).holds C.prog (lone (Frame.enter C.prog f i.args .normal) [] (w.forCall tape i)))
    (hl : laidOutB C.prog = true) (hvars : s.vars = []) (hres : fn.resultTypes = #[b]) (hb : C.prog.underlying b = some .bool)
    (hread : (fn.params.toList.all fun t => C.prog.readableRec t && decide (t < C.prog.types.size)) = true)
    (hspec : ∀ ds : List (DataW H), ds.length = fn.params.size → s.fn H ds = { results := [.lit (.bool true)], args := ds, vars := [] })
    (walk : ∀ (W : World) (base : Nat) (args : Array Value) (ds : List (DataW H)) (p : List MemPlace),
      (∀ (j : Nat) t v, fn.params[j]? = some t → args[j]? = some v → Value.okWide C.prog W .any base t v) →
      DataW.TrodAll enc C.prog W 0 (fun _ => true) true fn.params.toList args.toList ds p →
      Calls C.prog f args W fun e W' => e = .returned (.bool true) ∧ Below W.heap.size W W') :
    ReturnsInHanded {} C os f .any (s.pre6 enc C.prog fn conds false) (s.post enc C.prog fn false true false false) := by
  refine returnsInHanded_of_change own started noInit hfn witness ?_
  intro W base args ds gs before hval hW _ _
  have hW' := hW
  obtain ⟨p, q, hA, hV, rfl, _, _⟩ := hW
  rw [hvars] at hV
  obtain ⟨rfl, rfl⟩ := trodVars_none hV
  refine (walk W base args ds p hval hA).mono fun e W' ⟨he, bel⟩ => ?_
  have hlen : ds.length = fn.params.size := by simpa using trodAll_length _ _ _ _ hA
  have hsp := hspec ds hlen
  refine ⟨_, he, ds, [], _, [], p, [], hW', ?_, ?_, ?_, bel.frame _, fun h => by cases h⟩
  · rw [List.append_nil, hsp, hres]
    exact trodAll_mk1 (shut_bool hb _)
  · rw [List.append_nil, hsp]
    exact below_trodAll hl bel _ _ _ _ hread hA
  · rw [List.append_nil, hsp, hvars]
    rfl
end
end Go.Proofs.YtlbhffdpklbhfaaGreat
