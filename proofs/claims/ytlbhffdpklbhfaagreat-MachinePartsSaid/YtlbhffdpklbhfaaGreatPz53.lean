/-
  Texts, one behind the other: MachPartsS.
  Conditions: those that each theorem states.
-/
import Derived.Deep.RegionHeld
import Derived.Deep.DeepCutAuto
import Derived.Test.YtlbhffdpklbhfaaGreatPz52
namespace Go.Proofs.YtlbhffdpklbhfaaGreat
open Go.RowKit
set_option maxRecDepth 100000
set_option linter.unusedVariables false
set_option linter.unusedSimpArgs false
set_option maxHeartbeats 8000000 in
theorem l11_Parts_some (w : World) (l : List Ins) (A : Option Addr) (c : Nat) (E : EV) (f1 f2 : Int) (h : InsS w A l) (hx : OkAll l) (hc : l.length ≤ c) (hcm : c ≤ maxLen) (hE : EnvS w E) (hok : E.raw) (S : MS) (ho : mLaw l E = some S) (hf1 : 0 ≤ f1 ∧ f1 ≤ 65535) (hf2 : 0 ≤ f2 ∧ f2 ≤ 65535) :
    Calls Tryz.prog 4 #[.slice A l.length c, envV E, .int .u16 f1, .int .u16 f2] w (Gives (.bool true) w) := by
  have SH := Lib.hid fun u => l11_shown u
  have FW := Lib.hid fun u => l11_few u A l.length c hc hcm
  have EN := Lib.hid fun u (b : Below w.heap.size w u) => l11_env u E (hE.after b) hok
  have NW := Lib.hid fun u L' ia ic (b : Below w.heap.size w u) hs hk hi => m11_NewLaw u l A c E L' ia ic (h.after b) hx hc hcm hs hk hi
  rw [ho] at NW
  obtain ⟨hcan, hst, -, hov, -, -⟩ := law_can hok ho
  have hwhy : S.why ≠ 111 := by
    unfold mLaw at ho
    rw [new_why ho]
    decide
  obtain ⟨n, hn⟩ : ∃ n : Int, n = f1 % 1001 := ⟨_, rfl⟩
  have ht1 : f1.tmod 1001 = n := by rw [Int.tmod_eq_emod_of_nonneg hf1.1, hn]
  have hn0 : 0 ≤ n ∧ n ≤ 1000 := by omega
  obtain ⟨k, hk⟩ : ∃ k : Int, k = f2 % (n + 1) := ⟨_, rfl⟩
  have ht2 : f2.tmod (n + 1) = k := by rw [Int.tmod_eq_emod_of_nonneg hf2.1, hk]
  have hk0 : 0 ≤ k ∧ k ≤ n := by
    have q1 := Int.emod_nonneg f2 (b := n + 1) (by omega)
    have q2 := Int.emod_lt_of_pos f2 (b := n + 1) (by omega)
    omega
  clear hn hk
  have HR1 : pRun n (pRun k S) = pRun n S := run_run hk0.2 S
  have HR2 : pRun n (pRun n S) = pRun n S := run_stop (run_end n S)
  have hsk : (pRun k S).steps ≤ 50000 := by rcases run_steps k S with c | c <;> omega
  have hsn : ((pRun n S).steps : Int) ≤ n := by rcases run_steps n S with c | c <;> omega
  have hcd := code_over (run_why n S hwhy)
  have C1 := Lib.hid fun u F g (h : (sysX g S).R u F) => m11_Run u g S F k h hcan (by omega) (by omega)
  have C2 := Lib.hid fun u F g (h : (sysX g (pRun k S)).R u F) => m11_Run u g (pRun k S) F n h (run_can k S hcan) (by omega) hsk
  have C3 := Lib.hid fun u F g (h : (sysX g S).R u F) => m11_Run u g S F n h hcan (by omega) (by omega)
  have C4 := Lib.hid fun u F g (h : (sysX g (pRun n S)).R u F) => m11_Run u g (pRun n S) F n h (run_can n S hcan) (by omega) (by omega)
  rw [HR1] at C2
  rw [HR2] at C4
  clear HR1 HR2 hcan hst hov hwhy hsk
  generalize pRun n S = R at *
  generalize pRun k S = RK at *
  have OV := Lib.hid fun u F g (h : (sysX g R).R u F) => m11_Over u g R F h
  have ST := Lib.hid fun u F g (h : (sysX g R).R u F) (ho : R.over = true) => (show Calls Tryz.prog 12 #[.pointer (some ⟨g, 0, none⟩)] u (OpS (sysX g R) F (.int .i64 114) u) from by
    have q := m11_Step u g R F h (fun h2 => by rw [ho] at h2; cases h2)
    rw [step_over ho] at q
    exact q)
  have SM := Lib.hid fun u F g B1 B2 va vm va' vm' ca cm ca' cm' L L' Ls Ls' (h : (sysX g R).R u F) (h1 : EndR B1 R va ca vm cm L Ls u) (h2 : EndR B2 R va' ca' vm' cm' L' Ls' u) => r11_Same u R B1 B2 va vm va' vm' ca cm ca' cm' L L' Ls Ls' h1 h2 (sysX_items h) (sysX_small h h1.c)
  unfold RunQ endV at C1 C2 C3 C4
  unfold endV at SM
  unfold envV at EN
  unfold envV
  have Q := Lib.hid (EQ.new w (.slice E.ca E.ctx.length E.cc) (.slice E.da E.D.length E.dc) (.slice E.ia E.L.length E.ic) (.slice E.na E.dr.length E.nc))
  clear h hx hE hok ho
  generalize l.length = nl at *
  unfold maxLen at hcm
  go_enter Tryz.func4, Tryz.ntmps4
  go_wp2_with fail
  refine (SH.out _).mono ?_
  rintro e w2 ⟨rfl, b2⟩
  replace Q := Lib.hid (Q.out.after b2)
  clear b2
  have BW := Lib.hid (Q.out.bl)
  go_wp2_with fail
  have HB : Below w2.heap.size w2 w2.drew := Below.drew (Below.refl _ _)
  have KK := Lib.hid fun u (b : Below w2.heap.size w2 u) => (Q.out.after b).cells
  go_region_held3 (fun w' => w'.cell? ⟨w.heap.size, 0, none⟩ = some (.slice E.ca E.ctx.length E.cc) ∧ w'.cell? ⟨w.heap.size, 1, none⟩ = some (.slice E.da E.D.length E.dc) ∧ w'.cell? ⟨w.heap.size, 2, none⟩ = some (.slice E.ia E.L.length E.ic) ∧ w'.cell? ⟨w.heap.size, 3, none⟩ = some (.slice E.na E.dr.length E.nc))
    (first | with_reducible exact KK.out _ HB)
    (first
      | (go_at_call 9; refine (FW.out _).mono ?_; rintro e w3 ⟨rfl, b3⟩; replace HB := below_next' HB b3; clear b3)
      | (go_at_call 10; refine (EN.out _ (below_next' Q.out.bl HB)).mono ?_; rintro e w4 ⟨ia1, ic1, L1, rfl, hs, hk, hi, b3⟩; replace HB := below_next' HB b3; have HS := Lib.hid hs; have HKI := Lib.hid (And.intro hk hi); clear b3 hs hk hi)
      | (go_at_call 8; refine (NW.out _ L1 ia1 ic1 (below_next' Q.out.bl HB) HS.out HKI.out.1 HKI.out.2).mono ?_; rintro e w5 ⟨g1, F1, rfl, r1, b5, f1'⟩; have X1 := Lib.hid r1; have FL1 : Hid (∀ x, F1 x → w2.heap.size ≤ x) := Lib.hid (fun x hx => Nat.le_trans HB.size (f1' x hx)); replace HB := below_next' HB b5; clear b5 r1 f1'))
  rename_i hh
  clear hh
  replace Q := Lib.hid (Q.out.after HB)
  clear HB KK HS HKI
  generalize cutE E L1 ia1 ic1 = cv1 at *
  have FL1' : Hid (∀ x, F1 x → w.heap.size ≤ x) := Lib.hid fun x hx => Nat.le_trans BW.out.size (FL1.out x hx)
  clear FL1 BW
  have BW := Lib.hid (Q.out.bl)
  generalize hw1 : w5 = w2 at *
  clear hw1
  go_wp2_with fail
  have HB : Below w2.heap.size w2 w2.drew := Below.drew (Below.refl _ _)
  have KK := Lib.hid fun u (b : Below w2.heap.size w2 u) => (Q.out.after b).cells
  go_region_held3 (fun w' => w'.cell? ⟨w.heap.size, 0, none⟩ = some (.slice E.ca E.ctx.length E.cc) ∧ w'.cell? ⟨w.heap.size, 1, none⟩ = some (.slice E.da E.D.length E.dc) ∧ w'.cell? ⟨w.heap.size, 2, none⟩ = some (.slice E.ia E.L.length E.ic) ∧ w'.cell? ⟨w.heap.size, 3, none⟩ = some (.slice E.na E.dr.length E.nc))
    (first | with_reducible exact KK.out _ HB)
    (first
      | (go_at_call 9; refine (FW.out _).mono ?_; rintro e w3 ⟨rfl, b3⟩; replace HB := below_next' HB b3; clear b3)
      | (go_at_call 10; refine (EN.out _ (below_next' Q.out.bl HB)).mono ?_; rintro e w4 ⟨ia1, ic1, L1, rfl, hs, hk, hi, b3⟩; replace HB := below_next' HB b3; have HS := Lib.hid hs; have HKI := Lib.hid (And.intro hk hi); clear b3 hs hk hi)
      | (go_at_call 8; refine (NW.out _ L1 ia1 ic1 (below_next' Q.out.bl HB) HS.out HKI.out.1 HKI.out.2).mono ?_; rintro e w5 ⟨g2, F2, rfl, r2, b5, f2'⟩; have X2 := Lib.hid r2; have FL2 : Hid (∀ x, F2 x → w2.heap.size ≤ x) := Lib.hid (fun x hx => Nat.le_trans HB.size (f2' x hx)); replace HB := below_next' HB b5; clear b5 r2 f2'))
  rename_i hh
  clear hh
  have FL2' : Hid (∀ x, F2 x → w.heap.size ≤ x ∧ ¬ F1 x) := Lib.hid fun x hx => ⟨Nat.le_trans BW.out.size (FL2.out x hx), fun h1 => by
    have q1 := (sysX g1 S).lt X1.out h1
    have q2 := FL2.out x hx
    omega⟩
  replace X1 := Lib.hid ((sysX g1 S).after X1.out HB)
  have B5 := Lib.hid ((Q.out.after HB).bl)
  clear Q HB KK HS HKI FL2 BW EN NW FW SH
  generalize cutE E L1 ia1 ic1 = cv2 at *
  go_wp2_with fail
  refine (C1.out _ _ _ X1.out).mono ?_
  rintro e w6 ⟨F1a, N1, va1, ca1, vm1, cm1, L1a, Ls1, rfl, r3, t3, f3, -, -⟩
  have X1a := Lib.hid r3
  have X2a := Lib.hid (two_keep X2.out t3 (fun x hx => (FL2'.out x hx).2))
  have B6 := Lib.hid (Turn.on B5.out t3 B5.out.size FL1'.out)
  have FA : Hid ((∀ x, F1a x → w.heap.size ≤ x) ∧ (∀ x, F2 x → ¬ F1a x) ∧ ∀ x, F2 x → x < w6.heap.size) := Lib.hid ⟨fun x hx => by
    rcases (f3 x hx).1 with c | c
    · exact FL1'.out x c
    · exact Nat.le_trans B5.out.size c, fun x hx ha => by
    rcases (f3 x ha).1 with c | c
    · exact (FL2'.out x hx).2 c
    · have := (sysX g2 S).lt X2.out hx; omega, fun x hx => (sysX g2 S).lt X2a.out hx⟩
  clear r3 t3 f3 C1 X1 X2 B5 FL1'
  go_wp2_with fail
  refine (C2.out _ _ _ X1a.out).mono ?_
  rintro e w7 ⟨F1b, N2, va2, ca2, vm2, cm2, L2, Ls2, rfl, r4, t4, f4, E4, b4⟩
  have X2b := Lib.hid (two_keep X2a.out t4 FA.out.2.1)
  have X1b := Lib.hid r4
  have B7 := Lib.hid (Turn.on B6.out t4 B6.out.size FA.out.1)
  have EA := Lib.hid E4
  have FB : Hid ((∀ x, F1b x → w.heap.size ≤ x) ∧ (∀ x, F1b x → ¬ F2 x) ∧ (∀ x, F1b x → x < w7.heap.size) ∧ (∀ x, F2 x → x < N2) ∧ ∀ x, F2 x → w.heap.size ≤ x) := Lib.hid ⟨fun x hx => by
    rcases (f4 x hx).1 with c | c
    · exact FA.out.1 x c
    · exact Nat.le_trans B6.out.size c, fun x hx h2 => by
    rcases (f4 x hx).1 with c | c
    · exact FA.out.2.1 x h2 c
    · have := FA.out.2.2 x h2; omega, fun x hx => (sysX g1 R).lt r4 hx, fun x hx => Nat.lt_of_lt_of_le (FA.out.2.2 x hx) b4, fun x hx => (FL2'.out x hx).1⟩
  clear r4 t4 f4 E4 b4 C2 X1a X2a B6 FA FL2'
  go_wp2_with fail
  refine (C3.out _ _ _ X2b.out).mono ?_
  rintro e w8 ⟨F2b, N3, va3, ca3, vm3, cm3, L3, Ls3, rfl, r5, t5, f5, E5, b5⟩
  have X1c := Lib.hid (two_keep X1b.out t5 FB.out.2.1)
  have B8 := Lib.hid (Turn.on B7.out t5 B7.out.size FB.out.2.2.2.2)
  have EA8 := Lib.hid (EA.out.turn t5 FB.out.2.2.2.1)
  have EB8 := Lib.hid E5
  have FC : Hid ((∀ x, F1b x → w.heap.size ≤ x) ∧ (∀ x, F1b x → x < N3) ∧ ∀ x, F1b x → x < w8.heap.size) := Lib.hid ⟨FB.out.1, fun x hx => Nat.lt_of_lt_of_le (FB.out.2.2.1 x hx) b5, fun x hx => (sysX g1 R).lt X1c.out hx⟩
  clear r5 t5 f5 E5 b5 C3 X1b X2b B7 FB EA
  have D9 := below_alloc (below_alloc (Below.refl w8.heap.size w8) (.cells (endC R va2 ca2 vm2 cm2) 54)) (.cells (endC R va3 ca3 vm3 cm3) 54)
  have BX := Lib.hid ((Blk.new w8 (endC R va2 ca2 vm2 cm2) 54 rfl).after (below_alloc (Below.refl _ _) (.cells (endC R va3 ca3 vm3 cm3) 54)))
  have BY : Hid (Blk (w8.heap.size + 1) (endC R va3 ca3 vm3 cm3) 54 ((w8.alloc (.cells (endC R va2 ca2 vm2 cm2) 54)).alloc (.cells (endC R va3 ca3 vm3 cm3) 54))) := Lib.hid (Blk.new _ _ _ (by simp))
  have X1d := Lib.hid ((sysX g1 R).after X1c.out D9)
  have EA9 := Lib.hid (EA8.out.stay D9)
  have EB9 := Lib.hid (EB8.out.stay D9)
  have B9 := Lib.hid (below_next' B8.out D9)
  have FD : Hid ((∀ x, F1b x → w.heap.size ≤ x) ∧ (∀ x, F1b x → x < N3) ∧ ¬ F1b w8.heap.size ∧ ¬ F1b (w8.heap.size + 1)) := Lib.hid ⟨FC.out.1, FC.out.2.1, fun h => by have := FC.out.2.2 _ h; omega, fun h => by have := FC.out.2.2 _ h; omega⟩
  clear D9 X1c EA8 EB8 B8 FC
  go_wp2_with fail
  generalize ((w8.alloc (.cells (endC R va2 ca2 vm2 cm2) 54)).alloc (.cells (endC R va3 ca3 vm3 cm3) 54)) = w9 at *
  generalize w8.heap.size = gx at *
  refine (SM.out _ _ _ _ _ va2 vm2 va3 vm3 ca2 cm2 ca3 cm3 L2 L3 Ls2 Ls3 X1d.out EA9.out EB9.out).mono ?_
  rintro e w10 ⟨rfl, b10⟩
  have QB : Hid (Turn F1b w9 w10) := Lib.hid (Turn.of_below b10)
  have X1e := Lib.hid ((sysX g1 R).after X1d.out b10)
  have c3 : w10.cell? ⟨gx, 3, none⟩ = some (.int .i64 R.steps) := Blk.cell (BX.out.after b10) 3
  clear X1d EA9 b10
  go_wp2_with fail
  clear c3
  refine (OV.out _ _ _ X1e.out).mono ?_
  rintro e w11 ⟨rfl, b11⟩
  replace QB := Lib.hid (QB.out.next b11)
  have X1f := Lib.hid ((sysX g1 R).after X1e.out b11)
  clear X1e b11
  have SD : Hid (∀ u, Turn F1b w9 u → (u.cell? ⟨gx + 1, 0, none⟩ = some (.int .i64 (mCode R)) ∧ u.cell? ⟨gx + 1, 1, none⟩ = some (.int .i64 R.at_) ∧ u.cell? ⟨gx + 1, 2, none⟩ = some (.int .u64 (mR0 R)) ∧ u.cell? ⟨gx + 1, 3, none⟩ = some (.int .i64 R.steps) ∧ u.cell? ⟨gx + 1, 4, none⟩ = some (.slice va3 R.calls.length ca3) ∧ u.cell? ⟨gx + 1, 5, none⟩ = some (.slice vm3 R.D.length cm3)) ∧ u.cell? ⟨gx, 0, none⟩ = some (.int .i64 (mCode R))) := Lib.hid fun u t => ⟨⟨Blk.cell (t.blk BY.out FD.out.2.2.2) 0, Blk.cell (t.blk BY.out FD.out.2.2.2) 1, Blk.cell (t.blk BY.out FD.out.2.2.2) 2, Blk.cell (t.blk BY.out FD.out.2.2.2) 3, Blk.cell (t.blk BY.out FD.out.2.2.2) 4, Blk.cell (t.blk BY.out FD.out.2.2.2) 5⟩, Blk.cell (t.blk BX.out FD.out.2.2.1) 0⟩
  have EBU : Hid (∀ u, Turn F1b w9 u → EndR N3 R va3 ca3 vm3 cm3 L3 Ls3 u) := Lib.hid fun u t => EB9.out.turn t FD.out.2.1
  have BW : Hid (∀ u, Turn F1b w9 u → Below w.heap.size w u) := Lib.hid fun u t => Turn.on B9.out t B9.out.size FD.out.1
  clear BX BY EB9 B9
  cases hov : R.over
  · have hcd2 : (mCode R == 111) = true := by rw [hcd, hov]; rfl
    clear hcd ST
    have FE : Hid (∀ x, F1b x → F1b x ∨ w9.heap.size ≤ x) := Lib.hid fun x h => .inl h
    go_upto_region 13 with fail
    have XD := Lib.hid ((sysX g1 R).after X1f.out (Below.drew (Below.refl _ _)))
    replace QB := Lib.hid (QB.out.next (Below.drew (Below.refl _ _)))
    refine wp_region_held_drew (S := fun u => (u.cell? ⟨gx + 1, 0, none⟩ = some (.int .i64 (mCode R)) ∧ u.cell? ⟨gx + 1, 1, none⟩ = some (.int .i64 R.at_) ∧ u.cell? ⟨gx + 1, 2, none⟩ = some (.int .u64 (mR0 R)) ∧ u.cell? ⟨gx + 1, 3, none⟩ = some (.int .i64 R.steps) ∧ u.cell? ⟨gx + 1, 4, none⟩ = some (.slice va3 R.calls.length ca3) ∧ u.cell? ⟨gx + 1, 5, none⟩ = some (.slice vm3 R.D.length cm3)) ∧ u.cell? ⟨gx, 0, none⟩ = some (.int .i64 (mCode R))) (by kernel_rfl) (SD.out _ QB.out) (fun hHeld => ?_)
    generalize w11.drew = wd at *
    refine wpAnyH_take (i := 0) (oi := { dst := some 83, op := Op.move (Operand.tmp 9), type := _, pos := _, after := _, guard := none }) (v := ?_) rfl (by kernel_rfl) (by kernel_rfl) (by kernel_rfl) (fun _ _ _ h => h) (Or.inl ⟨by rfl, ?_⟩) (by first | exact hHeld | assumption) ?_
    rotate_left 1
    · intro w hSw; (try dsimp only at hSw); go_simp; try (with_reducible rfl)
    try simp only [Act.put, List.setIfInBounds_toArray, List.set_cons_zero, List.set_cons_succ]
    refine wpAnyH_take (i := 1) (oi := { dst := some 84, op := Op.move (Operand.tmp 83), type := _, pos := _, after := _, guard := none }) (v := ?_) rfl (by kernel_rfl) (by kernel_rfl) (by kernel_rfl) (fun _ _ _ h => h) (Or.inl ⟨by rfl, ?_⟩) (by first | exact hHeld | assumption) ?_
    rotate_left 1
    · intro w hSw; (try dsimp only at hSw); go_simp; try (with_reducible rfl)
    try simp only [Act.put, List.setIfInBounds_toArray, List.set_cons_zero, List.set_cons_succ]
    refine wpAnyH_take (i := 2) (oi := { dst := some 85, op := Op.move (Operand.tmp 10), type := _, pos := _, after := _, guard := some (1, true) }) (v := ?_) rfl (by kernel_rfl) (by kernel_rfl) (by kernel_rfl) (fun _ _ _ h => h) (Or.inl ⟨by rfl, ?_⟩) (by first | exact hHeld | assumption) ?_
    rotate_left 1
    · intro w hSw; (try dsimp only at hSw); go_simp; try (with_reducible rfl)
    try simp only [Act.put, List.setIfInBounds_toArray, List.set_cons_zero, List.set_cons_succ]
    refine wpAnyH_take (i := 3) (oi := { dst := some 86, op := Op.move (Operand.tmp 14), type := _, pos := _, after := _, guard := some (1, true) }) (v := ?_) rfl (by kernel_rfl) (by kernel_rfl) (by kernel_rfl) (fun _ _ _ h => h) (Or.inl ⟨by rfl, ?_⟩) (by first | exact hHeld | assumption) ?_
    rotate_left 1
    · intro w hSw; (try dsimp only at hSw); go_simp; try (with_reducible rfl)
    try simp only [Act.put, List.setIfInBounds_toArray, List.set_cons_zero, List.set_cons_succ]
    refine wpAnyH_take (i := 5) (oi := { dst := some 88, op := Op.load 54 (Operand.tmp 16), type := _, pos := _, after := _, guard := some (1, true) }) (v := ?_) rfl (by kernel_rfl) (by kernel_rfl) (by kernel_rfl) (fun _ _ _ h => h) (Or.inl ⟨by rfl, ?_⟩) (by first | exact hHeld | assumption) ?_
    rotate_left 1
    · intro w hSw; (try dsimp only at hSw); go_simp; try (with_reducible rfl)
    try simp only [Act.put, List.setIfInBounds_toArray, List.set_cons_zero, List.set_cons_succ]
    refine wpAnyH_ready (rs := [4]) (by kernel_rfl) (by simp) ?_
    refine AllReadyH.cons (o := { dst := some 87, op := Op.call { callee := Callee.value (Operand.func 17), args := #[Operand.tmp 85, Operand.tmp 86], argTypes := #[31, 3] }, type := _, pos := _, after := _, guard := some (1, true) }) rfl (fun K hK => ?_) AllReadyH.nil
    go_simp
    refine (C4.out _ _ _ XD.out).mono ?_
    rintro e u1 ⟨F1e, N4, va4, ca4, vm4, cm4, L4, Ls4, rfl, r7, t7, f7, E7, b7⟩
    replace QB := Lib.hid (QB.out.trans t7 FE.out)
    have X7 := Lib.hid r7
    have EC := Lib.hid E7
    have EB7 := Lib.hid (EBU.out _ QB.out)
    clear r7 t7 f7 E7 b7 XD FE C4 EBU
    go_wp2_with fail
    refine hK.out _ _ (SD.out _ QB.out) (fun hHeld => ?_)
    clear hK K
    try simp only [Act.put, List.setIfInBounds_toArray, List.set_cons_zero, List.set_cons_succ]
    refine wpAnyH_ready (rs := [6]) (by kernel_rfl) (by simp) ?_
    refine AllReadyH.cons (o := { dst := some 89, op := Op.call { callee := Callee.value (Operand.func 18), args := #[Operand.tmp 87, Operand.tmp 88], argTypes := #[54, 54] }, type := _, pos := _, after := _, guard := some (1, true) }) rfl (fun K hK => ?_) AllReadyH.nil
    go_simp
    refine (SM.out _ _ _ _ _ va4 vm4 va3 vm3 ca4 cm4 ca3 cm3 L4 L3 Ls4 Ls3 X7.out EC.out EB7.out).mono ?_; rintro e u2 ⟨rfl, b⟩
    have X8 := Lib.hid ((sysX g1 R).after X7.out b)
    replace QB := Lib.hid (QB.out.next b)
    clear b X7 EC EB7 SM
    go_wp2_with fail
    refine hK.out _ _ (SD.out _ QB.out) (fun hHeld => ?_)
    clear hK K
    try simp only [Act.put, List.setIfInBounds_toArray, List.set_cons_zero, List.set_cons_succ]
    refine wpAnyH_take (i := 7) (oi := { dst := some 90, op := Op.pick (Operand.tmp 84) (Operand.tmp 89) (Operand.const (Value.bool false)), type := _, pos := _, after := _, guard := none }) (v := ?_) rfl (by kernel_rfl) (by kernel_rfl) (by kernel_rfl) (fun _ _ _ h => h) (Or.inl ⟨by rfl, ?_⟩) (by first | exact hHeld | assumption) ?_
    rotate_left 1
    · intro w hSw; (try dsimp only at hSw); go_simp; try (with_reducible rfl)
    try simp only [Act.put, List.setIfInBounds_toArray, List.set_cons_zero, List.set_cons_succ]
    refine wpAnyH_take (i := 8) (oi := { dst := some 91, op := Op.move (Operand.tmp 90), type := _, pos := _, after := _, guard := none }) (v := ?_) rfl (by kernel_rfl) (by kernel_rfl) (by kernel_rfl) (fun _ _ _ h => h) (Or.inl ⟨by rfl, ?_⟩) (by first | exact hHeld | assumption) ?_
    rotate_left 1
    · intro w hSw; (try dsimp only at hSw); go_simp; try (with_reducible rfl)
    try simp only [Act.put, List.setIfInBounds_toArray, List.set_cons_zero, List.set_cons_succ]
    refine wpAnyH_take (i := 9) (oi := { dst := some 92, op := Op.fieldAddr 54 (Operand.tmp 15) 0, type := _, pos := _, after := _, guard := some (8, true) }) (v := ?_) rfl (by kernel_rfl) (by kernel_rfl) (by kernel_rfl) (fun _ _ _ h => h) (Or.inl ⟨by rfl, ?_⟩) (by first | exact hHeld | assumption) ?_
    rotate_left 1
    · intro w hSw; (try dsimp only at hSw); go_simp; try (with_reducible rfl)
    try simp only [Act.put, List.setIfInBounds_toArray, List.set_cons_zero, List.set_cons_succ]
    refine wpAnyH_take (i := 10) (oi := { dst := some 93, op := Op.load 32 (Operand.tmp 92), type := _, pos := _, after := _, guard := some (8, true) }) (v := ?_) rfl (by kernel_rfl) (by kernel_rfl) (by kernel_rfl) (fun _ _ _ h => h) (Or.inl ⟨by rfl, ?_⟩) (by first | exact hHeld | assumption) ?_
    rotate_left 1
    · intro w hSw; (try dsimp only at hSw); go_simp; try (with_reducible rfl)
    try simp only [Act.put, List.setIfInBounds_toArray, List.set_cons_zero, List.set_cons_succ]
    refine wpAnyH_take (i := 11) (oi := { dst := some 94, op := Op.binOp BinOp.eql 32 (Operand.tmp 93) (Operand.const (Value.int IntKind.i64 111)) 32, type := _, pos := _, after := _, guard := some (8, true) }) (v := ?_) rfl (by kernel_rfl) (by kernel_rfl) (by kernel_rfl) (fun _ _ _ h => h) (Or.inl ⟨by rfl, ?_⟩) (by first | exact hHeld | assumption) ?_
    rotate_left 1
    · intro w hSw; (try dsimp only at hSw); go_simp; try (with_reducible rfl)
    try simp only [Act.put, List.setIfInBounds_toArray, List.set_cons_zero, List.set_cons_succ]
    refine wpAnyH_take (i := 12) (oi := { dst := some 95, op := Op.move (Operand.tmp 10), type := _, pos := _, after := _, guard := some (8, true) }) (v := ?_) rfl (by kernel_rfl) (by kernel_rfl) (by kernel_rfl) (fun _ _ _ h => h) (Or.inl ⟨by rfl, ?_⟩) (by first | exact hHeld | assumption) ?_
    rotate_left 1
    · intro w hSw; (try dsimp only at hSw); go_simp; try (with_reducible rfl)
    try simp only [Act.put, List.setIfInBounds_toArray, List.set_cons_zero, List.set_cons_succ]
    refine wpAnyH_ready (rs := [13]) (by kernel_rfl) (by simp) ?_
    refine AllReadyH.cons (o := { dst := some 96, op := Op.call { callee := Callee.value (Operand.func 15), args := #[Operand.tmp 95], argTypes := #[31] }, type := _, pos := _, after := _, guard := some (8, true) }) rfl (fun K hK => ?_) AllReadyH.nil
    go_simp
    refine (OV.out _ _ _ X8.out).mono ?_; rintro e u3 ⟨rfl, b⟩
    replace QB := Lib.hid (QB.out.next b)
    clear b X8
    go_wp2_with fail
    refine hK.out _ _ (SD.out _ QB.out) (fun hHeld => ?_)
    clear hK K
    try simp only [Act.put, List.setIfInBounds_toArray, List.set_cons_zero, List.set_cons_succ]
    refine wpAnyH_take (i := 14) (oi := { dst := some 97, op := Op.unOp UnOp.not 4 (Operand.tmp 96), type := _, pos := _, after := _, guard := some (8, true) }) (v := ?_) rfl (by kernel_rfl) (by kernel_rfl) (by kernel_rfl) (fun _ _ _ h => h) (Or.inl ⟨by rfl, ?_⟩) (by first | exact hHeld | assumption) ?_
    rotate_left 1
    · intro w hSw; (try dsimp only at hSw); go_simp; try (with_reducible rfl)
    try simp only [Act.put, List.setIfInBounds_toArray, List.set_cons_zero, List.set_cons_succ]
    refine wpAnyH_take (i := 15) (oi := { dst := some 98, op := Op.binOp BinOp.eql 4 (Operand.tmp 94) (Operand.tmp 97) 4, type := _, pos := _, after := _, guard := some (8, true) }) (v := ?_) rfl (by kernel_rfl) (by kernel_rfl) (by kernel_rfl) (fun _ _ _ h => h) (Or.inl ⟨by rfl, ?_⟩) (by first | exact hHeld | assumption) ?_
    rotate_left 1
    · intro w hSw; (try dsimp only at hSw); go_simp; try (with_reducible rfl)
    try simp only [Act.put, List.setIfInBounds_toArray, List.set_cons_zero, List.set_cons_succ]
    refine wpAnyH_take (i := 16) (oi := { dst := some 99, op := Op.pick (Operand.tmp 91) (Operand.tmp 98) (Operand.const (Value.bool false)), type := _, pos := _, after := _, guard := none }) (v := ?_) rfl (by kernel_rfl) (by kernel_rfl) (by kernel_rfl) (fun _ _ _ h => h) (Or.inl ⟨by rfl, ?_⟩) (by first | exact hHeld | assumption) ?_
    rotate_left 1
    · intro w hSw; (try dsimp only at hSw); go_simp; try (with_reducible rfl)
    try simp only [Act.put, List.setIfInBounds_toArray, List.set_cons_zero, List.set_cons_succ]
    refine wpAnyH_take (i := 17) (oi := { dst := some 8, op := Op.assign (Operand.tmp 99), type := _, pos := _, after := _, guard := none }) (v := ?_) rfl (by kernel_rfl) (by kernel_rfl) (by kernel_rfl) (fun _ _ _ h => h) (Or.inl ⟨by rfl, ?_⟩) (by first | exact hHeld | assumption) ?_
    rotate_left 1
    · intro w hSw; (try dsimp only at hSw); go_simp; try (with_reducible rfl)
    try simp only [Act.put, List.setIfInBounds_toArray, List.set_cons_zero, List.set_cons_succ]
    refine wpAnyH_done (by kernel_rfl) ?_ _
    go_wp2_with fail
    go_ret
    exact ⟨rfl, BW.out _ QB.out⟩
  · have hcd2 : (mCode R == 111) = false := by rw [hcd, hov]; rfl
    clear hcd
    have GS : Hid (w9.heap.size ≤ w11.heap.size) := Lib.hid QB.out.size
    go_wp2_with fail
    refine (ST.out _ _ _ X1f.out hov).mono ?_
    rintro e w12 ⟨rfl, F1c, r6, t6, f6⟩
    replace QB := Lib.hid (QB.out.trans t6 (fun x h => .inl h))
    have FE : Hid (∀ x, F1c x → F1b x ∨ w9.heap.size ≤ x) := Lib.hid fun x h => by
      rcases f6 x h with c | c
      · exact .inl c
      · exact .inr (Nat.le_trans GS.out c)
    replace X1f := Lib.hid r6
    clear r6 t6 f6 ST GS
    go_upto_region 13 with fail
    have XD := Lib.hid ((sysX g1 R).after X1f.out (Below.drew (Below.refl _ _)))
    replace QB := Lib.hid (QB.out.next (Below.drew (Below.refl _ _)))
    refine wp_region_held_drew (S := fun u => (u.cell? ⟨gx + 1, 0, none⟩ = some (.int .i64 (mCode R)) ∧ u.cell? ⟨gx + 1, 1, none⟩ = some (.int .i64 R.at_) ∧ u.cell? ⟨gx + 1, 2, none⟩ = some (.int .u64 (mR0 R)) ∧ u.cell? ⟨gx + 1, 3, none⟩ = some (.int .i64 R.steps) ∧ u.cell? ⟨gx + 1, 4, none⟩ = some (.slice va3 R.calls.length ca3) ∧ u.cell? ⟨gx + 1, 5, none⟩ = some (.slice vm3 R.D.length cm3)) ∧ u.cell? ⟨gx, 0, none⟩ = some (.int .i64 (mCode R))) (by kernel_rfl) (SD.out _ QB.out) (fun hHeld => ?_)
    generalize w12.drew = wd at *
    refine wpAnyH_take (i := 0) (oi := { dst := some 83, op := Op.move (Operand.tmp 9), type := _, pos := _, after := _, guard := none }) (v := ?_) rfl (by kernel_rfl) (by kernel_rfl) (by kernel_rfl) (fun _ _ _ h => h) (Or.inl ⟨by rfl, ?_⟩) (by first | exact hHeld | assumption) ?_
    rotate_left 1
    · intro w hSw; (try dsimp only at hSw); go_simp; try (with_reducible rfl)
    try simp only [Act.put, List.setIfInBounds_toArray, List.set_cons_zero, List.set_cons_succ]
    refine wpAnyH_take (i := 1) (oi := { dst := some 84, op := Op.move (Operand.tmp 83), type := _, pos := _, after := _, guard := none }) (v := ?_) rfl (by kernel_rfl) (by kernel_rfl) (by kernel_rfl) (fun _ _ _ h => h) (Or.inl ⟨by rfl, ?_⟩) (by first | exact hHeld | assumption) ?_
    rotate_left 1
    · intro w hSw; (try dsimp only at hSw); go_simp; try (with_reducible rfl)
    try simp only [Act.put, List.setIfInBounds_toArray, List.set_cons_zero, List.set_cons_succ]
    refine wpAnyH_take (i := 2) (oi := { dst := some 85, op := Op.move (Operand.tmp 10), type := _, pos := _, after := _, guard := some (1, true) }) (v := ?_) rfl (by kernel_rfl) (by kernel_rfl) (by kernel_rfl) (fun _ _ _ h => h) (Or.inl ⟨by rfl, ?_⟩) (by first | exact hHeld | assumption) ?_
    rotate_left 1
    · intro w hSw; (try dsimp only at hSw); go_simp; try (with_reducible rfl)
    try simp only [Act.put, List.setIfInBounds_toArray, List.set_cons_zero, List.set_cons_succ]
    refine wpAnyH_take (i := 3) (oi := { dst := some 86, op := Op.move (Operand.tmp 14), type := _, pos := _, after := _, guard := some (1, true) }) (v := ?_) rfl (by kernel_rfl) (by kernel_rfl) (by kernel_rfl) (fun _ _ _ h => h) (Or.inl ⟨by rfl, ?_⟩) (by first | exact hHeld | assumption) ?_
    rotate_left 1
    · intro w hSw; (try dsimp only at hSw); go_simp; try (with_reducible rfl)
    try simp only [Act.put, List.setIfInBounds_toArray, List.set_cons_zero, List.set_cons_succ]
    refine wpAnyH_take (i := 5) (oi := { dst := some 88, op := Op.load 54 (Operand.tmp 16), type := _, pos := _, after := _, guard := some (1, true) }) (v := ?_) rfl (by kernel_rfl) (by kernel_rfl) (by kernel_rfl) (fun _ _ _ h => h) (Or.inl ⟨by rfl, ?_⟩) (by first | exact hHeld | assumption) ?_
    rotate_left 1
    · intro w hSw; (try dsimp only at hSw); go_simp; try (with_reducible rfl)
    try simp only [Act.put, List.setIfInBounds_toArray, List.set_cons_zero, List.set_cons_succ]
    refine wpAnyH_ready (rs := [4]) (by kernel_rfl) (by simp) ?_
    refine AllReadyH.cons (o := { dst := some 87, op := Op.call { callee := Callee.value (Operand.func 17), args := #[Operand.tmp 85, Operand.tmp 86], argTypes := #[31, 3] }, type := _, pos := _, after := _, guard := some (1, true) }) rfl (fun K hK => ?_) AllReadyH.nil
    go_simp
    refine (C4.out _ _ _ XD.out).mono ?_
    rintro e u1 ⟨F1e, N4, va4, ca4, vm4, cm4, L4, Ls4, rfl, r7, t7, f7, E7, b7⟩
    replace QB := Lib.hid (QB.out.trans t7 FE.out)
    have X7 := Lib.hid r7
    have EC := Lib.hid E7
    have EB7 := Lib.hid (EBU.out _ QB.out)
    clear r7 t7 f7 E7 b7 XD FE C4 EBU
    go_wp2_with fail
    refine hK.out _ _ (SD.out _ QB.out) (fun hHeld => ?_)
    clear hK K
    try simp only [Act.put, List.setIfInBounds_toArray, List.set_cons_zero, List.set_cons_succ]
    refine wpAnyH_ready (rs := [6]) (by kernel_rfl) (by simp) ?_
    refine AllReadyH.cons (o := { dst := some 89, op := Op.call { callee := Callee.value (Operand.func 18), args := #[Operand.tmp 87, Operand.tmp 88], argTypes := #[54, 54] }, type := _, pos := _, after := _, guard := some (1, true) }) rfl (fun K hK => ?_) AllReadyH.nil
    go_simp
    refine (SM.out _ _ _ _ _ va4 vm4 va3 vm3 ca4 cm4 ca3 cm3 L4 L3 Ls4 Ls3 X7.out EC.out EB7.out).mono ?_; rintro e u2 ⟨rfl, b⟩
    have X8 := Lib.hid ((sysX g1 R).after X7.out b)
    replace QB := Lib.hid (QB.out.next b)
    clear b X7 EC EB7 SM
    go_wp2_with fail
    refine hK.out _ _ (SD.out _ QB.out) (fun hHeld => ?_)
    clear hK K
    try simp only [Act.put, List.setIfInBounds_toArray, List.set_cons_zero, List.set_cons_succ]
    refine wpAnyH_take (i := 7) (oi := { dst := some 90, op := Op.pick (Operand.tmp 84) (Operand.tmp 89) (Operand.const (Value.bool false)), type := _, pos := _, after := _, guard := none }) (v := ?_) rfl (by kernel_rfl) (by kernel_rfl) (by kernel_rfl) (fun _ _ _ h => h) (Or.inl ⟨by rfl, ?_⟩) (by first | exact hHeld | assumption) ?_
    rotate_left 1
    · intro w hSw; (try dsimp only at hSw); go_simp; try (with_reducible rfl)
    try simp only [Act.put, List.setIfInBounds_toArray, List.set_cons_zero, List.set_cons_succ]
    refine wpAnyH_take (i := 8) (oi := { dst := some 91, op := Op.move (Operand.tmp 90), type := _, pos := _, after := _, guard := none }) (v := ?_) rfl (by kernel_rfl) (by kernel_rfl) (by kernel_rfl) (fun _ _ _ h => h) (Or.inl ⟨by rfl, ?_⟩) (by first | exact hHeld | assumption) ?_
    rotate_left 1
    · intro w hSw; (try dsimp only at hSw); go_simp; try (with_reducible rfl)
    try simp only [Act.put, List.setIfInBounds_toArray, List.set_cons_zero, List.set_cons_succ]
    refine wpAnyH_take (i := 9) (oi := { dst := some 92, op := Op.fieldAddr 54 (Operand.tmp 15) 0, type := _, pos := _, after := _, guard := some (8, true) }) (v := ?_) rfl (by kernel_rfl) (by kernel_rfl) (by kernel_rfl) (fun _ _ _ h => h) (Or.inl ⟨by rfl, ?_⟩) (by first | exact hHeld | assumption) ?_
    rotate_left 1
    · intro w hSw; (try dsimp only at hSw); go_simp; try (with_reducible rfl)
    try simp only [Act.put, List.setIfInBounds_toArray, List.set_cons_zero, List.set_cons_succ]
    refine wpAnyH_take (i := 10) (oi := { dst := some 93, op := Op.load 32 (Operand.tmp 92), type := _, pos := _, after := _, guard := some (8, true) }) (v := ?_) rfl (by kernel_rfl) (by kernel_rfl) (by kernel_rfl) (fun _ _ _ h => h) (Or.inl ⟨by rfl, ?_⟩) (by first | exact hHeld | assumption) ?_
    rotate_left 1
    · intro w hSw; (try dsimp only at hSw); go_simp; try (with_reducible rfl)
    try simp only [Act.put, List.setIfInBounds_toArray, List.set_cons_zero, List.set_cons_succ]
    refine wpAnyH_take (i := 11) (oi := { dst := some 94, op := Op.binOp BinOp.eql 32 (Operand.tmp 93) (Operand.const (Value.int IntKind.i64 111)) 32, type := _, pos := _, after := _, guard := some (8, true) }) (v := ?_) rfl (by kernel_rfl) (by kernel_rfl) (by kernel_rfl) (fun _ _ _ h => h) (Or.inl ⟨by rfl, ?_⟩) (by first | exact hHeld | assumption) ?_
    rotate_left 1
    · intro w hSw; (try dsimp only at hSw); go_simp; try (with_reducible rfl)
    try simp only [Act.put, List.setIfInBounds_toArray, List.set_cons_zero, List.set_cons_succ]
    refine wpAnyH_take (i := 12) (oi := { dst := some 95, op := Op.move (Operand.tmp 10), type := _, pos := _, after := _, guard := some (8, true) }) (v := ?_) rfl (by kernel_rfl) (by kernel_rfl) (by kernel_rfl) (fun _ _ _ h => h) (Or.inl ⟨by rfl, ?_⟩) (by first | exact hHeld | assumption) ?_
    rotate_left 1
    · intro w hSw; (try dsimp only at hSw); go_simp; try (with_reducible rfl)
    try simp only [Act.put, List.setIfInBounds_toArray, List.set_cons_zero, List.set_cons_succ]
    refine wpAnyH_ready (rs := [13]) (by kernel_rfl) (by simp) ?_
    refine AllReadyH.cons (o := { dst := some 96, op := Op.call { callee := Callee.value (Operand.func 15), args := #[Operand.tmp 95], argTypes := #[31] }, type := _, pos := _, after := _, guard := some (8, true) }) rfl (fun K hK => ?_) AllReadyH.nil
    go_simp
    refine (OV.out _ _ _ X8.out).mono ?_; rintro e u3 ⟨rfl, b⟩
    replace QB := Lib.hid (QB.out.next b)
    clear b X8
    go_wp2_with fail
    refine hK.out _ _ (SD.out _ QB.out) (fun hHeld => ?_)
    clear hK K
    try simp only [Act.put, List.setIfInBounds_toArray, List.set_cons_zero, List.set_cons_succ]
    refine wpAnyH_take (i := 14) (oi := { dst := some 97, op := Op.unOp UnOp.not 4 (Operand.tmp 96), type := _, pos := _, after := _, guard := some (8, true) }) (v := ?_) rfl (by kernel_rfl) (by kernel_rfl) (by kernel_rfl) (fun _ _ _ h => h) (Or.inl ⟨by rfl, ?_⟩) (by first | exact hHeld | assumption) ?_
    rotate_left 1
    · intro w hSw; (try dsimp only at hSw); go_simp; try (with_reducible rfl)
    try simp only [Act.put, List.setIfInBounds_toArray, List.set_cons_zero, List.set_cons_succ]
    refine wpAnyH_take (i := 15) (oi := { dst := some 98, op := Op.binOp BinOp.eql 4 (Operand.tmp 94) (Operand.tmp 97) 4, type := _, pos := _, after := _, guard := some (8, true) }) (v := ?_) rfl (by kernel_rfl) (by kernel_rfl) (by kernel_rfl) (fun _ _ _ h => h) (Or.inl ⟨by rfl, ?_⟩) (by first | exact hHeld | assumption) ?_
    rotate_left 1
    · intro w hSw; (try dsimp only at hSw); go_simp; try (with_reducible rfl)
    try simp only [Act.put, List.setIfInBounds_toArray, List.set_cons_zero, List.set_cons_succ]
    refine wpAnyH_take (i := 16) (oi := { dst := some 99, op := Op.pick (Operand.tmp 91) (Operand.tmp 98) (Operand.const (Value.bool false)), type := _, pos := _, after := _, guard := none }) (v := ?_) rfl (by kernel_rfl) (by kernel_rfl) (by kernel_rfl) (fun _ _ _ h => h) (Or.inl ⟨by rfl, ?_⟩) (by first | exact hHeld | assumption) ?_
    rotate_left 1
    · intro w hSw; (try dsimp only at hSw); go_simp; try (with_reducible rfl)
    try simp only [Act.put, List.setIfInBounds_toArray, List.set_cons_zero, List.set_cons_succ]
    refine wpAnyH_take (i := 17) (oi := { dst := some 8, op := Op.assign (Operand.tmp 99), type := _, pos := _, after := _, guard := none }) (v := ?_) rfl (by kernel_rfl) (by kernel_rfl) (by kernel_rfl) (fun _ _ _ h => h) (Or.inl ⟨by rfl, ?_⟩) (by first | exact hHeld | assumption) ?_
    rotate_left 1
    · intro w hSw; (try dsimp only at hSw); go_simp; try (with_reducible rfl)
    try simp only [Act.put, List.setIfInBounds_toArray, List.set_cons_zero, List.set_cons_succ]
    refine wpAnyH_done (by kernel_rfl) ?_ _
    go_wp2_with fail
    go_ret
    exact ⟨rfl, BW.out _ QB.out⟩
end Go.Proofs.YtlbhffdpklbhfaaGreat
