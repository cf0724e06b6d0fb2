/-
  Texts, one behind the other: MachEnv2, MachSame.
  Conditions: those that each theorem states.
-/
import Derived.Deep.DeepCutAuto
import Derived.Test.YtlbhffdpklbhfaaGreatPz50
import Derived.LoopTactic
import Derived.Test.YtlbhffdpklbhfaaGreatPz49
import Derived.Test.YtlbhffdpklbhfaaGreatPz29
namespace Go.Proofs.YtlbhffdpklbhfaaGreat
open Go.RowKit
set_option maxRecDepth 100000
set_option linter.unusedVariables false
set_option linter.unusedSimpArgs false
set_option maxHeartbeats 8000000 in
theorem l11_env (w : World) (E : EV) (hE : EnvS w E) (hok : E.raw) : Calls Tryz.prog 10 #[envV E] w (EnvW E w) := by
  obtain ⟨ctx, ca, cc, D, da, dc, L, ia, ic, dr, na, nc⟩ := E
  unfold envV
  have b4 := hok.c.2
  have b5 := hok.d
  have b6 := hok.i.2
  have b7 := hok.n.2
  dsimp only at *
  unfold maxLen at b4 b5 b6 b7
  have HE := Lib.hid hE
  have HOK := Lib.hid hok
  clear hE hok
  have t1 := tl 100 ctx
  have t2 := tl 10 D
  have t3 := tl 100 dr
  have l1 : (ctx.take 100).length ≤ cc := by rw [List.length_take]; omega
  have l2 : (D.take 10).length ≤ dc := by rw [List.length_take]; omega
  have l3 : (dr.take 100).length ≤ nc := by rw [List.length_take]; omega
  generalize e1 : (ctx.take 100).length = n1 at *
  generalize e2 : (D.take 10).length = n2 at *
  generalize e3 : (dr.take 100).length = n3 at *
  have N1 := Lib.hid e1
  have N2 := Lib.hid e2
  have N3 := Lib.hid e3
  clear e1 e2 e3
  have m1 : ∀ u, (Builtin.min_ #[3, 3] 3 #[.int .i64 (ctx.length : Int), .int .i64 100]).run Tryz.prog u = .ok (.int .i64 (n1 : Int)) u := fun u => min_run u ctx.length 100 n1 t1
  have m2 : ∀ u, (Builtin.min_ #[3, 3] 3 #[.int .i64 (D.length : Int), .int .i64 10]).run Tryz.prog u = .ok (.int .i64 (n2 : Int)) u := fun u => min_run u D.length 10 n2 t2
  have m3 : ∀ u, (Builtin.min_ #[3, 3] 3 #[.int .i64 (dr.length : Int), .int .i64 100]).run Tryz.prog u = .ok (.int .i64 (n3 : Int)) u := fun u => min_run u dr.length 100 n3 t3
  clear t1 t2 t3
  have i1 : (0 : Int) ≤ (n1 : Int) ∧ (n1 : Int) ≤ (cc : Int) := by omega
  have i2 : (0 : Int) ≤ (n2 : Int) ∧ (n2 : Int) ≤ (dc : Int) := by omega
  have i3 : (0 : Int) ≤ (n3 : Int) ∧ (n3 : Int) ≤ (nc : Int) := by omega
  obtain ⟨i1, j1⟩ := i1
  obtain ⟨i2, j2⟩ := i2
  obtain ⟨i3, j3⟩ := i3
  go_enter Tryz.func10, Tryz.ntmps10
  go_upto_region 1 with fail
  have b1 := below_alloc (Below.refl w.heap.size w) (.cells #[.slice ca ctx.length cc, .slice da D.length dc, .slice ia L.length ic, .slice na dr.length nc] 28)
  have x1 := Blk.new w #[.slice ca ctx.length cc, .slice da D.length dc, .slice ia L.length ic, .slice na dr.length nc] 28 (g := w.heap.size) rfl
  have s1 : (w.alloc (.cells #[.slice ca ctx.length cc, .slice da D.length dc, .slice ia L.length ic, .slice na dr.length nc] 28)).heap.size = w.heap.size + 1 := by simp
  have x2 := Blk.new (w.alloc (.cells #[.slice ca ctx.length cc, .slice da D.length dc, .slice ia L.length ic, .slice na dr.length nc] 28)) #[.slice none 0 0, .slice none 0 0, .slice none 0 0, .slice none 0 0] 28 (g := w.heap.size + 1) s1.symm
  have BB := Lib.hid (below_alloc b1 (.cells #[.slice none 0 0, .slice none 0 0, .slice none 0 0, .slice none 0 0] 28))
  have XI := Lib.hid (x1.after (below_alloc (Below.refl _ _) (.cells #[.slice none 0 0, .slice none 0 0, .slice none 0 0, .slice none 0 0] 28)))
  have XO := Lib.hid x2
  have S2 : Hid (((w.alloc (.cells #[.slice ca ctx.length cc, .slice da D.length dc, .slice ia L.length ic, .slice na dr.length nc] 28)).alloc (.cells #[.slice none 0 0, .slice none 0 0, .slice none 0 0, .slice none 0 0] 28)).heap.size = w.heap.size + 2) := Lib.hid (by simp)
  clear b1 x1 s1 x2
  generalize hw1 : (w.alloc (.cells #[.slice ca ctx.length cc, .slice da D.length dc, .slice ia L.length ic, .slice na dr.length nc] 28)).alloc (.cells #[.slice none 0 0, .slice none 0 0, .slice none 0 0, .slice none 0 0] 28) = w1 at *
  clear hw1
  go_cut [3] (fun tv wr => ∃ gT, tv = .pointer (some ⟨gT, 0, none⟩) ∧ Hid (ES w (.slice ca ctx.length cc) (.slice da D.length dc) (.slice ia L.length ic) (.slice na dr.length nc) gT (.slice ca n1 cc) (.slice da n2 dc) (.slice none 0 0) (.slice na n3 nc) wr))
  case first =>
    have HB : Below w1.heap.size w1 w1.drew := Below.drew (Below.refl _ _)
    have HA : Below w1.heap.size w1 ((w1.alloc (.cells #[.slice none 0 0, .slice none 0 0, .slice none 0 0, .slice none 0 0] 28)).drew) := Below.drew (below_alloc (Below.refl _ _) _)
    have BA : Hid (Blk w1.heap.size #[.slice none 0 0, .slice none 0 0, .slice none 0 0, .slice none 0 0] 28 ((w1.alloc (.cells #[.slice none 0 0, .slice none 0 0, .slice none 0 0, .slice none 0 0] 28)).drew)) := Lib.hid (Blk.new w1 _ _ rfl)
    obtain ⟨-, f0, f1, f2, f3⟩ := Blk.fou BA.out
    have KK := Lib.hid fun u (b : Below w1.heap.size w1 u) => (show _ from (by
      obtain ⟨⟨q0, q1, q2, q3⟩, -⟩ := Blk.fou (XI.out.after b)
      exact ⟨q0, q1, q3⟩) : u.cell? ⟨w.heap.size, 0, none⟩ = some (.slice ca ctx.length cc) ∧ u.cell? ⟨w.heap.size, 1, none⟩ = some (.slice da D.length dc) ∧ u.cell? ⟨w.heap.size, 3, none⟩ = some (.slice na dr.length nc))
    go_region_held3 (fun w' => w'.cell? ⟨w.heap.size, 0, none⟩ = some (.slice ca ctx.length cc) ∧ w'.cell? ⟨w.heap.size, 1, none⟩ = some (.slice da D.length dc) ∧ w'.cell? ⟨w.heap.size, 3, none⟩ = some (.slice na dr.length nc))
      (first
        | with_reducible exact KK.out _ HB
        | with_reducible exact KK.out _ HA
        | with_reducible exact KK.out _ (below_alloc HB _)
        | with_reducible exact KK.out _ (Below.drew (below_alloc (Below.refl _ _) _))
        | with_reducible exact KK.out _ (below_alloc (Below.refl _ _) _)
        | with_reducible exact KK.out _ (fou_b HA (Nat.le_refl _) _ _ _ _)
        | with_reducible exact KK.out _ (Below.drew (fou_b (below_alloc (Below.refl _ _) _) (Nat.le_refl _) _ _ _ _)))
      (first | fail)
    all_goals
      rename_i hh
      clear hh
      try clear f0 f1 f2 f3
      go_wp2_with fail
      go_meet
      first
        | exact ⟨_, rfl, Lib.hid (es_new BB.out XI.out XO.out S2.out)⟩
        | exact ⟨_, rfl, Lib.hid (es_set BB.out XI.out XO.out S2.out)⟩
  case rest =>
    obtain ⟨gT, rfl, Q⟩ := hcut
    have J0 : Hid (EJ w wc.heap.size (.slice ca ctx.length cc) (.slice da D.length dc) (.slice ia L.length ic) (.slice na dr.length nc) gT (.slice ca n1 cc) (.slice da n2 dc) (.slice na n3 nc) L 0 (.slice none 0 0) [] (fun _ => False) wc) :=
      Lib.hid ⟨Q.out, ⟨Q.out.xt.lt, Nat.le_refl _⟩, World.ownsRow_nil _ _ _ _, rfl, fun x hx => hx.elim, fun _ _ k hk => absurd hk (Nat.not_lt_zero _), rfl, fun k hk => absurd hk (Nat.not_lt_zero _)⟩
    have HW : Hid (w.heap.size + 1 < wc.heap.size) := Lib.hid (by have := Q.out.gt; have := Q.out.xt.lt; omega)
    generalize wc.heap.size = B at J0 HW
    have y2 := (Blk.fou Q.out.xi).1.2.2.1
    clear BB XI XO S2 Q m1 m2 m3
    go_wp2_with fail
    go_loopw [34] (fun iv wr => ∃ (j : Nat) (v : Value) (L' : List IR) (K : Nat → Prop), iv = .int .i64 j ∧ j ≤ 10 ∧ j ≤ L.length ∧ Hid (EJ w B (.slice ca ctx.length cc) (.slice da D.length dc) (.slice ia L.length ic) (.slice na dr.length nc) gT (.slice ca n1 cc) (.slice da n2 dc) (.slice na n3 nc) L j v L' K wr)) (fun iv wr => L.length - (intOf iv).toNat)
    case atStart => exact ⟨0, _, _, _, rfl, by omega, by omega, J0⟩
    case round =>
      obtain ⟨j, v, L', K, rfl, hj10, hj, J⟩ := hrel
      by_cases hlt : (j : Int) < L.length
      · have hjn : j < L.length := by omega
        obtain ⟨g, o, hA, hg, hc⟩ := (HE.out.after J.out.s.below).i (by show 0 < L.length; omega)
        have c0 := (hc j hjn).1
        by_cases h10 : j < 10
        · skip
          have ROW : Hid (∀ u, Below w.heap.size w u → ItmS u (irAt L j).a (irAt L j).l) := Lib.hid fun u b => by
            obtain ⟨_, _, _, _, hc2⟩ := (HE.out.after b).i (by show 0 < L.length; omega)
            exact (hc2 j hjn).2
          have JN := Lib.hid fun u' (k : Below wr.heap.size wr u') A m cp hm o => J.out.next (A := A) (m := m) (cp := cp) k hjn (by omega) (by have := HW.out; omega) hm o
          have SJ := Lib.hid J.out.s
          have CAPS := Lib.hid ((HOK.out.i.1 j hjn).2)
          have bj := J.out.s.below
          have BJ := Lib.hid bj
          subst hA
          clear hc J bj HE HOK
          generalize wr = w5 at *
          generalize irAt L j = r at *
          have RN := Lib.hid fun k (hk : k < r.l.length) => eRow_next (l := r.l) hk
          have rcap := CAPS.out
          unfold maxLen at rcap
          by_cases hm0 : 0 < r.l.length
          · obtain ⟨gr, or, hra, -⟩ := ROW.out w5 BJ.out hm0
            have HRA := Lib.hid hra
            rw [hra] at c0
            clear hra
            go_wp2_with fail
            go_loopw [43, 6] (fun iv rv wr => ∃ (k : Nat) (A : Option Addr) (cp : Nat), iv = .int .i64 k ∧ rv = .slice A (eRow k r.l).length cp ∧ k ≤ r.l.length ∧ Hid (Below w5.heap.size w5 wr ∧ wr.ownsRow w5.heap.size 84 2 (.slice A (eRow k r.l).length cp) (eRow k r.l).length (iC (eRow k r.l)))) (fun iv rv wr => r.l.length - (intOf iv).toNat)
            case atStart => exact ⟨0, none, 0, rfl, by simp [eRow], by omega, Lib.hid ⟨Below.refl _ _, by simp only [eRow, Nat.zero_min, List.take_zero, List.filter_nil, List.length_nil]; exact World.ownsRow_nil _ _ _ _⟩⟩
            case round =>
              obtain ⟨k, A, cp, rfl, rfl, hk, I⟩ := hrel
              by_cases hlt2 : (k : Int) < r.l.length
              · have hkm : k < r.l.length := by omega
                obtain ⟨gr', or', hra', hgr, hcl⟩ := ROW.out wr (below_next' BJ.out I.out.1) hm0
                rw [HRA.out] at hra'
                cases hra'
                obtain ⟨⟨y0, y1⟩, -, -⟩ := hcl k hkm
                clear hcl
                have hel := eRow_len k r.l
                by_cases hk20 : k < 20
                · by_cases hs1 : (xAt r.l k).k.length ≤ 80
                  · by_cases hs2 : (xAt r.l k).v.length ≤ 80
                    · have q : eRow (k + 1) r.l = eRow k r.l ++ [xAt r.l k] := by rw [RN.out k hkm, if_pos ⟨hk20, by unfold shortI; rw [decide_eq_true hs1, decide_eq_true hs2]; rfl⟩]
                      have QQ := Lib.hid q
                      have b1 := below_alloc (Below.refl wr.heap.size wr) (.cells #[.slice (xAt r.l k).a (xAt r.l k).k.length (xAt r.l k).c, .slice (xAt r.l k).b (xAt r.l k).v.length (xAt r.l k).d] 84)
                      have b2 := below_next' b1 (below_alloc (Below.refl _ _) (.cells #[.slice (xAt r.l k).a (xAt r.l k).k.length (xAt r.l k).c, .slice (xAt r.l k).b (xAt r.l k).v.length (xAt r.l k).d] 84))
                      obtain ⟨v', w9, hr, ho, hg9⟩ := run_item (own_after I.out.2 b2) rfl (by omega) (Nat.le_trans I.out.1.size b2.size) (xAt r.l k) (Blk.new (wr.alloc (.cells #[.slice (xAt r.l k).a (xAt r.l k).k.length (xAt r.l k).c, .slice (xAt r.l k).b (xAt r.l k).v.length (xAt r.l k).d] 84)) _ 84 rfl)
                      obtain ⟨A', cp', rfl, -, -⟩ := own_slice ho
                      have IX : Hid (Below w5.heap.size w5 w9 ∧ w9.ownsRow w5.heap.size 84 2 (.slice A' ((eRow k r.l).length + 1) cp') ((eRow k r.l).length + 1) (iC (eRow k r.l ++ [xAt r.l k]))) := Lib.hid ⟨below_own (below_next' I.out.1 b2) (own_after I.out.2 b2) (Nat.le_trans I.out.1.size b2.size) hg9, ho⟩
                      clear q RN b1 b2 ho hg9
                      have BK := Lib.hid (Blk.new wr #[.slice (xAt r.l k).a (xAt r.l k).k.length (xAt r.l k).c, .slice (xAt r.l k).b (xAt r.l k).v.length (xAt r.l k).d] 84 (g := wr.heap.size) rfl)
                      go_upto_region 11 with fail
                      generalize hwa : (wr.alloc (.cells #[.slice (xAt r.l k).a (xAt r.l k).k.length (xAt r.l k).c, .slice (xAt r.l k).b (xAt r.l k).v.length (xAt r.l k).d] 84)) = wa at *
                      clear hwa
                      have p : wa.cell? ⟨wr.heap.size, 0, none⟩ = some (.slice (xAt r.l k).a (xAt r.l k).k.length (xAt r.l k).c) ∧ wa.cell? ⟨wr.heap.size, 1, none⟩ = some (.slice (xAt r.l k).b (xAt r.l k).v.length (xAt r.l k).d) := ⟨Blk.cell BK.out 0, Blk.cell BK.out 1⟩
                      obtain ⟨p0, p1⟩ := p
                      clear y0 y1 BK
                      go_wp2_with ((at_builtin; refine Lib.wpList_append_run _ rfl (.tmp 62) (.tmp 64) _ _ rfl _ _ rfl rfl _ _ hr ?_))
                      go_round
                      case rel => exact ⟨k + 1, A', cp', by go_num, by rw [QQ.out, List.length_append, List.length_singleton], by omega, Lib.hid (by rw [QQ.out, List.length_append, List.length_singleton]; exact IX.out)⟩
                      case measure => simp [intOf]; omega
                    · skip
                      have q : eRow (k + 1) r.l = eRow k r.l := by rw [RN.out k hkm, if_neg (by rintro ⟨_, c⟩; unfold shortI at c; rw [decide_eq_false hs2, Bool.and_false] at c; cases c)]
                      have QQ := Lib.hid q
                      clear q RN
                      go_wp2_with fail
                      go_round
                      case rel => exact ⟨k + 1, A, cp, by go_num, by rw [QQ.out], by omega, Lib.hid (by rw [QQ.out]; exact ⟨below_alloc I.out.1 _, own_after I.out.2 (below_alloc (Below.refl _ _) _)⟩)⟩
                      case measure => simp [intOf]; omega
                  · skip
                    have q : eRow (k + 1) r.l = eRow k r.l := by rw [RN.out k hkm, if_neg (by rintro ⟨_, c⟩; unfold shortI at c; rw [decide_eq_false hs1, Bool.false_and] at c; cases c)]
                    have QQ := Lib.hid q
                    clear q RN
                    go_wp2_with fail
                    go_round
                    case rel => exact ⟨k + 1, A, cp, by go_num, by rw [QQ.out], by omega, Lib.hid (by rw [QQ.out]; exact ⟨below_alloc I.out.1 _, own_after I.out.2 (below_alloc (Below.refl _ _) _)⟩)⟩
                    case measure => simp [intOf]; omega
                · skip
                  have q : eRow (k + 1) r.l = eRow k r.l := by rw [RN.out k hkm, if_neg (by rintro ⟨c, _⟩; exact hk20 c)]
                  have QQ := Lib.hid q
                  clear q RN
                  go_wp2_with fail
                  go_round
                  case rel => exact ⟨k + 1, A, cp, by go_num, by rw [QQ.out], by omega, Lib.hid (by rw [QQ.out]; exact ⟨below_alloc I.out.1 _, own_after I.out.2 (below_alloc (Below.refl _ _) _)⟩)⟩
                  case measure => simp [intOf]; omega
              · have hkm : k = r.l.length := by omega
                subst hkm
                obtain ⟨v', u2, hr, ⟨q1, q2⟩, L2, K2, J2⟩ := JN.out _ I.out.1 A _ cp rfl I.out.2
                obtain ⟨va', vc', rfl, -, -⟩ := own_slice J2.row
                have JX := Lib.hid J2
                have yt := (Blk.fou ((SJ.out.after I.out.1).xt)).1.2.2.1
                clear J2 JN
                go_wp2_with ((at_builtin; refine Lib.wpList_append_run _ rfl (.tmp 68) (.tmp 70) _ _ rfl _ _ rfl rfl _ _ hr ?_))
                go_round
                case rel => exact ⟨j + 1, _, L2, K2, by go_num, by omega, by omega, JX⟩
                case measure => simp [intOf]; omega
          · have hz : r.l.length = 0 := by omega
            have HZ := Lib.hid hz
            have hnil : r.l = [] := List.eq_nil_of_length_eq_zero hz
            have E0 : Hid (eRow r.l.length r.l = []) := Lib.hid (by rw [hnil]; rfl)
            clear RN hnil
            generalize r.l.length = rn at *
            subst hz
            go_wp2_with fail
            go_loopw [43, 6] (fun iv rv wr => iv = .int .i64 0 ∧ rv = .slice none 0 0 ∧ wr = w5) (fun iv rv wr => 0)
            case atStart => exact ⟨rfl, rfl, rfl⟩
            case round =>
              obtain ⟨rfl, rfl, rfl⟩ := hrel
              obtain ⟨v', u2, hr, ⟨q1, q2⟩, L2, K2, J2⟩ := JN.out _ (Below.refl _ _) none _ 0 (by rw [E0.out]) (by rw [E0.out]; exact World.ownsRow_nil _ _ _ _)
              obtain ⟨va', vc', rfl, -, -⟩ := own_slice J2.row
              have JX := Lib.hid J2
              have yt := (Blk.fou ((SJ.out.after (Below.refl _ _)).xt)).1.2.2.1
              clear J2 JN
              go_wp2_with ((at_builtin; refine Lib.wpList_append_run _ rfl (.tmp 68) (.tmp 70) _ _ rfl _ _ rfl rfl _ _ hr ?_))
              go_round
              case rel => exact ⟨j + 1, _, L2, K2, by go_num, by omega, by omega, JX⟩
              case measure => simp [intOf]; omega
        · have e10 : j = 10 := by omega
          subst e10
          subst hA
          clear hc
          obtain ⟨ia', ic', rfl, hl2, FINX⟩ := EJ.done HE.out HOK.out (by rw [N1.out, N2.out, N3.out]; exact J.out) HW.out rfl (Nat.le_of_lt hjn)
          have FF := Lib.hid FINX
          have hl3 := Lib.hid hl2
          obtain ⟨⟨z0, z1, z2, z3⟩, -⟩ := Blk.fou J.out.s.xt
          obtain ⟨⟨x0, x1, x2, x3⟩, f0, f1, f2, f3⟩ := Blk.fou J.out.s.xo
          have Z4 := Lib.hid (Blk.fou (fou_blk J.out.s.xo (.slice ca n1 cc) (.slice da n2 dc) (.slice ia' 10 ic') (.slice na n3 nc))).1
          clear FINX hl2
          go_wp2_with fail
          have FIN := FF.out
          obtain ⟨r0, r1, r2, r3⟩ := Z4.out
          rw [N1.out, N2.out, N3.out] at FIN
          unfold fou at r0 r1 r2 r3 FIN
          exact bodyPost_ret (v := .agg #[.slice ca n1 cc, .slice da n2 dc, .slice ia' 10 ic', .slice na n3 nc]) (by simp [results, Tryz.results10, go_sem, r0, r1, r2, r3]) rfl FIN
      · have hjn : j = L.length := by omega
        subst hjn
        obtain ⟨ia', ic', rfl, hl2, FINX⟩ := EJ.done HE.out HOK.out (by rw [N1.out, N2.out, N3.out]; exact J.out) HW.out (by rw [List.take_of_length_le (Nat.le_refl _), List.take_of_length_le hj10]) (Nat.le_refl _)
        have FF := Lib.hid FINX
        have hl3 := Lib.hid hl2
        obtain ⟨⟨z0, z1, z2, z3⟩, -⟩ := Blk.fou J.out.s.xt
        obtain ⟨⟨x0, x1, x2, x3⟩, f0, f1, f2, f3⟩ := Blk.fou J.out.s.xo
        have Z4 := Lib.hid (Blk.fou (fou_blk J.out.s.xo (.slice ca n1 cc) (.slice da n2 dc) (.slice ia' L.length ic') (.slice na n3 nc))).1
        clear FINX hl2
        go_wp2_with fail
        have FIN := FF.out
        obtain ⟨r0, r1, r2, r3⟩ := Z4.out
        rw [N1.out, N2.out, N3.out] at FIN
        unfold fou at r0 r1 r2 r3 FIN
        exact bodyPost_ret (v := .agg #[.slice ca n1 cc, .slice da n2 dc, .slice ia' L.length ic', .slice na n3 nc]) (by simp [results, Tryz.results10, go_sem, r0, r1, r2, r3]) rfl FIN
theorem neq_same (s : List Int) (u : World) : (binOp BinOp.neq 9 (.string (strOfNums s)) (.string (strOfNums s))).run Tryz.prog u = .ok (.bool false) u := by
  have e : (binOp BinOp.neq 9 (.string (strOfNums s)) (.string (strOfNums s))).run Tryz.prog u = .ok (.bool (!((strOfNums s).toList == (strOfNums s).toList))) u := rfl
  rw [e]
  simp
set_option maxHeartbeats 8000000 in
theorem r11_calls (w : World) (A1 A2 : Option Addr) (c1 c2 B1 B2 D1 D2 n : Nat) (L1 L2 : List CR) (h1 : CrR B1 D1 w A1 c1 L1) (h2 : CrR B2 D2 w A2 c2 L2) (hl1 : L1.length = n) (hl2 : L2.length = n) (he : ∀ k, k < n → (crAt L1 k).c = (crAt L2 k).c) (hsm : ∀ k, k < n → (crAt L1 k).c.n.length ≤ 8) :
    Calls Tryz.prog 85 #[.slice A1 n c1, .slice A2 n c2] w (Gives (.bool true) w) := by
  have hc1 := own_caps h1.row
  have hc2 := own_caps h2.row
  rw [hl1] at hc1
  rw [hl2] at hc2
  unfold maxLen at hc1 hc2
  have H1 := Lib.hid h1
  have H2 := Lib.hid h2
  have HL1 := Lib.hid hl1
  have HL2 := Lib.hid hl2
  have HE := Lib.hid he
  have HS := Lib.hid hsm
  have NS := neq_same
  clear h1 h2 hl1 hl2 he hsm
  go_enter Tryz.func85, Tryz.ntmps85
  go_wp2_with fail
  go_loopw [5] (fun iv wr => ∃ j : Nat, iv = .int .i64 j ∧ j ≤ n ∧ Hid (Below w.heap.size w wr)) (fun iv wr => n - (intOf iv).toNat)
  case atStart => exact ⟨0, rfl, by omega, Lib.hid (Below.refl _ _)⟩
  case round =>
    obtain ⟨j, rfl, hj, V⟩ := hrel
    by_cases hlt : (j : Int) < n
    · have hjn : j < n := by omega
      have q1 := H1.out.after V.out
      have q2 := H2.out.after V.out
      have r1 := q1.row
      have r2 := q2.row
      rw [HL1.out] at r1
      rw [HL2.out] at r2
      obtain ⟨g1, e1, -, hg1⟩ := own_addr r1 (by omega)
      obtain ⟨g2, e2, -, hg2⟩ := own_addr r2 (by omega)
      subst e1
      subst e2
      have x : ∀ r, r < 6 → wr.cell? ⟨g1, j * 6 + r, none⟩ = (cCR (crAt L1 j))[r]? := fun r hr => by rw [r1.cellAt _ (by omega), crC_at L1 j r (by rw [HL1.out]; exact hjn) hr]
      have y : ∀ r, r < 6 → wr.cell? ⟨g2, j * 6 + r, none⟩ = (cCR (crAt L2 j))[r]? := fun r hr => by rw [r2.cellAt _ (by omega), crC_at L2 j r (by rw [HL2.out]; exact hjn) hr]
      have OW1 := Lib.hid (q1.own j (by rw [HL1.out]; exact hjn))
      have OW2 := Lib.hid (q2.own j (by rw [HL2.out]; exact hjn))
      have hcc := HE.out j hjn
      have hnn := HS.out j hjn
      have x0 := x 0 (by omega)
      have x1 := x 1 (by omega)
      have x2 := x 2 (by omega)
      have x3 := x 3 (by omega)
      have x4 := x 4 (by omega)
      have x5 := x 5 (by omega)
      have y0 := y 0 (by omega)
      have y1 := y 1 (by omega)
      have y2 := y 2 (by omega)
      have y3 := y 3 (by omega)
      have y4 := y 4 (by omega)
      have y5 := y 5 (by omega)
      clear x y q1 q2 r1 r2
      generalize crAt L1 j = s1 at *
      generalize crAt L2 j = s2 at *
      obtain ⟨c, ka, kc, va, vc, na, nc⟩ := s1
      obtain ⟨c', ka', kc', va', vc', na', nc'⟩ := s2
      dsimp only at hcc
      subst hcc
      obtain ⟨id, mp, k, v, nn, ret⟩ := c
      dsimp only [cCR] at x0 x1 x2 x3 x4 x5 y0 y1 y2 y3 y4 y5 hnn
      replace x0 : wr.cell? ⟨g1, j * 6, none⟩ = some (.int .i64 id) := x0
      replace x1 : wr.cell? ⟨g1, j * 6 + 1, none⟩ = some (.int .i64 mp) := x1
      replace x2 : wr.cell? ⟨g1, j * 6 + 2, none⟩ = some (.slice ka k.length kc) := x2
      replace x3 : wr.cell? ⟨g1, j * 6 + 3, none⟩ = some (.slice va v.length vc) := x3
      replace x4 : wr.cell? ⟨g1, j * 6 + 4, none⟩ = some (.slice na nn.length nc) := x4
      replace x5 : wr.cell? ⟨g1, j * 6 + 5, none⟩ = some (.int .u64 ret) := x5
      replace y0 : wr.cell? ⟨g2, j * 6, none⟩ = some (.int .i64 id) := y0
      replace y1 : wr.cell? ⟨g2, j * 6 + 1, none⟩ = some (.int .i64 mp) := y1
      replace y2 : wr.cell? ⟨g2, j * 6 + 2, none⟩ = some (.slice ka' k.length kc') := y2
      replace y3 : wr.cell? ⟨g2, j * 6 + 3, none⟩ = some (.slice va' v.length vc') := y3
      replace y4 : wr.cell? ⟨g2, j * 6 + 4, none⟩ = some (.slice na' nn.length nc') := y4
      replace y5 : wr.cell? ⟨g2, j * 6 + 5, none⟩ = some (.int .u64 ret) := y5
      have b1 := below_alloc (Below.refl wr.heap.size wr) (.cells #[.int .i64 id, .int .i64 mp, .slice ka k.length kc, .slice va v.length vc, .slice na nn.length nc, .int .u64 ret] 59)
      have k1 := Blk.new wr #[.int .i64 id, .int .i64 mp, .slice ka k.length kc, .slice va v.length vc, .slice na nn.length nc, .int .u64 ret] 59 (g := wr.heap.size) rfl
      have z1 : (wr.alloc (.cells #[.int .i64 id, .int .i64 mp, .slice ka k.length kc, .slice va v.length vc, .slice na nn.length nc, .int .u64 ret] 59)).heap.size = wr.heap.size + 1 := by simp
      have k2 := Blk.new (wr.alloc (.cells #[.int .i64 id, .int .i64 mp, .slice ka k.length kc, .slice va v.length vc, .slice na nn.length nc, .int .u64 ret] 59)) #[.int .i64 id, .int .i64 mp, .slice ka' k.length kc', .slice va' v.length vc', .slice na' nn.length nc', .int .u64 ret] 59 (g := wr.heap.size + 1) z1.symm
      have BX := Lib.hid (k1.after (below_alloc (Below.refl _ _) (.cells #[.int .i64 id, .int .i64 mp, .slice ka' k.length kc', .slice va' v.length vc', .slice na' nn.length nc', .int .u64 ret] 59)))
      have BY := Lib.hid k2
      have BB := Lib.hid (below_alloc b1 (.cells #[.int .i64 id, .int .i64 mp, .slice ka' k.length kc', .slice va' v.length vc', .slice na' nn.length nc', .int .u64 ret] 59))
      clear b1 k1 z1 k2
      go_upto_region 8 with fail
      generalize (wr.alloc (.cells #[.int .i64 id, .int .i64 mp, .slice ka k.length kc, .slice va v.length vc, .slice na nn.length nc, .int .u64 ret] 59)).alloc (.cells #[.int .i64 id, .int .i64 mp, .slice ka' k.length kc', .slice va' v.length vc', .slice na' nn.length nc', .int .u64 ret] 59) = wa at *
      have V2 := Lib.hid (below_next' V.out BB.out)
      have s1 := str_bytS (own_bytS rfl (own_after OW1.out.k BB.out)) kc
      have s2 := str_bytS (own_bytS rfl (own_after OW1.out.v BB.out)) vc
      have t1 := str_bytS (own_bytS rfl (own_after OW2.out.k BB.out)) kc'
      have t2 := str_bytS (own_bytS rfl (own_after OW2.out.v BB.out)) vc'
      have U1 := Lib.hid (own_numS rfl (own_after OW1.out.n BB.out))
      have U2 := Lib.hid (own_numS rfl (own_after OW2.out.n BB.out))
      have ca1 := (own_caps OW1.out.n)
      have ca2 := (own_caps OW2.out.n)
      have ca3 := (own_caps OW1.out.k)
      have ca4 := (own_caps OW1.out.v)
      have ca5 := (own_caps OW2.out.k)
      have ca6 := (own_caps OW2.out.v)
      dsimp only at s1 s2 t1 t2 U1 U2 ca1 ca2 ca3 ca4 ca5 ca6
      unfold maxLen at ca1 ca2 ca3 ca4 ca5 ca6
      clear x0 x1 x2 x3 x4 x5 y0 y1 y2 y3 y4 y5 V BB OW1 OW2
      obtain ⟨⟨x0, x1, x2, x3, x4, x5⟩, -⟩ := Blk.six BX.out
      obtain ⟨⟨y0, y1, y2, y3, y4, y5⟩, -⟩ := Blk.six BY.out
      generalize wr.heap.size = bx at *
      have HK := Lib.hid (rfl : nn.length = nn.length)
      generalize hm : nn.length = m at *
      have HM := Lib.hid hm
      clear hm HK
      go_wp2_with fail
      go_loopw [8] (fun kv wr => ∃ q : Nat, kv = .int .i64 q ∧ q ≤ m ∧ Hid (Below wa.heap.size wa wr)) (fun kv wr => m - (intOf kv).toNat)
      case atStart => exact ⟨0, rfl, by omega, Lib.hid (Below.refl _ _)⟩
      case round =>
        obtain ⟨q, rfl, hq, BQ⟩ := hrel
        have q0 : (0 : Int) ≤ (q : Int) := by omega
        clear x0 x1 x2 x3 x4 x5 y0 y1 y2 y3 y4 y5
        have bx4 := (Blk.six (BX.out.after BQ.out)).1.2.2.2.2.1
        have by4 := (Blk.six (BY.out.after BQ.out)).1.2.2.2.2.1
        by_cases hlq : (q : Int) < m
        · have hqm : q < m := by omega
          have u1 := U1.out.after BQ.out
          have u2 := U2.out.after BQ.out
          obtain ⟨ga, oa, e1, -, d1⟩ := u1 (by rw [HM.out]; omega)
          obtain ⟨gb, ob, e2, -, d2⟩ := u2 (by rw [HM.out]; omega)
          have d1q := d1 q (by rw [HM.out]; exact hqm)
          have d2q := d2 q (by rw [HM.out]; exact hqm)
          rw [e1] at bx4
          rw [e2] at by4
          have DR : Hid (∀ z, Below wr.heap.size wr (wr.drewN z)) := Lib.hid fun z => below_drewN (Below.refl _ _) z
          generalize bAt nn q = val at *
          clear d1 d2 u1 u2 e1 e2 s1 s2 t1 t2
          go_wp2_with fail
          go_quiet (fail)
          have V3 := Lib.hid (below_next' BQ.out (DR.out nq))
          clear DR
          generalize wr.drewN nq = wq at *
          go_wp2_with fail
          go_round
          case rel => exact ⟨q + 1, by go_num, by omega, V3⟩
          case measure => simp [intOf]; omega
        · have hqm : q = m := by omega
          subst hqm
          have V3 := Lib.hid (below_next' V2.out BQ.out)
          clear s1 s2 t1 t2
          go_wp2_with fail
          go_round
          case rel => exact ⟨j + 1, by go_num, by omega, V3⟩
          case measure => simp [intOf]; omega
    · have hjn : j = n := by omega
      subst hjn
      go_wp2_with fail
      go_ret
      exact ⟨rfl, V.out⟩
end Go.Proofs.YtlbhffdpklbhfaaGreat
