/-
  Texts, one behind the other: Mach2, MachEnv2, MachLaw, MachAlso, MachTen.
  Conditions: those that each theorem states.
-/
import Derived.Deep.RegionHeld3
import Derived.Test.YtlbhffdpklbhfaaGreatPz24
import Derived.Test.YtlbhffdpklbhfaaGreatPz8
import Derived.Deep.DeepCutAuto
import Derived.Test.YtlbhffdpklbhfaaGreatPz50
import Derived.LoopTactic
import Derived.Test.YtlbhffdpklbhfaaGreatPz29
import Derived.Test.YtlbhffdpklbhfaaGreatPz49
import Derived.Test.YtlbhffdpklbhfaaGreatPz48
namespace Go.Proofs.YtlbhffdpklbhfaaGreat
open Go.RowKit
set_option maxRecDepth 100000
set_option linter.unusedVariables false
set_option linter.unusedSimpArgs false
def regI (S : MS) (i : Int) : Int × Bool := if 0 ≤ i ∧ i < 11 then rg S.r i.toNat else (0, false)
set_option maxHeartbeats 1000000 in
theorem m11_Reg (w : World) (g : Nat) (S : MS) (H : Nat → Prop) (i : Int) (h : (sysX g S).R w H) :
    Calls Tryz.prog 16 #[.pointer (some ⟨g, 0, none⟩), .int .i64 i] w (Gives (.tuple #[.int .u64 (regI S i).1, .bool (regI S i).2]) w) := by
  have D := Lib.hid fun n => below_drewN (Below.refl w.heap.size w) n
  unfold regI
  by_cases h0 : 0 ≤ i
  · by_cases h1 : i < 11
    · rw [if_pos ⟨h0, h1⟩]
      obtain ⟨k, rfl⟩ : ∃ k : Nat, i = k := ⟨i.toNat, by omega⟩
      obtain ⟨c0, c1⟩ := sysX_reg h k (by omega)
      rw [Int.toNat_natCast]
      clear h
      generalize (rg S.r k).1 = n at *
      generalize (rg S.r k).2 = b at *
      go_enter Tryz.func16, Tryz.ntmps16
      go_wp2_with fail
      go_quiet (fail)
      go_wp2_with fail
      go_ret2
      exact ⟨rfl, D.out _⟩
    · rw [if_neg (by omega)]
      have h1' : (11 : Int) ≤ i := by omega
      go_enter Tryz.func16, Tryz.ntmps16
      go_wp2_with fail
      go_ret2
      exact ⟨rfl, Below.refl _ _⟩
  · rw [if_neg (by omega)]
    have h0' : i < 0 := by omega
    go_enter Tryz.func16, Tryz.ntmps16
    go_wp2_with fail
    go_ret2
    exact ⟨rfl, Below.refl _ _⟩
end Go.Proofs.YtlbhffdpklbhfaaGreat
namespace Go.Proofs.YtlbhffdpklbhfaaGreat
open Go.RowKit
set_option maxRecDepth 100000
set_option linter.unusedVariables false
set_option linter.unusedSimpArgs false
set_option maxHeartbeats 8000000 in
theorem l11_env (w : World) (E : EV) (hE : EnvS w E) (hok : E.raw) : Calls Tryz.prog 10 #[envV E] w (EnvW E w) := by
  obtain ⟨ctx, ca, cc, D, da, dc, L, ia, ic, dr, na, nc⟩ := E
  unfold envV
  have b4 := hok.c.2
  have b5 := hok.d
  have b6 := hok.i.2
  have b7 := hok.n.2
  dsimp only at *
  unfold maxLen at b4 b5 b6 b7
  have HE := Lib.hid hE
  have HOK := Lib.hid hok
  clear hE hok
  have t1 := tl 100 ctx
  have t2 := tl 10 D
  have t3 := tl 100 dr
  have l1 : (ctx.take 100).length ≤ cc := by rw [List.length_take]; omega
  have l2 : (D.take 10).length ≤ dc := by rw [List.length_take]; omega
  have l3 : (dr.take 100).length ≤ nc := by rw [List.length_take]; omega
  generalize e1 : (ctx.take 100).length = n1 at *
  generalize e2 : (D.take 10).length = n2 at *
  generalize e3 : (dr.take 100).length = n3 at *
  have N1 := Lib.hid e1
  have N2 := Lib.hid e2
  have N3 := Lib.hid e3
  clear e1 e2 e3
  have m1 : ∀ u, (Builtin.min_ #[3, 3] 3 #[.int .i64 (ctx.length : Int), .int .i64 100]).run Tryz.prog u = .ok (.int .i64 (n1 : Int)) u := fun u => min_run u ctx.length 100 n1 t1
  have m2 : ∀ u, (Builtin.min_ #[3, 3] 3 #[.int .i64 (D.length : Int), .int .i64 10]).run Tryz.prog u = .ok (.int .i64 (n2 : Int)) u := fun u => min_run u D.length 10 n2 t2
  have m3 : ∀ u, (Builtin.min_ #[3, 3] 3 #[.int .i64 (dr.length : Int), .int .i64 100]).run Tryz.prog u = .ok (.int .i64 (n3 : Int)) u := fun u => min_run u dr.length 100 n3 t3
  clear t1 t2 t3
  have i1 : (0 : Int) ≤ (n1 : Int) ∧ (n1 : Int) ≤ (cc : Int) := by omega
  have i2 : (0 : Int) ≤ (n2 : Int) ∧ (n2 : Int) ≤ (dc : Int) := by omega
  have i3 : (0 : Int) ≤ (n3 : Int) ∧ (n3 : Int) ≤ (nc : Int) := by omega
  obtain ⟨i1, j1⟩ := i1
  obtain ⟨i2, j2⟩ := i2
  obtain ⟨i3, j3⟩ := i3
  go_enter Tryz.func10, Tryz.ntmps10
  go_upto_region 1 with fail
  have b1 := below_alloc (Below.refl w.heap.size w) (.cells #[.slice ca ctx.length cc, .slice da D.length dc, .slice ia L.length ic, .slice na dr.length nc] 28)
  have x1 := Blk.new w #[.slice ca ctx.length cc, .slice da D.length dc, .slice ia L.length ic, .slice na dr.length nc] 28 (g := w.heap.size) rfl
  have s1 : (w.alloc (.cells #[.slice ca ctx.length cc, .slice da D.length dc, .slice ia L.length ic, .slice na dr.length nc] 28)).heap.size = w.heap.size + 1 := by simp
  have x2 := Blk.new (w.alloc (.cells #[.slice ca ctx.length cc, .slice da D.length dc, .slice ia L.length ic, .slice na dr.length nc] 28)) #[.slice none 0 0, .slice none 0 0, .slice none 0 0, .slice none 0 0] 28 (g := w.heap.size + 1) s1.symm
  have BB := Lib.hid (below_alloc b1 (.cells #[.slice none 0 0, .slice none 0 0, .slice none 0 0, .slice none 0 0] 28))
  have XI := Lib.hid (x1.after (below_alloc (Below.refl _ _) (.cells #[.slice none 0 0, .slice none 0 0, .slice none 0 0, .slice none 0 0] 28)))
  have XO := Lib.hid x2
  have S2 : Hid (((w.alloc (.cells #[.slice ca ctx.length cc, .slice da D.length dc, .slice ia L.length ic, .slice na dr.length nc] 28)).alloc (.cells #[.slice none 0 0, .slice none 0 0, .slice none 0 0, .slice none 0 0] 28)).heap.size = w.heap.size + 2) := Lib.hid (by simp)
  clear b1 x1 s1 x2
  generalize hw1 : (w.alloc (.cells #[.slice ca ctx.length cc, .slice da D.length dc, .slice ia L.length ic, .slice na dr.length nc] 28)).alloc (.cells #[.slice none 0 0, .slice none 0 0, .slice none 0 0, .slice none 0 0] 28) = w1 at *
  clear hw1
  go_cut [3] (fun tv wr => ∃ gT, tv = .pointer (some ⟨gT, 0, none⟩) ∧ Hid (ES w (.slice ca ctx.length cc) (.slice da D.length dc) (.slice ia L.length ic) (.slice na dr.length nc) gT (.slice ca n1 cc) (.slice da n2 dc) (.slice none 0 0) (.slice na n3 nc) wr))
  case first =>
    have HB : Below w1.heap.size w1 w1.drew := Below.drew (Below.refl _ _)
    have HA : Below w1.heap.size w1 ((w1.alloc (.cells #[.slice none 0 0, .slice none 0 0, .slice none 0 0, .slice none 0 0] 28)).drew) := Below.drew (below_alloc (Below.refl _ _) _)
    have BA : Hid (Blk w1.heap.size #[.slice none 0 0, .slice none 0 0, .slice none 0 0, .slice none 0 0] 28 ((w1.alloc (.cells #[.slice none 0 0, .slice none 0 0, .slice none 0 0, .slice none 0 0] 28)).drew)) := Lib.hid (Blk.new w1 _ _ rfl)
    obtain ⟨-, f0, f1, f2, f3⟩ := Blk.fou BA.out
    have KK := Lib.hid fun u (b : Below w1.heap.size w1 u) => (show _ from (by
      obtain ⟨⟨q0, q1, q2, q3⟩, -⟩ := Blk.fou (XI.out.after b)
      exact ⟨q0, q1, q3⟩) : u.cell? ⟨w.heap.size, 0, none⟩ = some (.slice ca ctx.length cc) ∧ u.cell? ⟨w.heap.size, 1, none⟩ = some (.slice da D.length dc) ∧ u.cell? ⟨w.heap.size, 3, none⟩ = some (.slice na dr.length nc))
    go_region_held3 (fun w' => w'.cell? ⟨w.heap.size, 0, none⟩ = some (.slice ca ctx.length cc) ∧ w'.cell? ⟨w.heap.size, 1, none⟩ = some (.slice da D.length dc) ∧ w'.cell? ⟨w.heap.size, 3, none⟩ = some (.slice na dr.length nc))
      (first
        | with_reducible exact KK.out _ HB
        | with_reducible exact KK.out _ HA
        | with_reducible exact KK.out _ (below_alloc HB _)
        | with_reducible exact KK.out _ (Below.drew (below_alloc (Below.refl _ _) _))
        | with_reducible exact KK.out _ (below_alloc (Below.refl _ _) _)
        | with_reducible exact KK.out _ (fou_b HA (Nat.le_refl _) _ _ _ _)
        | with_reducible exact KK.out _ (Below.drew (fou_b (below_alloc (Below.refl _ _) _) (Nat.le_refl _) _ _ _ _)))
      (first | fail)
    all_goals
      rename_i hh
      clear hh
      try clear f0 f1 f2 f3
      go_wp2_with fail
      go_meet
      first
        | exact ⟨_, rfl, Lib.hid (es_new BB.out XI.out XO.out S2.out)⟩
        | exact ⟨_, rfl, Lib.hid (es_set BB.out XI.out XO.out S2.out)⟩
  case rest =>
    obtain ⟨gT, rfl, Q⟩ := hcut
    have J0 : Hid (EJ w wc.heap.size (.slice ca ctx.length cc) (.slice da D.length dc) (.slice ia L.length ic) (.slice na dr.length nc) gT (.slice ca n1 cc) (.slice da n2 dc) (.slice na n3 nc) L 0 (.slice none 0 0) [] (fun _ => False) wc) :=
      Lib.hid ⟨Q.out, ⟨Q.out.xt.lt, Nat.le_refl _⟩, World.ownsRow_nil _ _ _ _, rfl, fun x hx => hx.elim, fun _ _ k hk => absurd hk (Nat.not_lt_zero _), rfl, fun k hk => absurd hk (Nat.not_lt_zero _)⟩
    have HW : Hid (w.heap.size + 1 < wc.heap.size) := Lib.hid (by have := Q.out.gt; have := Q.out.xt.lt; omega)
    generalize wc.heap.size = B at J0 HW
    have y2 := (Blk.fou Q.out.xi).1.2.2.1
    clear BB XI XO S2 Q m1 m2 m3
    go_wp2_with fail
    go_loopw [34] (fun iv wr => ∃ (j : Nat) (v : Value) (L' : List IR) (K : Nat → Prop), iv = .int .i64 j ∧ j ≤ 10 ∧ j ≤ L.length ∧ Hid (EJ w B (.slice ca ctx.length cc) (.slice da D.length dc) (.slice ia L.length ic) (.slice na dr.length nc) gT (.slice ca n1 cc) (.slice da n2 dc) (.slice na n3 nc) L j v L' K wr)) (fun iv wr => L.length - (intOf iv).toNat)
    case atStart => exact ⟨0, _, _, _, rfl, by omega, by omega, J0⟩
    case round =>
      obtain ⟨j, v, L', K, rfl, hj10, hj, J⟩ := hrel
      by_cases hlt : (j : Int) < L.length
      · have hjn : j < L.length := by omega
        obtain ⟨g, o, hA, hg, hc⟩ := (HE.out.after J.out.s.below).i (by show 0 < L.length; omega)
        have c0 := (hc j hjn).1
        by_cases h10 : j < 10
        · skip
          have ROW : Hid (∀ u, Below w.heap.size w u → ItmS u (irAt L j).a (irAt L j).l) := Lib.hid fun u b => by
            obtain ⟨_, _, _, _, hc2⟩ := (HE.out.after b).i (by show 0 < L.length; omega)
            exact (hc2 j hjn).2
          have JN := Lib.hid fun u' (k : Below wr.heap.size wr u') A m cp hm o => J.out.next (A := A) (m := m) (cp := cp) k hjn (by omega) (by have := HW.out; omega) hm o
          have SJ := Lib.hid J.out.s
          have CAPS := Lib.hid ((HOK.out.i.1 j hjn).2)
          have bj := J.out.s.below
          have BJ := Lib.hid bj
          subst hA
          clear hc J bj HE HOK
          generalize wr = w5 at *
          generalize irAt L j = r at *
          have RN := Lib.hid fun k (hk : k < r.l.length) => eRow_next (l := r.l) hk
          have rcap := CAPS.out
          unfold maxLen at rcap
          by_cases hm0 : 0 < r.l.length
          · obtain ⟨gr, or, hra, -⟩ := ROW.out w5 BJ.out hm0
            have HRA := Lib.hid hra
            rw [hra] at c0
            clear hra
            go_wp2_with fail
            go_loopw [43, 6] (fun iv rv wr => ∃ (k : Nat) (A : Option Addr) (cp : Nat), iv = .int .i64 k ∧ rv = .slice A (eRow k r.l).length cp ∧ k ≤ r.l.length ∧ Hid (Below w5.heap.size w5 wr ∧ wr.ownsRow w5.heap.size 84 2 (.slice A (eRow k r.l).length cp) (eRow k r.l).length (iC (eRow k r.l)))) (fun iv rv wr => r.l.length - (intOf iv).toNat)
            case atStart => exact ⟨0, none, 0, rfl, by simp [eRow], by omega, Lib.hid ⟨Below.refl _ _, by simp only [eRow, Nat.zero_min, List.take_zero, List.filter_nil, List.length_nil]; exact World.ownsRow_nil _ _ _ _⟩⟩
            case round =>
              obtain ⟨k, A, cp, rfl, rfl, hk, I⟩ := hrel
              by_cases hlt2 : (k : Int) < r.l.length
              · have hkm : k < r.l.length := by omega
                obtain ⟨gr', or', hra', hgr, hcl⟩ := ROW.out wr (below_next' BJ.out I.out.1) hm0
                rw [HRA.out] at hra'
                cases hra'
                obtain ⟨⟨y0, y1⟩, -, -⟩ := hcl k hkm
                clear hcl
                have hel := eRow_len k r.l
                by_cases hk20 : k < 20
                · by_cases hs1 : (xAt r.l k).k.length ≤ 80
                  · by_cases hs2 : (xAt r.l k).v.length ≤ 80
                    · have q : eRow (k + 1) r.l = eRow k r.l ++ [xAt r.l k] := by rw [RN.out k hkm, if_pos ⟨hk20, by unfold shortI; rw [decide_eq_true hs1, decide_eq_true hs2]; rfl⟩]
                      have QQ := Lib.hid q
                      have b1 := below_alloc (Below.refl wr.heap.size wr) (.cells #[.slice (xAt r.l k).a (xAt r.l k).k.length (xAt r.l k).c, .slice (xAt r.l k).b (xAt r.l k).v.length (xAt r.l k).d] 84)
                      have b2 := below_next' b1 (below_alloc (Below.refl _ _) (.cells #[.slice (xAt r.l k).a (xAt r.l k).k.length (xAt r.l k).c, .slice (xAt r.l k).b (xAt r.l k).v.length (xAt r.l k).d] 84))
                      obtain ⟨v', w9, hr, ho, hg9⟩ := run_item (own_after I.out.2 b2) rfl (by omega) (Nat.le_trans I.out.1.size b2.size) (xAt r.l k) (Blk.new (wr.alloc (.cells #[.slice (xAt r.l k).a (xAt r.l k).k.length (xAt r.l k).c, .slice (xAt r.l k).b (xAt r.l k).v.length (xAt r.l k).d] 84)) _ 84 rfl)
                      obtain ⟨A', cp', rfl, -, -⟩ := own_slice ho
                      have IX : Hid (Below w5.heap.size w5 w9 ∧ w9.ownsRow w5.heap.size 84 2 (.slice A' ((eRow k r.l).length + 1) cp') ((eRow k r.l).length + 1) (iC (eRow k r.l ++ [xAt r.l k]))) := Lib.hid ⟨below_own (below_next' I.out.1 b2) (own_after I.out.2 b2) (Nat.le_trans I.out.1.size b2.size) hg9, ho⟩
                      clear q RN b1 b2 ho hg9
                      have BK := Lib.hid (Blk.new wr #[.slice (xAt r.l k).a (xAt r.l k).k.length (xAt r.l k).c, .slice (xAt r.l k).b (xAt r.l k).v.length (xAt r.l k).d] 84 (g := wr.heap.size) rfl)
                      go_upto_region 11 with fail
                      generalize hwa : (wr.alloc (.cells #[.slice (xAt r.l k).a (xAt r.l k).k.length (xAt r.l k).c, .slice (xAt r.l k).b (xAt r.l k).v.length (xAt r.l k).d] 84)) = wa at *
                      clear hwa
                      have p : wa.cell? ⟨wr.heap.size, 0, none⟩ = some (.slice (xAt r.l k).a (xAt r.l k).k.length (xAt r.l k).c) ∧ wa.cell? ⟨wr.heap.size, 1, none⟩ = some (.slice (xAt r.l k).b (xAt r.l k).v.length (xAt r.l k).d) := ⟨Blk.cell BK.out 0, Blk.cell BK.out 1⟩
                      obtain ⟨p0, p1⟩ := p
                      clear y0 y1 BK
                      go_wp2_with ((at_builtin; refine Lib.wpList_append_run _ rfl (.tmp 62) (.tmp 64) _ _ rfl _ _ rfl rfl _ _ hr ?_))
                      go_round
                      case rel => exact ⟨k + 1, A', cp', by go_num, by rw [QQ.out, List.length_append, List.length_singleton], by omega, Lib.hid (by rw [QQ.out, List.length_append, List.length_singleton]; exact IX.out)⟩
                      case measure => simp [intOf]; omega
                    · skip
                      have q : eRow (k + 1) r.l = eRow k r.l := by rw [RN.out k hkm, if_neg (by rintro ⟨_, c⟩; unfold shortI at c; rw [decide_eq_false hs2, Bool.and_false] at c; cases c)]
                      have QQ := Lib.hid q
                      clear q RN
                      go_wp2_with fail
                      go_round
                      case rel => exact ⟨k + 1, A, cp, by go_num, by rw [QQ.out], by omega, Lib.hid (by rw [QQ.out]; exact ⟨below_alloc I.out.1 _, own_after I.out.2 (below_alloc (Below.refl _ _) _)⟩)⟩
                      case measure => simp [intOf]; omega
                  · skip
                    have q : eRow (k + 1) r.l = eRow k r.l := by rw [RN.out k hkm, if_neg (by rintro ⟨_, c⟩; unfold shortI at c; rw [decide_eq_false hs1, Bool.false_and] at c; cases c)]
                    have QQ := Lib.hid q
                    clear q RN
                    go_wp2_with fail
                    go_round
                    case rel => exact ⟨k + 1, A, cp, by go_num, by rw [QQ.out], by omega, Lib.hid (by rw [QQ.out]; exact ⟨below_alloc I.out.1 _, own_after I.out.2 (below_alloc (Below.refl _ _) _)⟩)⟩
                    case measure => simp [intOf]; omega
                · skip
                  have q : eRow (k + 1) r.l = eRow k r.l := by rw [RN.out k hkm, if_neg (by rintro ⟨c, _⟩; exact hk20 c)]
                  have QQ := Lib.hid q
                  clear q RN
                  go_wp2_with fail
                  go_round
                  case rel => exact ⟨k + 1, A, cp, by go_num, by rw [QQ.out], by omega, Lib.hid (by rw [QQ.out]; exact ⟨below_alloc I.out.1 _, own_after I.out.2 (below_alloc (Below.refl _ _) _)⟩)⟩
                  case measure => simp [intOf]; omega
              · have hkm : k = r.l.length := by omega
                subst hkm
                obtain ⟨v', u2, hr, ⟨q1, q2⟩, L2, K2, J2⟩ := JN.out _ I.out.1 A _ cp rfl I.out.2
                obtain ⟨va', vc', rfl, -, -⟩ := own_slice J2.row
                have JX := Lib.hid J2
                have yt := (Blk.fou ((SJ.out.after I.out.1).xt)).1.2.2.1
                clear J2 JN
                go_wp2_with ((at_builtin; refine Lib.wpList_append_run _ rfl (.tmp 68) (.tmp 70) _ _ rfl _ _ rfl rfl _ _ hr ?_))
                go_round
                case rel => exact ⟨j + 1, _, L2, K2, by go_num, by omega, by omega, JX⟩
                case measure => simp [intOf]; omega
          · have hz : r.l.length = 0 := by omega
            have HZ := Lib.hid hz
            have hnil : r.l = [] := List.eq_nil_of_length_eq_zero hz
            have E0 : Hid (eRow r.l.length r.l = []) := Lib.hid (by rw [hnil]; rfl)
            clear RN hnil
            generalize r.l.length = rn at *
            subst hz
            go_wp2_with fail
            go_loopw [43, 6] (fun iv rv wr => iv = .int .i64 0 ∧ rv = .slice none 0 0 ∧ wr = w5) (fun iv rv wr => 0)
            case atStart => exact ⟨rfl, rfl, rfl⟩
            case round =>
              obtain ⟨rfl, rfl, rfl⟩ := hrel
              obtain ⟨v', u2, hr, ⟨q1, q2⟩, L2, K2, J2⟩ := JN.out _ (Below.refl _ _) none _ 0 (by rw [E0.out]) (by rw [E0.out]; exact World.ownsRow_nil _ _ _ _)
              obtain ⟨va', vc', rfl, -, -⟩ := own_slice J2.row
              have JX := Lib.hid J2
              have yt := (Blk.fou ((SJ.out.after (Below.refl _ _)).xt)).1.2.2.1
              clear J2 JN
              go_wp2_with ((at_builtin; refine Lib.wpList_append_run _ rfl (.tmp 68) (.tmp 70) _ _ rfl _ _ rfl rfl _ _ hr ?_))
              go_round
              case rel => exact ⟨j + 1, _, L2, K2, by go_num, by omega, by omega, JX⟩
              case measure => simp [intOf]; omega
        · have e10 : j = 10 := by omega
          subst e10
          subst hA
          clear hc
          obtain ⟨ia', ic', rfl, hl2, FINX⟩ := EJ.done HE.out HOK.out (by rw [N1.out, N2.out, N3.out]; exact J.out) HW.out rfl (Nat.le_of_lt hjn)
          have FF := Lib.hid FINX
          have hl3 := Lib.hid hl2
          obtain ⟨⟨z0, z1, z2, z3⟩, -⟩ := Blk.fou J.out.s.xt
          obtain ⟨⟨x0, x1, x2, x3⟩, f0, f1, f2, f3⟩ := Blk.fou J.out.s.xo
          have Z4 := Lib.hid (Blk.fou (fou_blk J.out.s.xo (.slice ca n1 cc) (.slice da n2 dc) (.slice ia' 10 ic') (.slice na n3 nc))).1
          clear FINX hl2
          go_wp2_with fail
          have FIN := FF.out
          obtain ⟨r0, r1, r2, r3⟩ := Z4.out
          rw [N1.out, N2.out, N3.out] at FIN
          unfold fou at r0 r1 r2 r3 FIN
          exact bodyPost_ret (v := .agg #[.slice ca n1 cc, .slice da n2 dc, .slice ia' 10 ic', .slice na n3 nc]) (by simp [results, Tryz.results10, go_sem, r0, r1, r2, r3]) rfl FIN
      · have hjn : j = L.length := by omega
        subst hjn
        obtain ⟨ia', ic', rfl, hl2, FINX⟩ := EJ.done HE.out HOK.out (by rw [N1.out, N2.out, N3.out]; exact J.out) HW.out (by rw [List.take_of_length_le (Nat.le_refl _), List.take_of_length_le hj10]) (Nat.le_refl _)
        have FF := Lib.hid FINX
        have hl3 := Lib.hid hl2
        obtain ⟨⟨z0, z1, z2, z3⟩, -⟩ := Blk.fou J.out.s.xt
        obtain ⟨⟨x0, x1, x2, x3⟩, f0, f1, f2, f3⟩ := Blk.fou J.out.s.xo
        have Z4 := Lib.hid (Blk.fou (fou_blk J.out.s.xo (.slice ca n1 cc) (.slice da n2 dc) (.slice ia' L.length ic') (.slice na n3 nc))).1
        clear FINX hl2
        go_wp2_with fail
        have FIN := FF.out
        obtain ⟨r0, r1, r2, r3⟩ := Z4.out
        rw [N1.out, N2.out, N3.out] at FIN
        unfold fou at r0 r1 r2 r3 FIN
        exact bodyPost_ret (v := .agg #[.slice ca n1 cc, .slice da n2 dc, .slice ia' L.length ic', .slice na n3 nc]) (by simp [results, Tryz.results10, go_sem, r0, r1, r2, r3]) rfl FIN
end Go.Proofs.YtlbhffdpklbhfaaGreat
namespace Go.Proofs.YtlbhffdpklbhfaaGreat
open Go.RowKit
set_option maxRecDepth 100000
set_option linter.unusedVariables false
set_option linter.unusedSimpArgs false
def mLaw (l : List Ins) (E : EV) : Option MS := mNew (l.take 520) (E.ctx.take 100) (E.D.take 10) ((eRows E.L).map itL) (E.dr.take 100)
theorem m11_NewLaw (u : World) (l : List Ins) (A : Option Addr) (c : Nat) (E : EV) (L' : List IR) (ia : Option Addr) (ic : Nat) (h : InsS u A l) (hx : OkAll l) (hc : l.length ≤ c) (hcm : c ≤ maxLen) (hs : EnvS u (cutE E L' ia ic)) (hk : (cutE E L' ia ic).ok) (hi : L'.map (·.l) = eRows E.L) :
    Calls Tryz.prog 8 #[.slice A (min 520 l.length) c, envV (cutE E L' ia ic)] u (NewM (mLaw l E) u) := by
  have q := m11_New u (l.take 520) A c (cutE E L' ia ic) (h.take 520) (hx.take 520) (by rw [List.length_take]; omega) (by rw [List.length_take]; omega) hcm hs hk
  have e : itLs L' = (eRows E.L).map itL := by rw [← hi, List.map_map]; rfl
  rw [List.length_take] at q
  unfold mLaw
  rw [← e]
  exact q
theorem law_can {l : List Ins} {E : EV} {S : MS} (hok : E.raw) (h : mLaw l E = some S) : S.can ∧ S.steps = 0 ∧ S.calls = [] ∧ S.over = false ∧ S.D = E.D.take 10 ∧ S.dr = E.dr.take 100 := by
  have e : (eRows E.L).map itL = itLs ((E.L.take 10).map fun r => ⟨none, r.c, eRow r.l.length r.l⟩) := by
    unfold eRows itLs
    rw [List.map_map, List.map_map]
    rfl
  unfold mLaw at h
  rw [e] at h
  refine new_can (fun k hk => ?_) h
  rw [List.length_map] at hk
  have hk2 : k < (E.L.take 10).length := hk
  rw [List.length_take] at hk2
  have e2 : irAt ((E.L.take 10).map fun r => (⟨none, r.c, eRow r.l.length r.l⟩ : IR)) k = ⟨none, (irAt E.L k).c, eRow (irAt E.L k).l.length (irAt E.L k).l⟩ := by
    unfold irAt
    rw [List.getD_eq_getElem?_getD, List.getD_eq_getElem?_getD, List.getElem?_map, List.getElem?_take, if_pos (by omega), List.getElem?_eq_getElem (by omega)]
    rfl
  rw [e2]
  obtain ⟨h1, h2, h3⟩ := hok.i.1 k (by omega)
  have hl := eRow_len (irAt E.L k).l.length (irAt E.L k).l
  have hl2 : (eRow (irAt E.L k).l.length (irAt E.L k).l).length ≤ (irAt E.L k).l.length := by
    have q := List.length_filter_le shortI ((irAt E.L k).l.take (min (irAt E.L k).l.length 20))
    rw [List.length_take] at q
    unfold eRow
    omega
  refine ⟨Nat.le_trans hl (by omega), fun j hj => ?_, Nat.le_trans hl2 h2, h3⟩
  obtain ⟨i, hi, ei⟩ := eRow_mem hj
  show ItmOk (xAt (eRow (irAt E.L k).l.length (irAt E.L k).l) j)
  rw [ei]
  exact h1 i hi
end Go.Proofs.YtlbhffdpklbhfaaGreat
namespace Go.Proofs.YtlbhffdpklbhfaaGreat
open Go.RowKit
set_option maxRecDepth 100000
set_option linter.unusedVariables false
set_option linter.unusedSimpArgs false
abbrev endC (S : MS) (va : Option Addr) (ca : Nat) (vm : Option Addr) (cm : Nat) : Array Value := #[.int .i64 (mCode S), .int .i64 S.at_, .int .u64 (mR0 S), .int .i64 S.steps, .slice va S.calls.length ca, .slice vm S.D.length cm]
end Go.Proofs.YtlbhffdpklbhfaaGreat
namespace Go.Proofs.YtlbhffdpklbhfaaGreat
open Go.RowKit
set_option maxRecDepth 100000
set_option linter.unusedVariables false
set_option linter.unusedSimpArgs false
structure MS.pl (S : MS) : Prop where
  l : OkAll S.l
  chk : (chk S.l).2 = 0
  at_ : S.at_ < S.l.length ∧ stAt S.l S.at_ = true
theorem dst_ten {x : Ins} (h : Go.Proofs.YtlbhffdpklbhfaaGreat.wOk x = true) (k6 : (wOf x).kind ≠ 6) (k7 : (wOf x).kind ≠ 7) (k8 : (wOf x).kind ≠ 8) (k9 : (wOf x).kind ≠ 9) (k10 : (wOf x).kind ≠ 10) (k11 : (wOf x).kind ≠ 11) (k12 : (wOf x).kind ≠ 12) : x.dst ≠ 10 := by
  rw [wOf_of h] at k6 k7 k8 k9 k10 k11 k12
  unfold waW at k6 k7 k8 k9 k10 k11 k12
  unfold Go.Proofs.YtlbhffdpklbhfaaGreat.wOk at h
  split at h
  · cases h
  · rename_i hc
    rw [if_neg hc] at k6 k7 k8 k9 k10 k11 k12
    split at h
    · rename_i ho
      rw [if_pos ho] at k6 k7 k8 k9 k10 k11 k12
      unfold otOk at h
      unfold otW at k6 k7 k8 k9 k10 k11 k12
      split at h
      · intro e; rw [e] at h; simp at h
      · rename_i h1
        rw [if_neg h1] at k6 k7 k8 k9 k10 k11 k12
        split at h
        · intro e; rw [e] at h; simp at h
        · rename_i h2
          rw [if_neg h2] at k6 k7 k8 k9 k10 k11 k12
          split at h
          · rename_i h3
            exact absurd (by rw [h3]; rfl) k9
          · rename_i h3
            split at h
            · rename_i h4
              exact absurd (by rw [h4]; simp) k9
            · rename_i h4
              have h34 : (x.op == 5 || x.op == 6) = false := by
                cases q : (x.op == 5)
                · cases q2 : (x.op == 6)
                  · rfl
                  · exact absurd q2 h4
                · exact absurd q h3
              rw [h34, if_neg Bool.false_ne_true] at k11 k12
              split at h
              · rename_i h5
                rw [if_pos h5] at k11
                exact absurd rfl k11
              · rename_i h5
                rw [if_neg h5] at k12
                split at h
                · rename_i h6
                  rw [if_pos h6] at k12
                  exact absurd rfl k12
                · cases h
    · rename_i ho
      rw [if_neg ho] at k6 k7 k8 k9 k10 k11 k12
      split at h
      · unfold arOk at h
        intro e
        rw [e] at h
        simp at h
      · rename_i ha
        rw [if_neg ha] at k6 k7 k8 k9 k10 k11 k12
        split at h
        · rename_i hb
          rw [if_pos hb] at k10
          exact absurd rfl k10
        · rename_i hb
          rw [if_neg hb] at k6 k7 k8 k9 k10 k11 k12
          unfold meOk at h
          unfold meW at k6 k7 k8
          split at h
          · intro e; rw [e] at h; simp at h
          · rename_i m1
            rw [if_neg m1] at k6 k7 k8
            split at h
            · rename_i m2
              rw [if_pos m2] at k6
              exact absurd rfl k6
            · rename_i m2
              rw [if_neg m2] at k7 k8
              split at h
              · rename_i m3
                rw [if_pos m3] at k7
                exact absurd rfl k7
              · rename_i m3
                rw [if_neg m3] at k8
                split at h
                · rename_i m4
                  rw [if_pos m4] at k8
                  exact absurd rfl k8
                · cases h
theorem rg_set {r : List (Int × Bool)} {i j : Nat} (h : i ≠ j) (v : Int × Bool) : rg (r.set i v) j = rg r j := by
  unfold rg
  rw [List.getD_eq_getElem?_getD, List.getD_eq_getElem?_getD, List.getElem?_set_ne h]
theorem mDone_ten (S : MS) (c : Cl) (t : TS) : rg (mDone S c t).1.r 10 = rg S.r 10 := by
  unfold mDone
  split
  · show rg ((left5 S.r).set 0 (t.n, true)) 10 = _
    rw [rg_set (by decide)]
    unfold left5
    rw [rg_set (by decide), rg_set (by decide), rg_set (by decide), rg_set (by decide), rg_set (by decide)]
  · rfl
theorem mCall_ten (S : MS) (id : Int) : rg (mCall S id).1.r 10 = rg S.r 10 := by
  unfold mCall
  split
  · split
    · exact mDone_ten _ _ _
    · rfl
  · rfl
theorem pDo_ten {S : MS} (h : S.pl) : rg (pDo S).S.r 10 = rg S.r 10 := by
  have hw : Go.Proofs.YtlbhffdpklbhfaaGreat.wOk (iAt S.l S.at_) = true := whole_ok ((chk_ok h.chk).2.1 _ h.at_.1 h.at_.2)
  have hx : (iAt S.l S.at_).ok := h.l _ h.at_.1
  have ht := @dst_ten _ hw
  rw [pDo_eq]
  unfold pDoX
  split
  · split <;> rfl
  · rename_i k12
    split
    · rfl
    · rename_i k9
      split
      · rfl
      · rename_i k10
        split
        · exact mCall_ten _ _
        · rename_i k11
          split
          · rfl
          · rename_i k6
            split
            · show rg ((S.r).set (iAt S.l S.at_).dst.toNat _) 10 = _
              simp only [beq_iff_eq, Bool.or_eq_true, not_or] at k12 k9 k10 k11 k6
              have hd := ht k6.1 k6.2.1 k6.2.2 k9 k10 k11 k12
              obtain ⟨_, h1, _⟩ := hx
              exact rg_set (by omega) _
            · rfl
theorem pDo_nextP {S : MS} (h : S.pl) (he : (pDo S).e = 0) : ∃ m : Nat, (pDo S).next = m ∧ m < S.l.length ∧ stAt S.l m = true := by
  have hj : jumpy (iAt S.l S.at_) = true → ∃ m : Nat, tgOf S.l S.at_ = m ∧ m < S.l.length ∧ stAt S.l m = true := (target_in h.chk h.at_.1 h.at_.2).2
  have hn : ends (iAt S.l S.at_) = false → ∃ m : Nat, nextOf S.l S.at_ = m ∧ m < S.l.length ∧ stAt S.l m = true := fun hf => by
    obtain ⟨h1, h2⟩ := next_in h.chk h.at_.1 h.at_.2 hf
    refine ⟨nxt S.l S.at_, ?_, h1, h2⟩
    unfold nextOf
    rw [if_neg (by have := h.at_.1; omega), Int.toNat_natCast]
  rw [pDo_eq] at he ⊢
  unfold pDoX at he ⊢
  unfold ends at hn
  unfold jumpy at hj
  generalize hv : wOf (iAt S.l S.at_) = v at *
  cases k12 : (v.kind == 12)
  rotate_left 1
  · rw [if_pos rfl]
    refine ⟨S.at_, ?_, h.at_⟩
    split <;> rfl
  rw [k12, if_neg Bool.false_ne_true] at he
  rw [if_neg Bool.false_ne_true]
  cases k9 : (v.kind == 9)
  rotate_left 1
  · rw [if_pos rfl]
    exact hj (by rw [k9]; rfl)
  rw [k12, k9] at hn
  have hn' := hn rfl
  rw [k9, if_neg Bool.false_ne_true] at he
  rw [if_neg Bool.false_ne_true]
  cases k10 : (v.kind == 10)
  rotate_left 1
  · rw [if_pos rfl]
    rw [k10, if_pos rfl] at he
    have hj' := hj (by rw [k10, k9]; rfl)
    show ∃ m : Nat, (mBranch S (iAt S.l S.at_) v).1 = m ∧ _
    unfold mBranch at he ⊢
    cases q1 : ((rd S (iAt S.l S.at_).dst).2 == 0)
    · rw [q1, if_neg Bool.false_ne_true] at he
      simp at q1
      exact absurd he q1
    · rw [q1, if_pos rfl] at he
      rw [if_pos rfl]
      cases q2 : ((mSec S (iAt S.l S.at_) v).2 == 0)
      · rw [q2, if_neg Bool.false_ne_true] at he
        simp at q2
        exact absurd he q2
      · rw [if_pos rfl]
        dsimp only
        split
        · exact hj'
        · exact hn'
  rw [k10, if_neg Bool.false_ne_true] at he
  rw [if_neg Bool.false_ne_true]
  cases k11 : (v.kind == 11)
  rotate_left 1
  · rw [if_pos rfl]
    exact hn'
  rw [k11, if_neg Bool.false_ne_true] at he
  rw [if_neg Bool.false_ne_true]
  split
  · exact hn'
  · rename_i hk
    rw [if_neg hk] at he
    split
    · exact hn'
    · rename_i hq
      rw [if_neg hq] at he
      exact absurd (by simpa using he) hq
theorem step_pl {S : MS} (h : S.pl) : (pStep S).1.pl := by
  have hs := pDo_same S
  unfold pStep
  split
  · exact h
  · split
    · rename_i he
      obtain ⟨m, h1, h2, h3⟩ := pDo_nextP h (by simpa using he)
      refine ⟨by show OkAll (pDo S).S.l; rw [hs.1]; exact h.l, by show (Go.Proofs.YtlbhffdpklbhfaaGreat.chk (pDo S).S.l).2 = 0; rw [hs.1]; exact h.chk, ?_⟩
      show (pDo S).next.toNat < (pDo S).S.l.length ∧ stAt (pDo S).S.l (pDo S).next.toNat = true
      rw [hs.1, h1, Int.toNat_natCast]
      exact ⟨h2, h3⟩
    · refine ⟨by show OkAll (pDo S).S.l; rw [hs.1]; exact h.l, by show (Go.Proofs.YtlbhffdpklbhfaaGreat.chk (pDo S).S.l).2 = 0; rw [hs.1]; exact h.chk, ?_⟩
      show (pDo S).S.at_ < (pDo S).S.l.length ∧ stAt (pDo S).S.l (pDo S).S.at_ = true
      rw [hs.1, hs.2.2.1]
      exact h.at_
theorem step_ten {S : MS} (h : S.pl) : rg (pStep S).1.r 10 = rg S.r 10 := by
  unfold pStep
  split
  · rfl
  · split
    · exact pDo_ten h
    · exact pDo_ten h
theorem run_inv {P : MS → Prop} (step : ∀ S, P S → P (pStep S).1) (n : Int) (S : MS) (h : P S) : P (pRun n S) := by
  generalize hk : (n - S.steps).toNat = k
  induction k generalizing S with
  | zero => rw [run_stop (.inr (by omega))]; exact h
  | succ k ih =>
    cases ho : S.over
    · rw [run_step ho (by omega)]
      rcases step_steps ho with h2 | h2
      · rw [run_stop (.inl h2)]; exact step S h
      · exact ih _ (step S h) (by rw [h2]; omega)
    · rw [run_stop (.inl ho)]; exact h
theorem run_ten (n : Int) {S : MS} (h : S.pl) : rg (pRun n S).r 10 = rg S.r 10 :=
  (run_inv (P := fun R => R.pl ∧ rg R.r 10 = rg S.r 10) (fun R q => ⟨step_pl q.1, (step_ten q.1).trans q.2⟩) n S ⟨h, rfl⟩).2
theorem run_D (n : Int) (S : MS) : (pRun n S).D = S.D := by
  refine run_inv (P := fun R => R.D = S.D) (fun R q => ?_) n S rfl
  unfold pStep
  split
  · exact q
  · split
    · exact (pDo_same R).2.2.2.trans q
    · exact (pDo_same R).2.2.2.trans q
def isD (i : Int) : Bool := i == 5 || (i == 7 || i == 8)
def cntD (l : List Cl) : Nat := (l.filter fun c => isD c.id).length
structure Drew (d : List Int) (S : MS) : Prop where
  left : S.dr = d.drop (cntD S.calls)
  le : cntD S.calls ≤ d.length
  at_ : ∀ j c, S.calls[j]? = some c → isD c.id = true → cntD (S.calls.take j) < d.length ∧ (c.id = 5 → c.ret = d.getD (cntD (S.calls.take j)) 0)
theorem cntD_app (a b : List Cl) : cntD (a ++ b) = cntD a + cntD b := by unfold cntD; rw [List.filter_append, List.length_append]
theorem hS_draws {i : Int} (h : (hOk i && (hS i).draws) = true) : isD i = true := by
  rcases hS_ways i with rfl | rfl | rfl | rfl | rfl | rfl | rfl | q
  · simp [hS] at h
  · simp [hS] at h
  · simp [hS] at h
  · rfl
  · simp [hS] at h
  · rfl
  · rfl
  · rw [(hS_none q).2] at h
    cases h
theorem mTells_draw (S : MS) (c : Cl) : ((mTells S c).e = 0 ∧ isD c.id = true ∧ ∃ n r, S.dr = n :: r ∧ (mTells S c).dr = r ∧ (c.id = 5 → (mTells S c).n = n)) ∨ ((isD c.id = false ∨ (mTells S c).e ≠ 0) ∧ (mTells S c).dr = S.dr) := by
  unfold mTells
  split
  · rename_i h
    exact .inr ⟨.inl (by rw [beq_iff_eq.mp h]; rfl), rfl⟩
  · split
    · rename_i h
      exact .inr ⟨.inl (by rw [beq_iff_eq.mp h]; rfl), rfl⟩
    · split
      · rename_i h
        exact .inr ⟨.inl (by rw [beq_iff_eq.mp h]; rfl), rfl⟩
      · split
        · rename_i h
          exact .inr ⟨.inl (by rw [beq_iff_eq.mp h]; rfl), rfl⟩
        · split
          · rename_i h
            unfold hDr at h
            split at h
            · rename_i hk
              have hD := hS_draws hk
              split at h
              · simp at h
              · rename_i n r hl
                left
                have e1 : S.dr = n :: S.dr.drop 1 := by
                  cases hd : S.dr with
                  | nil => rw [hd] at hl; simp at hl
                  | cons a t => rw [hd] at hl; simp at hl; rw [hl.1]; rfl
                refine ⟨rfl, hD, n, S.dr.drop 1, e1, rfl, fun h5 => ?_⟩
                show (hDr c.id (S.dr.take 1)).1 = n
                unfold hDr
                rw [if_pos hk, hl]
                show hCut n (hS c.id).most = n
                rw [h5]
                rfl
            · simp at h
          · rename_i h
            refine .inr ⟨.inr ?_, rfl⟩
            show (hDr c.id (S.dr.take 1)).2.2 ≠ 0
            simpa using h
theorem Drew.of {d : List Int} {S S' : MS} (h : Drew d S) (e1 : S'.dr = S.dr) (e2 : S'.calls = S.calls) : Drew d S' :=
  ⟨by rw [e1, e2]; exact h.left, by rw [e2]; exact h.le, by rw [e2]; exact h.at_⟩
theorem mDone_drew {d : List Int} {S : MS} (h : Drew d S) (c : Cl) : Drew d (mDone S c (mTells S c)).1 := by
  unfold mDone
  rcases mTells_draw S c with ⟨h1, h2, n, r, h3, h4, h5⟩ | ⟨h1, h2⟩
  · rw [if_pos (by rw [h1]; rfl)]
    have hlt : cntD S.calls < d.length := by
      rcases Nat.lt_or_ge (cntD S.calls) d.length with k | k
      · exact k
      · have q := h.left
        rw [List.drop_eq_nil_of_le k, h3] at q
        cases q
    have hn : d.getD (cntD S.calls) 0 = n ∧ d.drop (cntD S.calls + 1) = r := by
      have q := h.left
      rw [h3, List.drop_eq_getElem_cons hlt] at q
      injection q with q1 q2
      exact ⟨by rw [List.getD_eq_getElem?_getD, List.getElem?_eq_getElem hlt]; exact q1.symm, q2.symm⟩
    have hc : cntD [{ c with ret := (mTells S c).n }] = 1 := by
      unfold cntD
      rw [List.filter_cons_of_pos (by exact h2)]
      rfl
    refine ⟨?_, ?_, ?_⟩
    · show (mTells S c).dr = d.drop (cntD (S.calls ++ [_]))
      rw [cntD_app, hc, h4, hn.2]
    · show cntD (S.calls ++ [_]) ≤ d.length
      rw [cntD_app, hc]
      omega
    · intro j x hx hD
      rcases Nat.lt_or_ge j S.calls.length with k | k
      · have hx' : S.calls[j]? = some x := by
          have e : (S.calls ++ [{ c with ret := (mTells S c).n }])[j]? = some x := hx
          rw [List.getElem?_append_left k] at e
          exact e
        show cntD ((S.calls ++ [_]).take j) < _ ∧ _
        rw [List.take_append_of_le_length (by omega)]
        exact h.at_ j x hx' hD
      · have e : (S.calls ++ [{ c with ret := (mTells S c).n }])[j]? = some x := hx
        rw [List.getElem?_append_right k] at e
        have hj : j - S.calls.length = 0 := by
          rcases Nat.eq_zero_or_pos (j - S.calls.length) with z | z
          · exact z
          · rw [List.getElem?_eq_none (by simp; omega)] at e; cases e
        rw [hj] at e
        have ex : x = { c with ret := (mTells S c).n } := (Option.some.inj e).symm
        show cntD ((S.calls ++ [_]).take j) < _ ∧ _
        rw [show j = S.calls.length by omega, List.take_append_of_le_length (Nat.le_refl _), List.take_length]
        refine ⟨hlt, fun h6 => ?_⟩
        rw [ex] at h6 ⊢
        rw [hn.1]
        exact h5 h6
  · split
    · rename_i he
      have hD : isD c.id = false := by
        rcases h1 with k | k
        · exact k
        · exact absurd (by simpa using he) k
      have hc : cntD [{ c with ret := (mTells S c).n }] = 0 := by
        unfold cntD
        rw [List.filter_cons_of_neg (by rw [hD]; exact Bool.false_ne_true)]
        rfl
      refine ⟨?_, ?_, ?_⟩
      · show (mTells S c).dr = d.drop (cntD (S.calls ++ [_]))
        rw [cntD_app, hc, h2]
        exact h.left
      · show cntD (S.calls ++ [_]) ≤ d.length
        rw [cntD_app, hc]
        exact h.le
      · intro j x hx hDx
        rcases Nat.lt_or_ge j S.calls.length with k | k
        · have hx' : S.calls[j]? = some x := by
            have e : (S.calls ++ [{ c with ret := (mTells S c).n }])[j]? = some x := hx
            rw [List.getElem?_append_left k] at e
            exact e
          show cntD ((S.calls ++ [_]).take j) < _ ∧ _
          rw [List.take_append_of_le_length (by omega)]
          exact h.at_ j x hx' hDx
        · have e : (S.calls ++ [{ c with ret := (mTells S c).n }])[j]? = some x := hx
          rw [List.getElem?_append_right k] at e
          have hj : j - S.calls.length = 0 := by
            rcases Nat.eq_zero_or_pos (j - S.calls.length) with z | z
            · exact z
            · rw [List.getElem?_eq_none (by simp; omega)] at e; cases e
          rw [hj] at e
          have ex : x = { c with ret := (mTells S c).n } := (Option.some.inj e).symm
          rw [ex] at hDx
          rw [show ({ c with ret := (mTells S c).n } : Cl).id = c.id from rfl, hD] at hDx
          cases hDx
    · exact h.of h2 rfl
theorem mCall_drew {d : List Int} {S : MS} (h : Drew d S) (id : Int) : Drew d (mCall S id).1 := by
  unfold mCall
  split
  · split
    · exact mDone_drew h _
    · exact h
  · exact h
theorem pDo_drew {d : List Int} {S : MS} (h : Drew d S) : Drew d (pDo S).S := by
  rw [pDo_eq]
  unfold pDoX
  split
  · split
    · exact h.of rfl rfl
    · exact h
  · split
    · exact h
    · split
      · exact h
      · split
        · exact mCall_drew h _
        · split
          · exact h.of rfl rfl
          · split
            · exact h.of rfl rfl
            · exact h
theorem step_drew {d : List Int} {S : MS} (h : Drew d S) : Drew d (pStep S).1 := by
  unfold pStep
  split
  · exact h
  · split
    · exact (pDo_drew h).of rfl rfl
    · exact (pDo_drew h).of rfl rfl
theorem run_drew (n : Int) {d : List Int} {S : MS} (h : Drew d S) : Drew d (pRun n S) := run_inv (fun R q => step_drew q) n S h
theorem drew_new {S : MS} (h : S.calls = []) : Drew S.dr S := ⟨by rw [h]; rfl, by rw [h]; exact Nat.zero_le _, fun j c hj => by rw [h] at hj; simp at hj⟩
end Go.Proofs.YtlbhffdpklbhfaaGreat
