/-
  Texts, one behind the other: AppNone, Mach2, MachEnv2, MachSame, MachAlike, MachLaw, MachAlso, MachTwo.
  Conditions: those that each theorem states.
-/
import Derived.Laws.AppendOwn
import Derived.Lib.AppendZeros
import Derived.Deep.RegionHeld3
import Derived.Test.YtlbhffdpklbhfaaGreatPz24
import Derived.Test.YtlbhffdpklbhfaaGreatPz8
import Derived.Deep.DeepCutAuto
import Derived.Test.YtlbhffdpklbhfaaGreatPz50
import Derived.LoopTactic
import Derived.Test.YtlbhffdpklbhfaaGreatPz49
import Derived.Test.YtlbhffdpklbhfaaGreatPz29
import Derived.Test.YtlbhffdpklbhfaaGreatPz48
import Derived.Test.YtlbhffdpklbhfaaGreatPz40
import Derived.Test.YtlbhffdpklbhfaaGreatPz37
namespace Go.Proofs.YtlbhffdpklbhfaaGreat
open Go
theorem append_none {P : Program} (w : World) (t ty e : TypeId) (i : TypeInfo) (ht : P.underlying t = some (.slice e)) (hi : P.info? e = some i) (b : Nat) (A : Option Addr) (c : Nat) :
    (Builtin.append_ #[t, t] ty #[.slice (some ⟨b, 0, none⟩) 0 0, .slice A 0 c]).run P w = .ok (.slice (some ⟨b, 0, none⟩) 0 0) w := by
  cases A <;> simp [Builtin.append_, run_underlying ht, sizeOf, typeInfo, hi, Builtin.lenOf, Builtin.firstCells, loadCells, loadCellsFrom, storeCells]
end Go.Proofs.YtlbhffdpklbhfaaGreat
namespace Go.Proofs.YtlbhffdpklbhfaaGreat
open Go.RowKit
set_option maxRecDepth 100000
set_option linter.unusedVariables false
set_option linter.unusedSimpArgs false
theorem m11_At (w : World) (g : Nat) (S : MS) (H : Nat → Prop) (h : (sysX g S).R w H) :
    Calls Tryz.prog 14 #[.pointer (some ⟨g, 0, none⟩)] w (Gives (.int .i64 S.at_) w) := by
  obtain ⟨A, _, hb, _, hok⟩ := sysX_blk h
  obtain ⟨c0, -⟩ := xc_tail hb hok.n
  clear hb
  go_enter Tryz.func14, Tryz.ntmps14
  go_wp2_with fail
  go_ret
  exact ⟨rfl, Below.refl _ _⟩
def regI (S : MS) (i : Int) : Int × Bool := if 0 ≤ i ∧ i < 11 then rg S.r i.toNat else (0, false)
set_option maxHeartbeats 1000000 in
theorem m11_Reg (w : World) (g : Nat) (S : MS) (H : Nat → Prop) (i : Int) (h : (sysX g S).R w H) :
    Calls Tryz.prog 16 #[.pointer (some ⟨g, 0, none⟩), .int .i64 i] w (Gives (.tuple #[.int .u64 (regI S i).1, .bool (regI S i).2]) w) := by
  have D := Lib.hid fun n => below_drewN (Below.refl w.heap.size w) n
  unfold regI
  by_cases h0 : 0 ≤ i
  · by_cases h1 : i < 11
    · rw [if_pos ⟨h0, h1⟩]
      obtain ⟨k, rfl⟩ : ∃ k : Nat, i = k := ⟨i.toNat, by omega⟩
      obtain ⟨c0, c1⟩ := sysX_reg h k (by omega)
      rw [Int.toNat_natCast]
      clear h
      generalize (rg S.r k).1 = n at *
      generalize (rg S.r k).2 = b at *
      go_enter Tryz.func16, Tryz.ntmps16
      go_wp2_with fail
      go_quiet (fail)
      go_wp2_with fail
      go_ret2
      exact ⟨rfl, D.out _⟩
    · rw [if_neg (by omega)]
      have h1' : (11 : Int) ≤ i := by omega
      go_enter Tryz.func16, Tryz.ntmps16
      go_wp2_with fail
      go_ret2
      exact ⟨rfl, Below.refl _ _⟩
  · rw [if_neg (by omega)]
    have h0' : i < 0 := by omega
    go_enter Tryz.func16, Tryz.ntmps16
    go_wp2_with fail
    go_ret2
    exact ⟨rfl, Below.refl _ _⟩
end Go.Proofs.YtlbhffdpklbhfaaGreat
namespace Go.Proofs.YtlbhffdpklbhfaaGreat
open Go.RowKit
set_option maxRecDepth 100000
set_option linter.unusedVariables false
set_option linter.unusedSimpArgs false
set_option maxHeartbeats 8000000 in
theorem l11_env (w : World) (E : EV) (hE : EnvS w E) (hok : E.raw) : Calls Tryz.prog 10 #[envV E] w (EnvW E w) := by
  obtain ⟨ctx, ca, cc, D, da, dc, L, ia, ic, dr, na, nc⟩ := E
  unfold envV
  have b4 := hok.c.2
  have b5 := hok.d
  have b6 := hok.i.2
  have b7 := hok.n.2
  dsimp only at *
  unfold maxLen at b4 b5 b6 b7
  have HE := Lib.hid hE
  have HOK := Lib.hid hok
  clear hE hok
  have t1 := tl 100 ctx
  have t2 := tl 10 D
  have t3 := tl 100 dr
  have l1 : (ctx.take 100).length ≤ cc := by rw [List.length_take]; omega
  have l2 : (D.take 10).length ≤ dc := by rw [List.length_take]; omega
  have l3 : (dr.take 100).length ≤ nc := by rw [List.length_take]; omega
  generalize e1 : (ctx.take 100).length = n1 at *
  generalize e2 : (D.take 10).length = n2 at *
  generalize e3 : (dr.take 100).length = n3 at *
  have N1 := Lib.hid e1
  have N2 := Lib.hid e2
  have N3 := Lib.hid e3
  clear e1 e2 e3
  have m1 : ∀ u, (Builtin.min_ #[3, 3] 3 #[.int .i64 (ctx.length : Int), .int .i64 100]).run Tryz.prog u = .ok (.int .i64 (n1 : Int)) u := fun u => min_run u ctx.length 100 n1 t1
  have m2 : ∀ u, (Builtin.min_ #[3, 3] 3 #[.int .i64 (D.length : Int), .int .i64 10]).run Tryz.prog u = .ok (.int .i64 (n2 : Int)) u := fun u => min_run u D.length 10 n2 t2
  have m3 : ∀ u, (Builtin.min_ #[3, 3] 3 #[.int .i64 (dr.length : Int), .int .i64 100]).run Tryz.prog u = .ok (.int .i64 (n3 : Int)) u := fun u => min_run u dr.length 100 n3 t3
  clear t1 t2 t3
  have i1 : (0 : Int) ≤ (n1 : Int) ∧ (n1 : Int) ≤ (cc : Int) := by omega
  have i2 : (0 : Int) ≤ (n2 : Int) ∧ (n2 : Int) ≤ (dc : Int) := by omega
  have i3 : (0 : Int) ≤ (n3 : Int) ∧ (n3 : Int) ≤ (nc : Int) := by omega
  obtain ⟨i1, j1⟩ := i1
  obtain ⟨i2, j2⟩ := i2
  obtain ⟨i3, j3⟩ := i3
  go_enter Tryz.func10, Tryz.ntmps10
  go_upto_region 1 with fail
  have b1 := below_alloc (Below.refl w.heap.size w) (.cells #[.slice ca ctx.length cc, .slice da D.length dc, .slice ia L.length ic, .slice na dr.length nc] 28)
  have x1 := Blk.new w #[.slice ca ctx.length cc, .slice da D.length dc, .slice ia L.length ic, .slice na dr.length nc] 28 (g := w.heap.size) rfl
  have s1 : (w.alloc (.cells #[.slice ca ctx.length cc, .slice da D.length dc, .slice ia L.length ic, .slice na dr.length nc] 28)).heap.size = w.heap.size + 1 := by simp
  have x2 := Blk.new (w.alloc (.cells #[.slice ca ctx.length cc, .slice da D.length dc, .slice ia L.length ic, .slice na dr.length nc] 28)) #[.slice none 0 0, .slice none 0 0, .slice none 0 0, .slice none 0 0] 28 (g := w.heap.size + 1) s1.symm
  have BB := Lib.hid (below_alloc b1 (.cells #[.slice none 0 0, .slice none 0 0, .slice none 0 0, .slice none 0 0] 28))
  have XI := Lib.hid (x1.after (below_alloc (Below.refl _ _) (.cells #[.slice none 0 0, .slice none 0 0, .slice none 0 0, .slice none 0 0] 28)))
  have XO := Lib.hid x2
  have S2 : Hid (((w.alloc (.cells #[.slice ca ctx.length cc, .slice da D.length dc, .slice ia L.length ic, .slice na dr.length nc] 28)).alloc (.cells #[.slice none 0 0, .slice none 0 0, .slice none 0 0, .slice none 0 0] 28)).heap.size = w.heap.size + 2) := Lib.hid (by simp)
  clear b1 x1 s1 x2
  generalize hw1 : (w.alloc (.cells #[.slice ca ctx.length cc, .slice da D.length dc, .slice ia L.length ic, .slice na dr.length nc] 28)).alloc (.cells #[.slice none 0 0, .slice none 0 0, .slice none 0 0, .slice none 0 0] 28) = w1 at *
  clear hw1
  go_cut [3] (fun tv wr => ∃ gT, tv = .pointer (some ⟨gT, 0, none⟩) ∧ Hid (ES w (.slice ca ctx.length cc) (.slice da D.length dc) (.slice ia L.length ic) (.slice na dr.length nc) gT (.slice ca n1 cc) (.slice da n2 dc) (.slice none 0 0) (.slice na n3 nc) wr))
  case first =>
    have HB : Below w1.heap.size w1 w1.drew := Below.drew (Below.refl _ _)
    have HA : Below w1.heap.size w1 ((w1.alloc (.cells #[.slice none 0 0, .slice none 0 0, .slice none 0 0, .slice none 0 0] 28)).drew) := Below.drew (below_alloc (Below.refl _ _) _)
    have BA : Hid (Blk w1.heap.size #[.slice none 0 0, .slice none 0 0, .slice none 0 0, .slice none 0 0] 28 ((w1.alloc (.cells #[.slice none 0 0, .slice none 0 0, .slice none 0 0, .slice none 0 0] 28)).drew)) := Lib.hid (Blk.new w1 _ _ rfl)
    obtain ⟨-, f0, f1, f2, f3⟩ := Blk.fou BA.out
    have KK := Lib.hid fun u (b : Below w1.heap.size w1 u) => (show _ from (by
      obtain ⟨⟨q0, q1, q2, q3⟩, -⟩ := Blk.fou (XI.out.after b)
      exact ⟨q0, q1, q3⟩) : u.cell? ⟨w.heap.size, 0, none⟩ = some (.slice ca ctx.length cc) ∧ u.cell? ⟨w.heap.size, 1, none⟩ = some (.slice da D.length dc) ∧ u.cell? ⟨w.heap.size, 3, none⟩ = some (.slice na dr.length nc))
    go_region_held3 (fun w' => w'.cell? ⟨w.heap.size, 0, none⟩ = some (.slice ca ctx.length cc) ∧ w'.cell? ⟨w.heap.size, 1, none⟩ = some (.slice da D.length dc) ∧ w'.cell? ⟨w.heap.size, 3, none⟩ = some (.slice na dr.length nc))
      (first
        | with_reducible exact KK.out _ HB
        | with_reducible exact KK.out _ HA
        | with_reducible exact KK.out _ (below_alloc HB _)
        | with_reducible exact KK.out _ (Below.drew (below_alloc (Below.refl _ _) _))
        | with_reducible exact KK.out _ (below_alloc (Below.refl _ _) _)
        | with_reducible exact KK.out _ (fou_b HA (Nat.le_refl _) _ _ _ _)
        | with_reducible exact KK.out _ (Below.drew (fou_b (below_alloc (Below.refl _ _) _) (Nat.le_refl _) _ _ _ _)))
      (first | fail)
    all_goals
      rename_i hh
      clear hh
      try clear f0 f1 f2 f3
      go_wp2_with fail
      go_meet
      first
        | exact ⟨_, rfl, Lib.hid (es_new BB.out XI.out XO.out S2.out)⟩
        | exact ⟨_, rfl, Lib.hid (es_set BB.out XI.out XO.out S2.out)⟩
  case rest =>
    obtain ⟨gT, rfl, Q⟩ := hcut
    have J0 : Hid (EJ w wc.heap.size (.slice ca ctx.length cc) (.slice da D.length dc) (.slice ia L.length ic) (.slice na dr.length nc) gT (.slice ca n1 cc) (.slice da n2 dc) (.slice na n3 nc) L 0 (.slice none 0 0) [] (fun _ => False) wc) :=
      Lib.hid ⟨Q.out, ⟨Q.out.xt.lt, Nat.le_refl _⟩, World.ownsRow_nil _ _ _ _, rfl, fun x hx => hx.elim, fun _ _ k hk => absurd hk (Nat.not_lt_zero _), rfl, fun k hk => absurd hk (Nat.not_lt_zero _)⟩
    have HW : Hid (w.heap.size + 1 < wc.heap.size) := Lib.hid (by have := Q.out.gt; have := Q.out.xt.lt; omega)
    generalize wc.heap.size = B at J0 HW
    have y2 := (Blk.fou Q.out.xi).1.2.2.1
    clear BB XI XO S2 Q m1 m2 m3
    go_wp2_with fail
    go_loopw [34] (fun iv wr => ∃ (j : Nat) (v : Value) (L' : List IR) (K : Nat → Prop), iv = .int .i64 j ∧ j ≤ 10 ∧ j ≤ L.length ∧ Hid (EJ w B (.slice ca ctx.length cc) (.slice da D.length dc) (.slice ia L.length ic) (.slice na dr.length nc) gT (.slice ca n1 cc) (.slice da n2 dc) (.slice na n3 nc) L j v L' K wr)) (fun iv wr => L.length - (intOf iv).toNat)
    case atStart => exact ⟨0, _, _, _, rfl, by omega, by omega, J0⟩
    case round =>
      obtain ⟨j, v, L', K, rfl, hj10, hj, J⟩ := hrel
      by_cases hlt : (j : Int) < L.length
      · have hjn : j < L.length := by omega
        obtain ⟨g, o, hA, hg, hc⟩ := (HE.out.after J.out.s.below).i (by show 0 < L.length; omega)
        have c0 := (hc j hjn).1
        by_cases h10 : j < 10
        · skip
          have ROW : Hid (∀ u, Below w.heap.size w u → ItmS u (irAt L j).a (irAt L j).l) := Lib.hid fun u b => by
            obtain ⟨_, _, _, _, hc2⟩ := (HE.out.after b).i (by show 0 < L.length; omega)
            exact (hc2 j hjn).2
          have JN := Lib.hid fun u' (k : Below wr.heap.size wr u') A m cp hm o => J.out.next (A := A) (m := m) (cp := cp) k hjn (by omega) (by have := HW.out; omega) hm o
          have SJ := Lib.hid J.out.s
          have CAPS := Lib.hid ((HOK.out.i.1 j hjn).2)
          have bj := J.out.s.below
          have BJ := Lib.hid bj
          subst hA
          clear hc J bj HE HOK
          generalize wr = w5 at *
          generalize irAt L j = r at *
          have RN := Lib.hid fun k (hk : k < r.l.length) => eRow_next (l := r.l) hk
          have rcap := CAPS.out
          unfold maxLen at rcap
          by_cases hm0 : 0 < r.l.length
          · obtain ⟨gr, or, hra, -⟩ := ROW.out w5 BJ.out hm0
            have HRA := Lib.hid hra
            rw [hra] at c0
            clear hra
            go_wp2_with fail
            go_loopw [43, 6] (fun iv rv wr => ∃ (k : Nat) (A : Option Addr) (cp : Nat), iv = .int .i64 k ∧ rv = .slice A (eRow k r.l).length cp ∧ k ≤ r.l.length ∧ Hid (Below w5.heap.size w5 wr ∧ wr.ownsRow w5.heap.size 84 2 (.slice A (eRow k r.l).length cp) (eRow k r.l).length (iC (eRow k r.l)))) (fun iv rv wr => r.l.length - (intOf iv).toNat)
            case atStart => exact ⟨0, none, 0, rfl, by simp [eRow], by omega, Lib.hid ⟨Below.refl _ _, by simp only [eRow, Nat.zero_min, List.take_zero, List.filter_nil, List.length_nil]; exact World.ownsRow_nil _ _ _ _⟩⟩
            case round =>
              obtain ⟨k, A, cp, rfl, rfl, hk, I⟩ := hrel
              by_cases hlt2 : (k : Int) < r.l.length
              · have hkm : k < r.l.length := by omega
                obtain ⟨gr', or', hra', hgr, hcl⟩ := ROW.out wr (below_next' BJ.out I.out.1) hm0
                rw [HRA.out] at hra'
                cases hra'
                obtain ⟨⟨y0, y1⟩, -, -⟩ := hcl k hkm
                clear hcl
                have hel := eRow_len k r.l
                by_cases hk20 : k < 20
                · by_cases hs1 : (xAt r.l k).k.length ≤ 80
                  · by_cases hs2 : (xAt r.l k).v.length ≤ 80
                    · have q : eRow (k + 1) r.l = eRow k r.l ++ [xAt r.l k] := by rw [RN.out k hkm, if_pos ⟨hk20, by unfold shortI; rw [decide_eq_true hs1, decide_eq_true hs2]; rfl⟩]
                      have QQ := Lib.hid q
                      have b1 := below_alloc (Below.refl wr.heap.size wr) (.cells #[.slice (xAt r.l k).a (xAt r.l k).k.length (xAt r.l k).c, .slice (xAt r.l k).b (xAt r.l k).v.length (xAt r.l k).d] 84)
                      have b2 := below_next' b1 (below_alloc (Below.refl _ _) (.cells #[.slice (xAt r.l k).a (xAt r.l k).k.length (xAt r.l k).c, .slice (xAt r.l k).b (xAt r.l k).v.length (xAt r.l k).d] 84))
                      obtain ⟨v', w9, hr, ho, hg9⟩ := run_item (own_after I.out.2 b2) rfl (by omega) (Nat.le_trans I.out.1.size b2.size) (xAt r.l k) (Blk.new (wr.alloc (.cells #[.slice (xAt r.l k).a (xAt r.l k).k.length (xAt r.l k).c, .slice (xAt r.l k).b (xAt r.l k).v.length (xAt r.l k).d] 84)) _ 84 rfl)
                      obtain ⟨A', cp', rfl, -, -⟩ := own_slice ho
                      have IX : Hid (Below w5.heap.size w5 w9 ∧ w9.ownsRow w5.heap.size 84 2 (.slice A' ((eRow k r.l).length + 1) cp') ((eRow k r.l).length + 1) (iC (eRow k r.l ++ [xAt r.l k]))) := Lib.hid ⟨below_own (below_next' I.out.1 b2) (own_after I.out.2 b2) (Nat.le_trans I.out.1.size b2.size) hg9, ho⟩
                      clear q RN b1 b2 ho hg9
                      have BK := Lib.hid (Blk.new wr #[.slice (xAt r.l k).a (xAt r.l k).k.length (xAt r.l k).c, .slice (xAt r.l k).b (xAt r.l k).v.length (xAt r.l k).d] 84 (g := wr.heap.size) rfl)
                      go_upto_region 11 with fail
                      generalize hwa : (wr.alloc (.cells #[.slice (xAt r.l k).a (xAt r.l k).k.length (xAt r.l k).c, .slice (xAt r.l k).b (xAt r.l k).v.length (xAt r.l k).d] 84)) = wa at *
                      clear hwa
                      have p : wa.cell? ⟨wr.heap.size, 0, none⟩ = some (.slice (xAt r.l k).a (xAt r.l k).k.length (xAt r.l k).c) ∧ wa.cell? ⟨wr.heap.size, 1, none⟩ = some (.slice (xAt r.l k).b (xAt r.l k).v.length (xAt r.l k).d) := ⟨Blk.cell BK.out 0, Blk.cell BK.out 1⟩
                      obtain ⟨p0, p1⟩ := p
                      clear y0 y1 BK
                      go_wp2_with ((at_builtin; refine Lib.wpList_append_run _ rfl (.tmp 62) (.tmp 64) _ _ rfl _ _ rfl rfl _ _ hr ?_))
                      go_round
                      case rel => exact ⟨k + 1, A', cp', by go_num, by rw [QQ.out, List.length_append, List.length_singleton], by omega, Lib.hid (by rw [QQ.out, List.length_append, List.length_singleton]; exact IX.out)⟩
                      case measure => simp [intOf]; omega
                    · skip
                      have q : eRow (k + 1) r.l = eRow k r.l := by rw [RN.out k hkm, if_neg (by rintro ⟨_, c⟩; unfold shortI at c; rw [decide_eq_false hs2, Bool.and_false] at c; cases c)]
                      have QQ := Lib.hid q
                      clear q RN
                      go_wp2_with fail
                      go_round
                      case rel => exact ⟨k + 1, A, cp, by go_num, by rw [QQ.out], by omega, Lib.hid (by rw [QQ.out]; exact ⟨below_alloc I.out.1 _, own_after I.out.2 (below_alloc (Below.refl _ _) _)⟩)⟩
                      case measure => simp [intOf]; omega
                  · skip
                    have q : eRow (k + 1) r.l = eRow k r.l := by rw [RN.out k hkm, if_neg (by rintro ⟨_, c⟩; unfold shortI at c; rw [decide_eq_false hs1, Bool.false_and] at c; cases c)]
                    have QQ := Lib.hid q
                    clear q RN
                    go_wp2_with fail
                    go_round
                    case rel => exact ⟨k + 1, A, cp, by go_num, by rw [QQ.out], by omega, Lib.hid (by rw [QQ.out]; exact ⟨below_alloc I.out.1 _, own_after I.out.2 (below_alloc (Below.refl _ _) _)⟩)⟩
                    case measure => simp [intOf]; omega
                · skip
                  have q : eRow (k + 1) r.l = eRow k r.l := by rw [RN.out k hkm, if_neg (by rintro ⟨c, _⟩; exact hk20 c)]
                  have QQ := Lib.hid q
                  clear q RN
                  go_wp2_with fail
                  go_round
                  case rel => exact ⟨k + 1, A, cp, by go_num, by rw [QQ.out], by omega, Lib.hid (by rw [QQ.out]; exact ⟨below_alloc I.out.1 _, own_after I.out.2 (below_alloc (Below.refl _ _) _)⟩)⟩
                  case measure => simp [intOf]; omega
              · have hkm : k = r.l.length := by omega
                subst hkm
                obtain ⟨v', u2, hr, ⟨q1, q2⟩, L2, K2, J2⟩ := JN.out _ I.out.1 A _ cp rfl I.out.2
                obtain ⟨va', vc', rfl, -, -⟩ := own_slice J2.row
                have JX := Lib.hid J2
                have yt := (Blk.fou ((SJ.out.after I.out.1).xt)).1.2.2.1
                clear J2 JN
                go_wp2_with ((at_builtin; refine Lib.wpList_append_run _ rfl (.tmp 68) (.tmp 70) _ _ rfl _ _ rfl rfl _ _ hr ?_))
                go_round
                case rel => exact ⟨j + 1, _, L2, K2, by go_num, by omega, by omega, JX⟩
                case measure => simp [intOf]; omega
          · have hz : r.l.length = 0 := by omega
            have HZ := Lib.hid hz
            have hnil : r.l = [] := List.eq_nil_of_length_eq_zero hz
            have E0 : Hid (eRow r.l.length r.l = []) := Lib.hid (by rw [hnil]; rfl)
            clear RN hnil
            generalize r.l.length = rn at *
            subst hz
            go_wp2_with fail
            go_loopw [43, 6] (fun iv rv wr => iv = .int .i64 0 ∧ rv = .slice none 0 0 ∧ wr = w5) (fun iv rv wr => 0)
            case atStart => exact ⟨rfl, rfl, rfl⟩
            case round =>
              obtain ⟨rfl, rfl, rfl⟩ := hrel
              obtain ⟨v', u2, hr, ⟨q1, q2⟩, L2, K2, J2⟩ := JN.out _ (Below.refl _ _) none _ 0 (by rw [E0.out]) (by rw [E0.out]; exact World.ownsRow_nil _ _ _ _)
              obtain ⟨va', vc', rfl, -, -⟩ := own_slice J2.row
              have JX := Lib.hid J2
              have yt := (Blk.fou ((SJ.out.after (Below.refl _ _)).xt)).1.2.2.1
              clear J2 JN
              go_wp2_with ((at_builtin; refine Lib.wpList_append_run _ rfl (.tmp 68) (.tmp 70) _ _ rfl _ _ rfl rfl _ _ hr ?_))
              go_round
              case rel => exact ⟨j + 1, _, L2, K2, by go_num, by omega, by omega, JX⟩
              case measure => simp [intOf]; omega
        · have e10 : j = 10 := by omega
          subst e10
          subst hA
          clear hc
          obtain ⟨ia', ic', rfl, hl2, FINX⟩ := EJ.done HE.out HOK.out (by rw [N1.out, N2.out, N3.out]; exact J.out) HW.out rfl (Nat.le_of_lt hjn)
          have FF := Lib.hid FINX
          have hl3 := Lib.hid hl2
          obtain ⟨⟨z0, z1, z2, z3⟩, -⟩ := Blk.fou J.out.s.xt
          obtain ⟨⟨x0, x1, x2, x3⟩, f0, f1, f2, f3⟩ := Blk.fou J.out.s.xo
          have Z4 := Lib.hid (Blk.fou (fou_blk J.out.s.xo (.slice ca n1 cc) (.slice da n2 dc) (.slice ia' 10 ic') (.slice na n3 nc))).1
          clear FINX hl2
          go_wp2_with fail
          have FIN := FF.out
          obtain ⟨r0, r1, r2, r3⟩ := Z4.out
          rw [N1.out, N2.out, N3.out] at FIN
          unfold fou at r0 r1 r2 r3 FIN
          exact bodyPost_ret (v := .agg #[.slice ca n1 cc, .slice da n2 dc, .slice ia' 10 ic', .slice na n3 nc]) (by simp [results, Tryz.results10, go_sem, r0, r1, r2, r3]) rfl FIN
      · have hjn : j = L.length := by omega
        subst hjn
        obtain ⟨ia', ic', rfl, hl2, FINX⟩ := EJ.done HE.out HOK.out (by rw [N1.out, N2.out, N3.out]; exact J.out) HW.out (by rw [List.take_of_length_le (Nat.le_refl _), List.take_of_length_le hj10]) (Nat.le_refl _)
        have FF := Lib.hid FINX
        have hl3 := Lib.hid hl2
        obtain ⟨⟨z0, z1, z2, z3⟩, -⟩ := Blk.fou J.out.s.xt
        obtain ⟨⟨x0, x1, x2, x3⟩, f0, f1, f2, f3⟩ := Blk.fou J.out.s.xo
        have Z4 := Lib.hid (Blk.fou (fou_blk J.out.s.xo (.slice ca n1 cc) (.slice da n2 dc) (.slice ia' L.length ic') (.slice na n3 nc))).1
        clear FINX hl2
        go_wp2_with fail
        have FIN := FF.out
        obtain ⟨r0, r1, r2, r3⟩ := Z4.out
        rw [N1.out, N2.out, N3.out] at FIN
        unfold fou at r0 r1 r2 r3 FIN
        exact bodyPost_ret (v := .agg #[.slice ca n1 cc, .slice da n2 dc, .slice ia' L.length ic', .slice na n3 nc]) (by simp [results, Tryz.results10, go_sem, r0, r1, r2, r3]) rfl FIN
end Go.Proofs.YtlbhffdpklbhfaaGreat
namespace Go.Proofs.YtlbhffdpklbhfaaGreat
open Go.RowKit
set_option maxRecDepth 100000
set_option linter.unusedVariables false
set_option linter.unusedSimpArgs false
theorem neq_same (s : List Int) (u : World) : (binOp BinOp.neq 9 (.string (strOfNums s)) (.string (strOfNums s))).run Tryz.prog u = .ok (.bool false) u := by
  have e : (binOp BinOp.neq 9 (.string (strOfNums s)) (.string (strOfNums s))).run Tryz.prog u = .ok (.bool (!((strOfNums s).toList == (strOfNums s).toList))) u := rfl
  rw [e]
  simp
set_option maxHeartbeats 8000000 in
theorem r11_calls (w : World) (A1 A2 : Option Addr) (c1 c2 B1 B2 D1 D2 n : Nat) (L1 L2 : List CR) (h1 : CrR B1 D1 w A1 c1 L1) (h2 : CrR B2 D2 w A2 c2 L2) (hl1 : L1.length = n) (hl2 : L2.length = n) (he : ∀ k, k < n → (crAt L1 k).c = (crAt L2 k).c) (hsm : ∀ k, k < n → (crAt L1 k).c.n.length ≤ 8) :
    Calls Tryz.prog 85 #[.slice A1 n c1, .slice A2 n c2] w (Gives (.bool true) w) := by
  have hc1 := own_caps h1.row
  have hc2 := own_caps h2.row
  rw [hl1] at hc1
  rw [hl2] at hc2
  unfold maxLen at hc1 hc2
  have H1 := Lib.hid h1
  have H2 := Lib.hid h2
  have HL1 := Lib.hid hl1
  have HL2 := Lib.hid hl2
  have HE := Lib.hid he
  have HS := Lib.hid hsm
  have NS := neq_same
  clear h1 h2 hl1 hl2 he hsm
  go_enter Tryz.func85, Tryz.ntmps85
  go_wp2_with fail
  go_loopw [5] (fun iv wr => ∃ j : Nat, iv = .int .i64 j ∧ j ≤ n ∧ Hid (Below w.heap.size w wr)) (fun iv wr => n - (intOf iv).toNat)
  case atStart => exact ⟨0, rfl, by omega, Lib.hid (Below.refl _ _)⟩
  case round =>
    obtain ⟨j, rfl, hj, V⟩ := hrel
    by_cases hlt : (j : Int) < n
    · have hjn : j < n := by omega
      have q1 := H1.out.after V.out
      have q2 := H2.out.after V.out
      have r1 := q1.row
      have r2 := q2.row
      rw [HL1.out] at r1
      rw [HL2.out] at r2
      obtain ⟨g1, e1, -, hg1⟩ := own_addr r1 (by omega)
      obtain ⟨g2, e2, -, hg2⟩ := own_addr r2 (by omega)
      subst e1
      subst e2
      have x : ∀ r, r < 6 → wr.cell? ⟨g1, j * 6 + r, none⟩ = (cCR (crAt L1 j))[r]? := fun r hr => by rw [r1.cellAt _ (by omega), crC_at L1 j r (by rw [HL1.out]; exact hjn) hr]
      have y : ∀ r, r < 6 → wr.cell? ⟨g2, j * 6 + r, none⟩ = (cCR (crAt L2 j))[r]? := fun r hr => by rw [r2.cellAt _ (by omega), crC_at L2 j r (by rw [HL2.out]; exact hjn) hr]
      have OW1 := Lib.hid (q1.own j (by rw [HL1.out]; exact hjn))
      have OW2 := Lib.hid (q2.own j (by rw [HL2.out]; exact hjn))
      have hcc := HE.out j hjn
      have hnn := HS.out j hjn
      have x0 := x 0 (by omega)
      have x1 := x 1 (by omega)
      have x2 := x 2 (by omega)
      have x3 := x 3 (by omega)
      have x4 := x 4 (by omega)
      have x5 := x 5 (by omega)
      have y0 := y 0 (by omega)
      have y1 := y 1 (by omega)
      have y2 := y 2 (by omega)
      have y3 := y 3 (by omega)
      have y4 := y 4 (by omega)
      have y5 := y 5 (by omega)
      clear x y q1 q2 r1 r2
      generalize crAt L1 j = s1 at *
      generalize crAt L2 j = s2 at *
      obtain ⟨c, ka, kc, va, vc, na, nc⟩ := s1
      obtain ⟨c', ka', kc', va', vc', na', nc'⟩ := s2
      dsimp only at hcc
      subst hcc
      obtain ⟨id, mp, k, v, nn, ret⟩ := c
      dsimp only [cCR] at x0 x1 x2 x3 x4 x5 y0 y1 y2 y3 y4 y5 hnn
      replace x0 : wr.cell? ⟨g1, j * 6, none⟩ = some (.int .i64 id) := x0
      replace x1 : wr.cell? ⟨g1, j * 6 + 1, none⟩ = some (.int .i64 mp) := x1
      replace x2 : wr.cell? ⟨g1, j * 6 + 2, none⟩ = some (.slice ka k.length kc) := x2
      replace x3 : wr.cell? ⟨g1, j * 6 + 3, none⟩ = some (.slice va v.length vc) := x3
      replace x4 : wr.cell? ⟨g1, j * 6 + 4, none⟩ = some (.slice na nn.length nc) := x4
      replace x5 : wr.cell? ⟨g1, j * 6 + 5, none⟩ = some (.int .u64 ret) := x5
      replace y0 : wr.cell? ⟨g2, j * 6, none⟩ = some (.int .i64 id) := y0
      replace y1 : wr.cell? ⟨g2, j * 6 + 1, none⟩ = some (.int .i64 mp) := y1
      replace y2 : wr.cell? ⟨g2, j * 6 + 2, none⟩ = some (.slice ka' k.length kc') := y2
      replace y3 : wr.cell? ⟨g2, j * 6 + 3, none⟩ = some (.slice va' v.length vc') := y3
      replace y4 : wr.cell? ⟨g2, j * 6 + 4, none⟩ = some (.slice na' nn.length nc') := y4
      replace y5 : wr.cell? ⟨g2, j * 6 + 5, none⟩ = some (.int .u64 ret) := y5
      have b1 := below_alloc (Below.refl wr.heap.size wr) (.cells #[.int .i64 id, .int .i64 mp, .slice ka k.length kc, .slice va v.length vc, .slice na nn.length nc, .int .u64 ret] 59)
      have k1 := Blk.new wr #[.int .i64 id, .int .i64 mp, .slice ka k.length kc, .slice va v.length vc, .slice na nn.length nc, .int .u64 ret] 59 (g := wr.heap.size) rfl
      have z1 : (wr.alloc (.cells #[.int .i64 id, .int .i64 mp, .slice ka k.length kc, .slice va v.length vc, .slice na nn.length nc, .int .u64 ret] 59)).heap.size = wr.heap.size + 1 := by simp
      have k2 := Blk.new (wr.alloc (.cells #[.int .i64 id, .int .i64 mp, .slice ka k.length kc, .slice va v.length vc, .slice na nn.length nc, .int .u64 ret] 59)) #[.int .i64 id, .int .i64 mp, .slice ka' k.length kc', .slice va' v.length vc', .slice na' nn.length nc', .int .u64 ret] 59 (g := wr.heap.size + 1) z1.symm
      have BX := Lib.hid (k1.after (below_alloc (Below.refl _ _) (.cells #[.int .i64 id, .int .i64 mp, .slice ka' k.length kc', .slice va' v.length vc', .slice na' nn.length nc', .int .u64 ret] 59)))
      have BY := Lib.hid k2
      have BB := Lib.hid (below_alloc b1 (.cells #[.int .i64 id, .int .i64 mp, .slice ka' k.length kc', .slice va' v.length vc', .slice na' nn.length nc', .int .u64 ret] 59))
      clear b1 k1 z1 k2
      go_upto_region 8 with fail
      generalize (wr.alloc (.cells #[.int .i64 id, .int .i64 mp, .slice ka k.length kc, .slice va v.length vc, .slice na nn.length nc, .int .u64 ret] 59)).alloc (.cells #[.int .i64 id, .int .i64 mp, .slice ka' k.length kc', .slice va' v.length vc', .slice na' nn.length nc', .int .u64 ret] 59) = wa at *
      have V2 := Lib.hid (below_next' V.out BB.out)
      have s1 := str_bytS (own_bytS rfl (own_after OW1.out.k BB.out)) kc
      have s2 := str_bytS (own_bytS rfl (own_after OW1.out.v BB.out)) vc
      have t1 := str_bytS (own_bytS rfl (own_after OW2.out.k BB.out)) kc'
      have t2 := str_bytS (own_bytS rfl (own_after OW2.out.v BB.out)) vc'
      have U1 := Lib.hid (own_numS rfl (own_after OW1.out.n BB.out))
      have U2 := Lib.hid (own_numS rfl (own_after OW2.out.n BB.out))
      have ca1 := (own_caps OW1.out.n)
      have ca2 := (own_caps OW2.out.n)
      have ca3 := (own_caps OW1.out.k)
      have ca4 := (own_caps OW1.out.v)
      have ca5 := (own_caps OW2.out.k)
      have ca6 := (own_caps OW2.out.v)
      dsimp only at s1 s2 t1 t2 U1 U2 ca1 ca2 ca3 ca4 ca5 ca6
      unfold maxLen at ca1 ca2 ca3 ca4 ca5 ca6
      clear x0 x1 x2 x3 x4 x5 y0 y1 y2 y3 y4 y5 V BB OW1 OW2
      obtain ⟨⟨x0, x1, x2, x3, x4, x5⟩, -⟩ := Blk.six BX.out
      obtain ⟨⟨y0, y1, y2, y3, y4, y5⟩, -⟩ := Blk.six BY.out
      generalize wr.heap.size = bx at *
      have HK := Lib.hid (rfl : nn.length = nn.length)
      generalize hm : nn.length = m at *
      have HM := Lib.hid hm
      clear hm HK
      go_wp2_with fail
      go_loopw [8] (fun kv wr => ∃ q : Nat, kv = .int .i64 q ∧ q ≤ m ∧ Hid (Below wa.heap.size wa wr)) (fun kv wr => m - (intOf kv).toNat)
      case atStart => exact ⟨0, rfl, by omega, Lib.hid (Below.refl _ _)⟩
      case round =>
        obtain ⟨q, rfl, hq, BQ⟩ := hrel
        have q0 : (0 : Int) ≤ (q : Int) := by omega
        clear x0 x1 x2 x3 x4 x5 y0 y1 y2 y3 y4 y5
        have bx4 := (Blk.six (BX.out.after BQ.out)).1.2.2.2.2.1
        have by4 := (Blk.six (BY.out.after BQ.out)).1.2.2.2.2.1
        by_cases hlq : (q : Int) < m
        · have hqm : q < m := by omega
          have u1 := U1.out.after BQ.out
          have u2 := U2.out.after BQ.out
          obtain ⟨ga, oa, e1, -, d1⟩ := u1 (by rw [HM.out]; omega)
          obtain ⟨gb, ob, e2, -, d2⟩ := u2 (by rw [HM.out]; omega)
          have d1q := d1 q (by rw [HM.out]; exact hqm)
          have d2q := d2 q (by rw [HM.out]; exact hqm)
          rw [e1] at bx4
          rw [e2] at by4
          have DR : Hid (∀ z, Below wr.heap.size wr (wr.drewN z)) := Lib.hid fun z => below_drewN (Below.refl _ _) z
          generalize bAt nn q = val at *
          clear d1 d2 u1 u2 e1 e2 s1 s2 t1 t2
          go_wp2_with fail
          go_quiet (fail)
          have V3 := Lib.hid (below_next' BQ.out (DR.out nq))
          clear DR
          generalize wr.drewN nq = wq at *
          go_wp2_with fail
          go_round
          case rel => exact ⟨q + 1, by go_num, by omega, V3⟩
          case measure => simp [intOf]; omega
        · have hqm : q = m := by omega
          subst hqm
          have V3 := Lib.hid (below_next' V2.out BQ.out)
          clear s1 s2 t1 t2
          go_wp2_with fail
          go_round
          case rel => exact ⟨j + 1, by go_num, by omega, V3⟩
          case measure => simp [intOf]; omega
    · have hjn : j = n := by omega
      subst hjn
      go_wp2_with fail
      go_ret
      exact ⟨rfl, V.out⟩
end Go.Proofs.YtlbhffdpklbhfaaGreat
namespace Go.Proofs.YtlbhffdpklbhfaaGreat
open Go.RowKit
set_option maxRecDepth 100000
set_option linter.unusedVariables false
set_option linter.unusedSimpArgs false
theorem EndR.stay {B : Nat} {R : MS} {va vm : Option Addr} {ca cm : Nat} {L : List CR} {Ls : List MR} {u u' : World} (h : EndR B R va ca vm cm L Ls u) (b : Below u.heap.size u u') : EndR B R va ca vm cm L Ls u' := by
  obtain ⟨⟨B2, h1⟩, ⟨B3, h2⟩, h3, h4⟩ := h
  exact ⟨⟨B2, h1.after b⟩, ⟨B3, h2.after b⟩, h3, h4⟩
theorem EndR.len {B : Nat} {R : MS} {va vm : Option Addr} {ca cm : Nat} {L : List CR} {Ls : List MR} {u : World} (h : EndR B R va ca vm cm L Ls u) : L.length = R.calls.length ∧ Ls.length = R.D.length := by
  refine ⟨by rw [← h.c, List.length_map], ?_⟩
  have := congrArg List.length h.m
  rw [List.length_map] at this
  rw [this]
  unfold mItems
  rw [List.length_map, List.length_range]
theorem EndR.map {B : Nat} {R : MS} {va vm : Option Addr} {ca cm : Nat} {L : List CR} {Ls : List MR} {u : World} (h : EndR B R va ca vm cm L Ls u) {k : Nat} (hk : k < R.D.length) :
    ∃ g, vm = some ⟨g, 0, none⟩ ∧ g < u.heap.size ∧ u.cell? ⟨g, k, none⟩ = some (.slice (mrAt Ls k).a (tItems R.T R.M (k : Int)).length (mrAt Ls k).c) ∧ ItemS u (mrAt Ls k).a (tItems R.T R.M (k : Int)) ∧ (tItems R.T R.M (k : Int)).length ≤ (mrAt Ls k).c ∧ (mrAt Ls k).c ≤ maxLen := by
  have hl := h.len.2
  obtain ⟨_, ⟨B3, h2⟩, _, h4⟩ := h
  have row := h2.row
  have hk2 : k < Ls.length := by omega
  obtain ⟨g, e, _, hg⟩ := own_addr row (by omega)
  subst e
  have ei : itL (mrAt Ls k).L = tItems R.T R.M (k : Int) := by
    have q := congrArg (fun l : List (List It) => l[k]?) h4
    simp only [List.getElem?_map] at q
    unfold mItems at q
    rw [List.getElem?_map, List.getElem?_range hk, List.getElem?_eq_getElem hk2] at q
    simp only [Option.map_some, Option.some.injEq] at q
    unfold mrAt
    rw [List.getD_eq_getElem?_getD, List.getElem?_eq_getElem hk2]
    exact q
  have own := h2.own k hk2
  have hlen : (tItems R.T R.M (k : Int)).length = (mrAt Ls k).L.length := by rw [← ei]; unfold itL; rw [List.length_map]
  unfold mrV at own
  have it := own.items
  have cp := own_caps own.row
  refine ⟨g, rfl, hg, ?_, ?_, by rw [hlen]; exact cp.1, cp.2⟩
  · rw [row.cellAt k (by omega), mrC_at Ls k hk2, hlen]
    rfl
  · rw [← ei]
    exact it.2
theorem cr_same {L L' : List CR} (h : L.map (·.c) = L'.map (·.c)) (k : Nat) (hk : k < L.length) : (crAt L k).c = (crAt L' k).c := by
  have q := congrArg (fun l : List Cl => l[k]?) h
  have hl : L.length = L'.length := by have := congrArg List.length h; simpa using this
  simp only [List.getElem?_map] at q
  rw [List.getElem?_eq_getElem hk, List.getElem?_eq_getElem (by omega)] at q
  simp only [Option.map_some, Option.some.injEq] at q
  unfold crAt
  rw [List.getD_eq_getElem?_getD, List.getD_eq_getElem?_getD, List.getElem?_eq_getElem hk, List.getElem?_eq_getElem (by omega)]
  exact q
structure E2S (w : World) (a b : Array Value) (u : World) : Prop where
  below : Below w.heap.size w u
  x : Blk w.heap.size a 54 u
  y : Blk (w.heap.size + 1) b 54 u
theorem E2S.after {w u u' : World} {a b : Array Value} (h : E2S w a b u) (k : Below u.heap.size u u') : E2S w a b u' := ⟨below_next' h.below k, h.x.after k, h.y.after k⟩
theorem E2S.new (w : World) (a b : Array Value) : E2S w a b ((w.alloc (.cells a 54)).alloc (.cells b 54)) := by
  have b1 := below_alloc (Below.refl w.heap.size w) (.cells a 54)
  have z1 : (w.alloc (.cells a 54)).heap.size = w.heap.size + 1 := by simp
  exact ⟨below_alloc b1 _, (Blk.new w a 54 rfl).after (below_alloc (Below.refl _ _) _), Blk.new _ b 54 z1.symm⟩
set_option maxHeartbeats 8000000 in
theorem r11_Alike (w : World) (R : MS) (N1 N2 : Nat) (va vm va' vm' : Option Addr) (ca cm ca' cm' : Nat) (L L' : List CR) (Ls Ls' : List MR) (h1 : EndR N1 R va ca vm cm L Ls w) (h2 : EndR N2 R va' ca' vm' cm' L' Ls' w) (hI : ∀ i : Nat, OkI (tItems R.T R.M (i : Int))) (hsm : ∀ k, k < R.calls.length → (crAt L k).c.n.length ≤ 8) :
    Calls Tryz.prog 40 #[endV R va ca vm cm, endV R va' ca' vm' cm'] w (Gives (.bool true) w) := by
  have CA := Lib.hid fun u (b : Below w.heap.size w u) => (show Calls Tryz.prog 85 #[.slice va R.calls.length ca, .slice va' R.calls.length ca'] u (Gives (.bool true) u) from by
    obtain ⟨⟨_, q1⟩, _⟩ := h1.stay b
    obtain ⟨⟨_, q2⟩, _⟩ := h2.stay b
    exact r11_calls u va va' ca ca' _ _ _ _ R.calls.length L L' q1 q2 h1.len.1 h2.len.1 (fun k hk => cr_same (h1.c.trans h2.c.symm) k (by rw [h1.len.1]; exact hk)) hsm)
  have MA := Lib.hid fun (k : Nat) (hk : k < R.D.length) u (b : Below w.heap.size w u) => (h1.stay b).map hk
  have MB := Lib.hid fun (k : Nat) (hk : k < R.D.length) u (b : Below w.heap.size w u) => (h2.stay b).map hk
  have SM := Lib.hid fun (k : Nat) u A B c d (x : ItemS u A (tItems R.T R.M (k : Int))) (y : ItemS u B (tItems R.T R.M (k : Int))) hc hd hcm hdm => r9_Same u _ _ A B c d x y (hI k) (hI k) hc hd hcm hdm
  have lim : R.D.length ≤ cm ∧ cm ≤ maxLen ∧ R.D.length ≤ cm' ∧ cm' ≤ maxLen := by
    obtain ⟨_, ⟨_, q1⟩, _, _⟩ := id h1
    obtain ⟨_, ⟨_, q2⟩, _, _⟩ := id h2
    have e1 := own_caps q1.row
    have e2 := own_caps q2.row
    rw [h1.len.2] at e1
    rw [h2.len.2] at e2
    exact ⟨e1.1, e1.2, e2.1, e2.2⟩
  unfold maxLen at lim
  unfold endV
  have Q := Lib.hid (E2S.new w #[.int .i64 (mCode R), .int .i64 R.at_, .int .u64 (mR0 R), .int .i64 R.steps, .slice va R.calls.length ca, .slice vm R.D.length cm] #[.int .i64 (mCode R), .int .i64 R.at_, .int .u64 (mR0 R), .int .i64 R.steps, .slice va' R.calls.length ca', .slice vm' R.D.length cm'])
  clear h1 h2 hI hsm
  generalize mCode R = code at *
  generalize mR0 R = r0 at *
  generalize hD : R.D.length = nd at *
  clear hD
  go_enter Tryz.func40, Tryz.ntmps40
  go_wp2_with fail
  refine (CA.out _ Q.out.below).mono ?_
  rintro e w2 ⟨rfl, b2⟩
  replace Q := Lib.hid (Q.out.after b2)
  obtain ⟨⟨x0, x1, x2, x3, x4, x5⟩, -⟩ := Blk.six Q.out.x
  obtain ⟨⟨y0, y1, y2, y3, y4, y5⟩, -⟩ := Blk.six Q.out.y
  clear b2
  go_wp2_with fail
  clear x0 x1 x2 x3 x4 x5 y0 y1 y2 y3 y4 y5 CA
  go_loopw [5] (fun iv wr => ∃ j : Nat, iv = .int .i64 j ∧ j ≤ nd ∧ Hid (E2S w #[.int .i64 code, .int .i64 R.at_, .int .u64 r0, .int .i64 R.steps, .slice va R.calls.length ca, .slice vm nd cm] #[.int .i64 code, .int .i64 R.at_, .int .u64 r0, .int .i64 R.steps, .slice va' R.calls.length ca', .slice vm' nd cm'] wr)) (fun iv wr => nd - (intOf iv).toNat)
  case atStart => exact ⟨0, rfl, by omega, Q⟩
  case round =>
    obtain ⟨j, rfl, hj, V⟩ := hrel
    have j0 : (0 : Int) ≤ (j : Int) := by omega
    have x5 := (Blk.six V.out.x).1.2.2.2.2.2
    have y5 := (Blk.six V.out.y).1.2.2.2.2.2
    by_cases hlt : (j : Int) < nd
    · have hjn : j < nd := by omega
      obtain ⟨g1, e1, hg1, c1, i1, l1, m1⟩ := MA.out j hjn wr V.out.below
      obtain ⟨g2, e2, hg2, c2, i2, l2, m2⟩ := MB.out j hjn wr V.out.below
      rw [e1] at x5
      rw [e2] at y5
      have KK := Lib.hid fun u (b : Below wr.heap.size wr u) => And.intro (cell_on x5 b) (And.intro (cell_on y5 b) (And.intro (cell_on c1 b) (cell_on c2 b)))
      have SJ := Lib.hid fun u (b : Below wr.heap.size wr u) => SM.out j u _ _ _ _ (i1.after b) (i2.after b) l1 l2 m1 m2
      simp only [decide_true] at SJ
      have HB : Below wr.heap.size wr wr.drew := Below.drew (Below.refl _ _)
      clear e1 e2 i1 i2 l1 l2 m1 m2
      generalize (tItems R.T R.M (j : Int)).length = tn at *
      generalize (mrAt Ls j).a = a1 at *
      generalize (mrAt Ls j).c = d1 at *
      generalize (mrAt Ls' j).a = a2 at *
      generalize (mrAt Ls' j).c = d2 at *
      go_wp2_with fail
      clear x5 y5 c1 c2
      go_region_held3 (fun w' => w'.cell? ⟨w.heap.size, 5, none⟩ = some (.slice (some ⟨g1, 0, none⟩) nd cm) ∧ w'.cell? ⟨w.heap.size + 1, 5, none⟩ = some (.slice (some ⟨g2, 0, none⟩) nd cm') ∧ w'.cell? ⟨g1, j, none⟩ = some (.slice a1 tn d1) ∧ w'.cell? ⟨g2, j, none⟩ = some (.slice a2 tn d2))
        (exact KK.out _ HB)
        (first | (go_at_call 86; refine (SJ.out _ HB).mono ?_; rintro e w4 ⟨rfl, b4⟩; replace HB := below_next' HB b4; clear b4))
      all_goals
        rename_i hh
        clear hh
        have V2 := Lib.hid (V.out.after HB)
        clear HB KK SJ
        go_wp2_with fail
        go_round
        case rel => exact ⟨j + 1, by go_num, by omega, V2⟩
        case measure => simp [intOf]; omega
    · have hjn : j = nd := by omega
      subst hjn
      go_wp2_with fail
      go_ret
      exact ⟨rfl, V.out.below⟩
set_option maxHeartbeats 8000000 in
theorem r11_Same (w : World) (R : MS) (N1 N2 : Nat) (va vm va' vm' : Option Addr) (ca cm ca' cm' : Nat) (L L' : List CR) (Ls Ls' : List MR) (h1 : EndR N1 R va ca vm cm L Ls w) (h2 : EndR N2 R va' ca' vm' cm' L' Ls' w) (hI : ∀ i : Nat, OkI (tItems R.T R.M (i : Int))) (hsm : ∀ k, k < R.calls.length → (crAt L k).c.n.length ≤ 8) :
    Calls Tryz.prog 18 #[endV R va ca vm cm, endV R va' ca' vm' cm'] w (Gives (.bool true) w) := by
  have AL := Lib.hid fun u (b : Below w.heap.size w u) => r11_Alike u R N1 N2 va vm va' vm' ca cm ca' cm' L L' Ls Ls' (h1.stay b) (h2.stay b) hI hsm
  unfold endV at AL
  unfold endV
  have Q := Lib.hid (E2S.new w #[.int .i64 (mCode R), .int .i64 R.at_, .int .u64 (mR0 R), .int .i64 R.steps, .slice va R.calls.length ca, .slice vm R.D.length cm] #[.int .i64 (mCode R), .int .i64 R.at_, .int .u64 (mR0 R), .int .i64 R.steps, .slice va' R.calls.length ca', .slice vm' R.D.length cm'])
  obtain ⟨⟨x0, x1, x2, x3, x4, x5⟩, -⟩ := Blk.six Q.out.x
  obtain ⟨⟨y0, y1, y2, y3, y4, y5⟩, -⟩ := Blk.six Q.out.y
  clear h1 h2 hI hsm
  generalize mCode R = code at *
  generalize mR0 R = r0 at *
  go_enter Tryz.func18, Tryz.ntmps18
  go_wp2_with fail
  refine (AL.out _ Q.out.below).mono ?_
  rintro e w2 ⟨rfl, b2⟩
  replace Q := Lib.hid (Q.out.after b2)
  clear b2 x0 x1 x2 x3 x4 x5 y0 y1 y2 y3 y4 y5
  obtain ⟨⟨x0, x1, x2, x3, x4, x5⟩, -⟩ := Blk.six Q.out.x
  obtain ⟨⟨y0, y1, y2, y3, y4, y5⟩, -⟩ := Blk.six Q.out.y
  go_wp2_with fail
  go_ret
  exact ⟨rfl, Q.out.below⟩
end Go.Proofs.YtlbhffdpklbhfaaGreat
namespace Go.Proofs.YtlbhffdpklbhfaaGreat
open Go.RowKit
set_option maxRecDepth 100000
set_option linter.unusedVariables false
set_option linter.unusedSimpArgs false
def mLaw (l : List Ins) (E : EV) : Option MS := mNew (l.take 520) (E.ctx.take 100) (E.D.take 10) ((eRows E.L).map itL) (E.dr.take 100)
theorem m11_NewLaw (u : World) (l : List Ins) (A : Option Addr) (c : Nat) (E : EV) (L' : List IR) (ia : Option Addr) (ic : Nat) (h : InsS u A l) (hx : OkAll l) (hc : l.length ≤ c) (hcm : c ≤ maxLen) (hs : EnvS u (cutE E L' ia ic)) (hk : (cutE E L' ia ic).ok) (hi : L'.map (·.l) = eRows E.L) :
    Calls Tryz.prog 8 #[.slice A (min 520 l.length) c, envV (cutE E L' ia ic)] u (NewM (mLaw l E) u) := by
  have q := m11_New u (l.take 520) A c (cutE E L' ia ic) (h.take 520) (hx.take 520) (by rw [List.length_take]; omega) (by rw [List.length_take]; omega) hcm hs hk
  have e : itLs L' = (eRows E.L).map itL := by rw [← hi, List.map_map]; rfl
  rw [List.length_take] at q
  unfold mLaw
  rw [← e]
  exact q
theorem law_can {l : List Ins} {E : EV} {S : MS} (hok : E.raw) (h : mLaw l E = some S) : S.can ∧ S.steps = 0 ∧ S.calls = [] ∧ S.over = false ∧ S.D = E.D.take 10 ∧ S.dr = E.dr.take 100 := by
  have e : (eRows E.L).map itL = itLs ((E.L.take 10).map fun r => ⟨none, r.c, eRow r.l.length r.l⟩) := by
    unfold eRows itLs
    rw [List.map_map, List.map_map]
    rfl
  unfold mLaw at h
  rw [e] at h
  refine new_can (fun k hk => ?_) h
  rw [List.length_map] at hk
  have hk2 : k < (E.L.take 10).length := hk
  rw [List.length_take] at hk2
  have e2 : irAt ((E.L.take 10).map fun r => (⟨none, r.c, eRow r.l.length r.l⟩ : IR)) k = ⟨none, (irAt E.L k).c, eRow (irAt E.L k).l.length (irAt E.L k).l⟩ := by
    unfold irAt
    rw [List.getD_eq_getElem?_getD, List.getD_eq_getElem?_getD, List.getElem?_map, List.getElem?_take, if_pos (by omega), List.getElem?_eq_getElem (by omega)]
    rfl
  rw [e2]
  obtain ⟨h1, h2, h3⟩ := hok.i.1 k (by omega)
  have hl := eRow_len (irAt E.L k).l.length (irAt E.L k).l
  have hl2 : (eRow (irAt E.L k).l.length (irAt E.L k).l).length ≤ (irAt E.L k).l.length := by
    have q := List.length_filter_le shortI ((irAt E.L k).l.take (min (irAt E.L k).l.length 20))
    rw [List.length_take] at q
    unfold eRow
    omega
  refine ⟨Nat.le_trans hl (by omega), fun j hj => ?_, Nat.le_trans hl2 h2, h3⟩
  obtain ⟨i, hi, ei⟩ := eRow_mem hj
  show ItmOk (xAt (eRow (irAt E.L k).l.length (irAt E.L k).l) j)
  rw [ei]
  exact h1 i hi
end Go.Proofs.YtlbhffdpklbhfaaGreat
namespace Go.Proofs.YtlbhffdpklbhfaaGreat
open Go.RowKit
set_option maxRecDepth 100000
set_option linter.unusedVariables false
set_option linter.unusedSimpArgs false
theorem items_okM {T : TT} {M : PM} {i : Int} (hT : TOk T) (hM : PMok M) : OkI (tItems T M i) := by
  have all : ∀ p ∈ tItems T M i, OkB p.1 ∧ OkB p.2 := fun p hp => by
    unfold tItems at hp
    split at hp
    · rename_i hi
      obtain ⟨y, hy, rfl⟩ := List.mem_map.1 hp
      refine ⟨((hT i.toNat (by omega)).keys y hy).1, ?_⟩
      dsimp only
      unfold pArea
      cases hx : pIx M (tArea i y.s) with
      | none => exact fun k hk => absurd hk (by simp)
      | some k => exact (hM k (pIx_some hx).1).1
    · cases hp
  exact fun k hk => all _ (by unfold itA; rw [List.getD_eq_getElem?_getD, List.getElem?_eq_getElem hk]; exact List.getElem_mem hk)
theorem sysX_items {w : World} {g : Nat} {S : MS} {H : Nat → Prop} (h : (sysX g S).R w H) : ∀ i : Nat, OkI (tItems S.T S.M (i : Int)) := by
  obtain ⟨gm, gt, FT, _, _, hT, _, _⟩ := sysX_map h
  obtain ⟨F, G, hD, _⟩ := hT
  obtain ⟨vl, L, e, _, h2, _⟩ := hD.maps
  exact fun i => items_okM (h2.ok) hD.mem.ok
theorem sysX_small {w : World} {g : Nat} {S : MS} {H : Nat → Prop} (h : (sysX g S).R w H) {L : List CR} (hL : L.map (·.c) = S.calls) : ∀ k, k < S.calls.length → (crAt L k).c.n.length ≤ 8 := by
  obtain ⟨A0, c0, L0, _, _, _, ho, hl, hm⟩ := sysX_calls h
  intro k hk
  have hL2 : L.length = S.calls.length := by rw [← hL, List.length_map]
  have e := cr_same (hL.trans hm.symm) k (by omega)
  rw [e]
  exact (ho k hk).c.2.2.2.2.2.1
theorem EndR.turn {B : Nat} {R : MS} {va vm : Option Addr} {ca cm : Nat} {L : List CR} {Ls : List MR} {u u' : World} {F : Nat → Prop} (h : EndR B R va ca vm cm L Ls u) (t : Turn F u u') (hF : ∀ x, F x → x < B) : EndR B R va ca vm cm L Ls u' := by
  obtain ⟨⟨B2, h1⟩, ⟨B3, h2⟩, h3, h4⟩ := h
  have q : ∀ x, B ≤ x → x < u.heap.size → u'.heap[x]? = u.heap[x]? := fun x hx hl => t.block x hl (fun f => by have := hF x f; omega)
  exact ⟨⟨B2, h1.stay q⟩, ⟨B3, h2.stay t.size q⟩, h3, h4⟩
theorem Turn.blk {F : Nat → Prop} {u u' : World} {g : Nat} {cs : Array Value} {t : TypeId} (h : Turn F u u') (b : Blk g cs t u) (hg : ¬ F g) : Blk g cs t u' := b.same (h.block g b.lt hg)
abbrev endC (S : MS) (va : Option Addr) (ca : Nat) (vm : Option Addr) (cm : Nat) : Array Value := #[.int .i64 (mCode S), .int .i64 S.at_, .int .u64 (mR0 S), .int .i64 S.steps, .slice va S.calls.length ca, .slice vm S.D.length cm]
end Go.Proofs.YtlbhffdpklbhfaaGreat
namespace Go.Proofs.YtlbhffdpklbhfaaGreat
open Go.RowKit
set_option maxRecDepth 100000
set_option linter.unusedVariables false
set_option linter.unusedSimpArgs false
theorem two_bytes (u : World) (g : Nat) (A : Option Addr) (b : List Int) (c : Nat) (ho : u.ownsRow g 5 1 (.slice (some ⟨g, 0, none⟩) 0 0) 0 []) (h : BytS u A b) (hl : b.length ≤ 1000) (hc : b.length ≤ c) (hcm : c ≤ maxLen) (hg : g < u.heap.size) (ty : TypeId) :
    ∃ A' c' u', (Builtin.append_ #[23, 23] ty #[.slice (some ⟨g, 0, none⟩) 0 0, .slice A b.length c]).run Tryz.prog u = .ok (.slice A' b.length c') u' ∧ u'.ownsRow g 5 1 (.slice A' b.length c') b.length (byC b) ∧ u.grownBy u' (some g) := by
  obtain ⟨i1, hi1, hz, hs, hby⟩ := info_parts (show (Tryz.prog.info? 5).map (fun i => (i.zero, i.size, i.bytes)) = some (some (.int .u8 0), 1, 1) by kernel_rfl)
  unfold maxLen at hcm
  cases A with
  | none =>
    have h0 := bytS_none h rfl
    have hb : b = [] := List.eq_nil_of_length_eq_zero h0
    subst hb
    exact ⟨some ⟨g, 0, none⟩, 0, u, append_none u _ ty _ i1 Tryz.underlying23 hi1 g none c, ho, Go.World.grownBy.refl _ _⟩
  | some a =>
    obtain ⟨v', w4, hr, ho2, hg2, _⟩ := run_append_own_at (P := Tryz.prog) (w := u) g 23 ty 5 i1 (.int .u8 0) 1 1 Tryz.underlying23 hi1 hz hs hby rfl (by omega) _ _ _ ho a b.length c (byC b) (by simp [byC])
      (bytS_news h a rfl) (byC_one b) (by unfold maxLen; omega) (by omega) (by omega)
    rw [Nat.zero_add, List.nil_append] at ho2
    obtain ⟨A3, c3, rfl, _, _⟩ := own_slice ho2
    exact ⟨A3, c3, w4, hr, ho2, hg2⟩
theorem two_insns (u : World) (g : Nat) (A : Option Addr) (l : List Ins) (c : Nat) (ho : u.ownsRow g 63 5 (.slice (some ⟨g, 0, none⟩) 0 0) 0 []) (h : InsS u A l) (hl : l.length ≤ 1000) (hc : l.length ≤ c) (hcm : c ≤ maxLen) (hg : g < u.heap.size) (ty : TypeId) :
    ∃ A' c' u', (Builtin.append_ #[22, 22] ty #[.slice (some ⟨g, 0, none⟩) 0 0, .slice A l.length c]).run Tryz.prog u = .ok (.slice A' l.length c') u' ∧ u'.ownsRow g 63 5 (.slice A' l.length c') l.length (inC l) ∧ u.grownBy u' (some g) := by
  obtain ⟨i1, hi1, hz, hs, hby⟩ := info_parts (show (Tryz.prog.info? 63).map (fun i => (i.zero, i.size, i.bytes)) = some (some (.agg #[.int .u8 0, .int .u8 0, .int .u8 0, .int .i16 0, .int .i32 0]), 5, 12) by kernel_rfl)
  unfold maxLen at hcm
  cases A with
  | none =>
    have h0 := insS_none h rfl
    have hb : l = [] := List.eq_nil_of_length_eq_zero h0
    subst hb
    exact ⟨some ⟨g, 0, none⟩, 0, u, append_none u _ ty _ i1 Tryz.underlying22 hi1 g none c, ho, Go.World.grownBy.refl _ _⟩
  | some a =>
    obtain ⟨v', w4, hr, ho2, hg2, _⟩ := run_append_own_at (P := Tryz.prog) (w := u) g 22 ty 63 i1 (.agg #[.int .u8 0, .int .u8 0, .int .u8 0, .int .i16 0, .int .i32 0]) 5 12 Tryz.underlying22 hi1 hz hs hby rfl (by omega) _ _ _ ho a l.length c (inC l) (inC_len l)
      (inS_news h a rfl) (inC_one l) (by unfold maxLen; omega) (by omega) (by omega)
    rw [Nat.zero_add, List.nil_append] at ho2
    obtain ⟨A3, c3, rfl, _, _⟩ := own_slice ho2
    exact ⟨A3, c3, w4, hr, ho2, hg2⟩
end Go.Proofs.YtlbhffdpklbhfaaGreat
