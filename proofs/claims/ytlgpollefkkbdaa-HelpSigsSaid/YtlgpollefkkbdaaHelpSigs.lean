/-
  The statement HelpSigs, walked: what a helper is told, and tells, what it draws, and whether it may be told something, is the document's.
  Conditions: the rows lie where they are said to; the numbers fit their kinds.
-/
import Derived.Test.YtlgpollefkkbdaaHelp8
import Derived.Test.YtlgpollefkkbdaaHelpOpen
import Derived.Deep.DeepCutAuto
namespace Go.Proofs.Ytlgpollefkkbdaa
open Go.RowKit
set_option maxRecDepth 100000
set_option linter.unusedVariables false
set_option linter.unusedSimpArgs false

set_option maxHeartbeats 2000000 in
theorem l10_HelpSigs (i : Int) (l told : List Int) (A B : Option Addr) (c d : Nat) (w : World) (hl : NumS w A l) (hlo : OkN l) (hlc : l.length ≤ c) (hc : c ≤ maxLen) (ht : BytS w B told) (hto : OkB told) (htd : told.length ≤ d) (hd : d ≤ maxLen) :
    Calls Try.prog 3 #[.int .i64 i, .slice A l.length c, .slice B told.length d] w (Fine w) := by
  have SH := Lib.hid l10_shown
  have S1 := Lib.hid fun u => h10_Sig i u
  have S2 := Lib.hid fun u => r10_Sig i u
  have HT := hS_told i
  obtain ⟨q1, q2⟩ := few_nums hl hlo 100
  have hk : (l.take 100).length = min 100 l.length := List.length_take
  have hk2 : (told.take 20).length = min 20 told.length := List.length_take
  have D1 : Hid (∀ u, NumS u A (l.take 100) → Calls Try.prog 10 #[.int .i64 i, .slice A (l.take 100).length c] u (DrawW (hDr i (l.take 100)) u)) := Lib.hid fun u h => h10_Draw i _ A c u (by omega) (by omega) hc h q2
  have D2 : Hid (∀ u, NumS u A (l.take 100) → Calls Try.prog 11 #[.int .i64 i, .slice A (l.take 100).length c] u (DrawW (hDr i (l.take 100)) u)) := Lib.hid fun u h => r10_Draw i _ A c u (by omega) (by omega) hc h q2
  have R1 : Hid (∀ u, BytS u B (told.take 20) → Calls Try.prog 15 #[.int .i64 i, .slice B (told.take 20).length d] u (Gives (.bool (hRt i (told.take 20))) u)) := Lib.hid fun u h => h10_Right i _ B _ d u rfl (by omega) hd h (okB_take hto 20)
  have R2 : Hid (∀ u, BytS u B (told.take 20) → Calls Try.prog 16 #[.int .i64 i, .slice B (told.take 20).length d] u (Gives (.bool (hRt i (told.take 20))) u)) := Lib.hid fun u h => r10_Right i _ B _ d u rfl (by omega) (by omega) h
  have SM : Hid (∀ A1 B1 c1 d1 u, BytS u A1 (hS i).told → BytS u B1 (hS i).told → Calls Try.prog 13 #[.agg #[.slice A1 (hS i).told.length c1, .int .u8 (hS i).tells, .bool (hS i).draws, .int .u64 (hS i).most], .agg #[.slice B1 (hS i).told.length d1, .int .u8 (hS i).tells, .bool (hS i).draws, .int .u64 (hS i).most]] u (Gives (.bool true) u)) := Lib.hid fun A1 B1 c1 d1 u h h' => r10_Same (hS i) A1 B1 _ c1 d1 u rfl (by omega) h h'
  have hdl : (hDr i (l.take 100)).2.1.length ≤ 100000 := by
    unfold hDr
    split
    · split
      · simp
      · rename_i n r hr
        have : (n :: r).length = min 100 l.length := by rw [← hr]; exact hk
        simp only [List.length_cons] at this
        simp only
        omega
    · simp
  have HQ := Lib.hid q1
  have HB := Lib.hid (bytS_take ht 20)
  clear hl hlo ht hto q1 q2 HT
  generalize hDr i (l.take 100) = dr at *
  generalize hRt i (told.take 20) = rt at *
  have NM : Hid (∀ A1 B1 c1 d1 u, NumS u A1 dr.2.1 → NumS u B1 dr.2.1 → Calls Try.prog 14 #[.slice A1 dr.2.1.length c1, .slice B1 dr.2.1.length d1] u (Gives (.bool true) u)) := Lib.hid fun A1 B1 c1 d1 u h h' => by
    have := l10_nums dr.2.1 dr.2.1 A1 B1 c1 d1 u hdl hdl h h'
    rwa [show (dr.2.1 == dr.2.1) = true by simp] at this
  obtain ⟨dn, dl, de⟩ := dr
  dsimp only at *
  generalize hok : hOk i = ok at *
  generalize hSi : hS i = S at *
  obtain ⟨pre, tells, draws, most⟩ := S
  unfold SigW sgV at S1 S2
  dsimp only at *
  generalize l.take 100 = lq at *
  generalize told.take 20 = tq at *
  have g2 : min (l.length : Int) 100 = lq.length := by omega
  have g3 : min (told.length : Int) 20 = tq.length := by omega
  clear hok hSi hdl
  unfold maxLen at hc hd
  generalize l.length = n at *
  generalize told.length = m at *
  generalize lq.length = k at *
  generalize tq.length = t at *
  have a1 : (0 : Int) ≤ k := by omega
  have a2 : (k : Int) ≤ c := by omega
  have a3 : (0 : Int) ≤ t := by omega
  have a4 : (t : Int) ≤ d := by omega
  clear hk hk2
  go_enter Try.func3, Try.ntmps3
  go_upto_region 1 with fail
  go_cut [7, 8] (fun x y w1 => x = .slice A k c ∧ y = .slice B t d ∧ Hid (Below w.heap.size w w1))
  case first =>
    go_quiet (fail)
    have e1 : (if (100 : Int) < n then (100 : Int) else n).toNat = k := by omega
    have e2 : (if (20 : Int) < m then (20 : Int) else m).toNat = t := by omega
    simp only [e1, e2]
    generalize (if (100 : Int) < n then (100 : Int) else n) = v1
    generalize (if (20 : Int) < m then (20 : Int) else m) = v2
    go_wp2_with fail
    go_meet
    case rel => exact ⟨rfl, rfl, Lib.hid (below_drewN (Below.refl _ _) _)⟩
  obtain ⟨rfl, rfl, V⟩ := hcut
  generalize hpl : pre.length = pl at *
  have HPL := Lib.hid hpl
  clear hpl
  go_wp2_with fail
  refine (S1.out _).mono ?_
  rintro e w2 ⟨A1, c1, rfl, b2, o2⟩
  have P1 := Lib.hid (own_bytS HPL.out.symm o2)
  replace V := Lib.hid (below_next' V.out b2)
  clear b2 o2
  have Z1 := Lib.hid (Blk.new w2 #[.slice A1 pl c1, .int .u8 tells, .bool draws, .int .u64 most] 26 rfl)
  replace P1 := Lib.hid (P1.out.after (below_alloc (Below.refl _ _) (.cells #[.slice A1 pl c1, .int .u8 tells, .bool draws, .int .u64 most] 26)))
  replace V := Lib.hid (below_alloc V.out (.cells #[.slice A1 pl c1, .int .u8 tells, .bool draws, .int .u64 most] 26))
  go_wp2_with fail
  generalize hg1 : w2.heap.size = gs1 at *
  clear hg1
  generalize w2.alloc (.cells #[.slice A1 pl c1, .int .u8 tells, .bool draws, .int .u64 most] 26) = w3 at *
  refine (S2.out _).mono ?_
  rintro e w4 ⟨B1, d1, rfl, b4, o4⟩
  have P2 := Lib.hid (own_bytS HPL.out.symm o4)
  replace V := Lib.hid (below_next' V.out b4)
  replace Z1 := Lib.hid (Z1.out.after b4)
  replace P1 := Lib.hid (P1.out.after b4)
  clear b4 o4
  have Z2 := Lib.hid (Blk.new w4 #[.slice B1 pl d1, .int .u8 tells, .bool draws, .int .u64 most] 26 rfl)
  replace P1 := Lib.hid (P1.out.after (below_alloc (Below.refl _ _) (.cells #[.slice B1 pl d1, .int .u8 tells, .bool draws, .int .u64 most] 26)))
  replace P2 := Lib.hid (P2.out.after (below_alloc (Below.refl _ _) (.cells #[.slice B1 pl d1, .int .u8 tells, .bool draws, .int .u64 most] 26)))
  replace Z1 := Lib.hid (Z1.out.after (below_alloc (Below.refl _ _) (.cells #[.slice B1 pl d1, .int .u8 tells, .bool draws, .int .u64 most] 26)))
  replace V := Lib.hid (below_alloc V.out (.cells #[.slice B1 pl d1, .int .u8 tells, .bool draws, .int .u64 most] 26))
  go_wp2_with fail
  generalize hg2 : w4.heap.size = gs2 at *
  clear hg2
  generalize w4.alloc (.cells #[.slice B1 pl d1, .int .u8 tells, .bool draws, .int .u64 most] 26) = w5 at *
  refine (D1.out _ (HQ.out.after V.out)).mono ?_
  rintro e w6 ⟨A2, c2, rfl, b6, o6⟩
  have N1 := Lib.hid (own_numS rfl o6)
  replace V := Lib.hid (below_next' V.out b6)
  replace P1 := Lib.hid (P1.out.after b6)
  replace P2 := Lib.hid (P2.out.after b6)
  replace Z1 := Lib.hid (Z1.out.after b6)
  replace Z2 := Lib.hid (Z2.out.after b6)
  clear b6 o6
  dsimp only at N1 ⊢
  go_wp2_with fail
  refine (D2.out _ (HQ.out.after V.out)).mono ?_
  rintro e w7 ⟨B2, d2, rfl, b7, o7⟩
  have N2 := Lib.hid (own_numS rfl o7)
  replace V := Lib.hid (below_next' V.out b7)
  replace P1 := Lib.hid (P1.out.after b7)
  replace P2 := Lib.hid (P2.out.after b7)
  replace Z1 := Lib.hid (Z1.out.after b7)
  replace Z2 := Lib.hid (Z2.out.after b7)
  replace N1 := Lib.hid (N1.out.after b7)
  clear b7 o7
  dsimp only at N2 ⊢
  generalize dl.length = dm at *
  go_wp2_with fail
  refine (SH.out _).mono ?_
  rintro e w8 ⟨rfl, b8⟩
  replace V := Lib.hid (below_next' V.out b8)
  replace P1 := Lib.hid (P1.out.after b8)
  replace P2 := Lib.hid (P2.out.after b8)
  replace Z1 := Lib.hid (Z1.out.after b8)
  replace Z2 := Lib.hid (Z2.out.after b8)
  replace N1 := Lib.hid (N1.out.after b8)
  replace N2 := Lib.hid (N2.out.after b8)
  clear b8
  obtain ⟨⟨x0, x1, x2, x3⟩, -⟩ := Blk.four Z1.out
  obtain ⟨⟨y0, y1, y2, y3⟩, -⟩ := Blk.four Z2.out
  go_wp2_with fail
  refine (SM.out _ _ _ _ _ P1.out P2.out).mono ?_
  rintro e w9 ⟨rfl, b9⟩
  replace V := Lib.hid (below_next' V.out b9)
  replace N1 := Lib.hid (N1.out.after b9)
  replace N2 := Lib.hid (N2.out.after b9)
  clear b9 x0 x1 x2 x3 y0 y1 y2 y3 P1 P2 Z1 Z2
  go_wp2_with fail
  refine (NM.out _ _ _ _ _ N1.out N2.out).mono ?_
  rintro e w10 ⟨rfl, b10⟩
  replace V := Lib.hid (below_next' V.out b10)
  clear b10 N1 N2
  go_wp2_with fail
  refine (R1.out _ (HB.out.after V.out)).mono ?_
  rintro e w11 ⟨rfl, b11⟩
  replace V := Lib.hid (below_next' V.out b11)
  clear b11
  go_wp2_with fail
  refine (R2.out _ (HB.out.after V.out)).mono ?_
  rintro e w12 ⟨rfl, b12⟩
  replace V := Lib.hid (below_next' V.out b12)
  clear b12
  go_wp2_with fail
  go_ret
  exact ⟨rfl, V.out⟩

end Go.Proofs.Ytlgpollefkkbdaa
