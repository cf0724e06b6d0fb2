/-
  Texts, one behind the other: MachTwice, Leaf, Frame, Base, BytOpen.
  Conditions: those that each theorem states.
-/
import Derived.Deep.DeepCutAuto
import Derived.LoopTactic
import Derived.Deep.RegionHeld3
import Derived.Laws.AppendOwn
import Derived.Lib.AppendZeros
import Derived.Deep.RegionHeld
import Derived.Test.YtlbhffdpklbhfaaGreatPz48
import Derived.Test.YtlbhffdpklbhfaaGreatPz29
import Derived.Test.YtlbhffdpklbhfaaGreatPz49
import Derived.Test.YtlbhffdpklbhfaaGreatPw1
import Derived.Test.YtlbhffdpklbhfaaGreatPz40
import Derived.Test.YtlbhffdpklbhfaaGreatPz37
import Derived.Test.YtlbhffdpklbhfaaGreatPz50
import Derived.WalkKit
import Derived.ProofKit
import Derived.OpenShut
import Derived.Test.YtlbhffdpklbhfaaGreatRows
import Derived.ChangeOld
import Derived.Below
import Derived.Carry
import Derived.Deep.Slices
import Derived.ChangeSlices
import Derived.Test.YtlbhffdpklbhfaaGreatPz1
namespace Go.Proofs.YtlbhffdpklbhfaaGreat
open Go.RowKit
set_option maxRecDepth 100000
set_option linter.unusedVariables false
set_option linter.unusedSimpArgs false
theorem row_write {w : World} {base n c g q : Nat} {e : TypeId} {A : Option Addr} {xs : List Value} (h : w.ownsRow base e 1 (.slice A n c) n xs) (u : Value) : ∃ ys, (w.setCell ⟨g, q, none⟩ u).ownsRow base e 1 (.slice A n c) n ys := by
  by_cases hb : (Value.slice A n c).ownBlock = some g
  · rcases h.2 with h' | ⟨g', cap', cur, h', _⟩
    · rw [h'.1] at hb
      simp [Value.ownBlock] at hb
    · have e' := h'
      simp only [Value.slice.injEq, true_and] at e'
      obtain ⟨rfl, rfl⟩ := e'
      have eg : g' = g := by simpa [Value.ownBlock] using hb
      subst eg
      exact ⟨_, (h.stored q u).1⟩
  · exact ⟨xs, ownsRow_setCell_other h hb u⟩
def KWI (D2 : Nat) (L : List CR) (w15 wr : World) : Prop := Turn (fun x => D2 ≤ x ∧ x < w15.heap.size) w15 wr ∧ ∀ k, k < L.length → ∃ ys, wr.ownsRow D2 5 1 (.slice (crAt L k).ka (crAt L k).c.k.length (crAt L k).kc) (crAt L k).c.k.length ys
theorem KWI.store {D2 g q : Nat} {L : List CR} {w15 wr : World} (h : KWI D2 L w15 wr) (hg : D2 ≤ g ∧ g < w15.heap.size) (u : Value) : KWI D2 L w15 (wr.setCell ⟨g, q, none⟩ u) :=
  ⟨h.1.setCell (p := ⟨g, q, none⟩) (.inl hg) u, fun k hk => by
    obtain ⟨ys, o⟩ := h.2 k hk
    exact row_write o u⟩
theorem KWI.after {D2 : Nat} {L : List CR} {w15 wr u : World} (h : KWI D2 L w15 wr) (b : Below wr.heap.size wr u) : KWI D2 L w15 u :=
  ⟨h.1.next b, fun k hk => by
    obtain ⟨ys, o⟩ := h.2 k hk
    exact ⟨ys, own_after o b⟩⟩
theorem m11_NewTwo (u : World) (l : List Ins) (E : EV) (L' : List IR) (ia : Option Addr) (ic : Nat) (Ap : Option Addr) (cp : Nat) (Ac : Option Addr) (cc : Nat) (hx : OkAll l) (h : InsS u Ap (l.take 520)) (hcp : (l.take 520).length ≤ cp) (hcp2 : cp ≤ maxLen) (hs : EnvS u (cutE E L' ia ic)) (hb : BytS u Ac (E.ctx.take 100)) (h4 : (E.ctx.take 100).length ≤ cc) (h5 : cc ≤ maxLen) (hk : (cutE E L' ia ic).ok) (hi : L'.map (·.l) = eRows E.L) :
    Calls Tryz.prog 8 #[.slice Ap (l.take 520).length cp, envV { cutE E L' ia ic with ca := Ac, cc := cc }] u (NewM (mLaw l E) u) := by
  have q := m11_New u (l.take 520) Ap cp { cutE E L' ia ic with ca := Ac, cc := cc } h (hx.take 520) (by rw [List.length_take]; omega) hcp hcp2 ⟨hb, hs.d, hs.i, hs.n⟩ ⟨⟨hk.c.1, h4, h5⟩, hk.d, hk.i, hk.n⟩
  have e : itLs L' = (eRows E.L).map itL := by rw [← hi, List.map_map]; rfl
  unfold mLaw
  rw [← e]
  exact q
set_option maxHeartbeats 2000000 in
theorem l11_Twice_none (w : World) (l : List Ins) (A : Option Addr) (c : Nat) (E : EV) (f1 : Int) (h : InsS w A l) (hx : OkAll l) (hc : l.length ≤ c) (hcm : c ≤ maxLen) (hE : EnvS w E) (hok : E.raw) (ho : mLaw l E = none) :
    Calls Tryz.prog 6 #[.slice A l.length c, envV E, .int .u16 f1] w (Gives (.bool true) w) := by
  have SH := Lib.hid fun u => l11_shown u
  have FW := Lib.hid fun u => l11_few u A l.length c hc hcm
  have EN := Lib.hid fun u (b : Below w.heap.size w u) => l11_env u E (hE.after b) hok
  have NW := Lib.hid fun u L' ia ic (b : Below w.heap.size w u) hs hk hi => m11_NewLaw u l A c E L' ia ic (h.after b) hx hc hcm hs hk hi
  have NPX := Lib.hid fun u L' ia ic Ap cp Ac cc (q : InsS u Ap (l.take 520)) (hcp : (l.take 520).length ≤ cp) (hcp2 : cp ≤ maxLen) (q2 : EnvS u (cutE E L' ia ic)) (q3 : BytS u Ac (E.ctx.take 100)) (h4 : (E.ctx.take 100).length ≤ cc) (h5 : cc ≤ maxLen) hk hi => m11_NewTwo u l E L' ia ic Ap cp Ac cc hx q hcp hcp2 q2 q3 h4 h5 hk hi
  have IN := Lib.hid fun u (b : Below w.heap.size w u) => (h.after b).take 520
  have hl5 : (l.take 520).length = min 520 l.length := by rw [List.length_take]
  rw [ho] at NW NPX
  unfold envV at EN NW NPX
  unfold envV
  have Q := Lib.hid (EQ.new w (.slice E.ca E.ctx.length E.cc) (.slice E.da E.D.length E.dc) (.slice E.ia E.L.length E.ic) (.slice E.na E.dr.length E.nc))
  clear h hx hE
  rw [hl5] at NPX
  generalize hll : l.length = nl at *
  clear hll
  unfold maxLen at hcm
  go_enter Tryz.func6, Tryz.ntmps6
  go_wp2_with fail
  refine (SH.out _).mono ?_
  rintro e w2 ⟨rfl, b2⟩
  replace Q := Lib.hid (Q.out.after b2)
  obtain ⟨q0, q1, q2, q3⟩ := Q.out.cells
  clear b2 SH
  go_wp2_with fail
  refine (EN.out _ Q.out.bl).mono ?_
  rintro e w3 ⟨ia1, ic1, L1, rfl, hs, hk, hi, b3⟩
  have NC := Lib.hid fun u (b : Below w.heap.size w u) (q : EnvS u (cutE E L1 ia1 ic1)) => NW.out u L1 ia1 ic1 b q hk hi
  have NP := Lib.hid fun u Ap cp Ac cc (q : InsS u Ap (l.take 520)) (hcp : min 520 nl ≤ cp) (hcp2 : cp ≤ maxLen) (q2 : EnvS u (cutE E L1 ia1 ic1)) (q3 : BytS u Ac (E.ctx.take 100)) (h4 : (E.ctx.take 100).length ≤ cc) (h5 : cc ≤ maxLen) => NPX.out u L1 ia1 ic1 Ap cp Ac cc q hcp hcp2 q2 q3 h4 h5 hk hi
  have HCK := Lib.hid hk
  clear NW NPX hi hk
  generalize hC : cutE E L1 ia1 ic1 = C at *
  replace hC := Lib.hid hC
  unfold envV
  have B3 := Lib.hid (below_next' Q.out.bl b3)
  have B4 := Lib.hid (below_alloc B3.out (.cells #[.slice C.ca C.ctx.length C.cc, .slice C.da C.D.length C.dc, .slice C.ia C.L.length C.ic, .slice C.na C.dr.length C.nc] 28))
  have HS := Lib.hid (hs.after (below_alloc (Below.refl w3.heap.size w3) (.cells #[.slice C.ca C.ctx.length C.cc, .slice C.da C.D.length C.dc, .slice C.ia C.L.length C.ic, .slice C.na C.dr.length C.nc] 28)))
  have BX := Lib.hid (Blk.new w3 #[.slice C.ca C.ctx.length C.cc, .slice C.da C.D.length C.dc, .slice C.ia C.L.length C.ic, .slice C.na C.dr.length C.nc] 28 rfl)
  clear hs b3 EN Q q0 q1 q2 q3
  have HCX : Hid (C.ctx = E.ctx.take 100) := Lib.hid (by rw [← hC.out]; rfl)
  have HCL : C.ctx.length ≤ 100 := by rw [HCX.out, List.length_take]; omega
  go_upto_region 3 with fail
  generalize w3.alloc (.cells #[.slice C.ca C.ctx.length C.cc, .slice C.da C.D.length C.dc, .slice C.ia C.L.length C.ic, .slice C.na C.dr.length C.nc] 28) = w4 at *
  generalize w3.heap.size = gx at *
  clear B3
  obtain ⟨⟨y0, y1, y2, y3⟩, -⟩ := Blk.fou BX.out
  have z1 := Blk.lt BX.out
  have D4 := below_alloc (Below.refl w4.heap.size w4) (.cells #[] 5)
  obtain ⟨Ac, cc, w5, hr, ho5, hg5⟩ := two_bytes (w4.alloc (.cells #[] 5)) w4.heap.size C.ca C.ctx C.cc (own_empty w4 _ 1) (HS.out.c.after D4) (by omega) HCK.out.c.2.1 HCK.out.c.2.2 (by simp) 23
  have b5 : Below w4.heap.size w4 w5 := ((Turn.of_below (F := fun _ => False) D4).grown hg5 (fun k hk => .inr (by injection hk with e; omega))).below (Nat.le_refl _) (fun _ _ h => h)
  have OC5 := Lib.hid ho5
  have S45 := Lib.hid b5.size
  have W04 := Lib.hid B4.out.size
  have hc5 := own_caps ho5
  have BX5 := Lib.hid (BX.out.after b5)
  have HS5 := Lib.hid (HS.out.after b5)
  have B5 := Lib.hid (below_next' B4.out b5)
  clear ho5 hg5 b5 D4 HS BX B4
  obtain ⟨⟨v0, v1, v2, v3⟩, -⟩ := Blk.fou BX5.out
  have z5 := Blk.lt BX5.out
  go_wp2_with ((at_builtin; refine Lib.wpList_append_run _ rfl (.tmp 26) (.tmp 28) _ _ rfl _ _ rfl rfl _ _ hr ?_))
  clear hr y0 y1 y2 y3 z1 v0 v1 v2 v3 z5
  have D5 := below_alloc (Below.refl w5.heap.size w5) (.cells #[.slice Ac C.ctx.length cc, .slice C.da C.D.length C.dc, .slice C.ia C.L.length C.ic, .slice C.na C.dr.length C.nc] 28)
  have S46 := Lib.hid (Nat.le_trans S45.out D5.size)
  have BY6 := Lib.hid (Blk.new w5 #[.slice Ac C.ctx.length cc, .slice C.da C.D.length C.dc, .slice C.ia C.L.length C.ic, .slice C.na C.dr.length C.nc] 28 rfl)
  have BX6 := Lib.hid (BX5.out.after D5)
  have HS6 := Lib.hid (HS5.out.after D5)
  have OC6 := Lib.hid (own_after OC5.out D5)
  have B6 := Lib.hid (below_next' B5.out D5)
  have z6 : (w5.alloc (.cells #[.slice Ac C.ctx.length cc, .slice C.da C.D.length C.dc, .slice C.ia C.L.length C.ic, .slice C.na C.dr.length C.nc] 28)).heap.size = w5.heap.size + 1 := by simp
  clear D5 BX5 HS5 OC5 B5
  generalize w5.alloc (.cells #[.slice Ac C.ctx.length cc, .slice C.da C.D.length C.dc, .slice C.ia C.L.length C.ic, .slice C.na C.dr.length C.nc] 28) = w6 at *
  generalize w5.heap.size = gy at *
  have D6 := below_alloc (Below.refl w6.heap.size w6) (.cells #[] 63)
  have OE := own_empty w6 63 5
  have zE : w6.heap.size < (w6.alloc (.cells #[] 63)).heap.size := by simp
  refine (FW.out _).mono ?_
  rintro e w7 ⟨rfl, b7⟩
  have D7 := below_next' D6 b7
  obtain ⟨Ap, cp, w8, hr2, ho8, hg8⟩ := two_insns w7 w6.heap.size A (l.take 520) c (own_after OE b7) (IN.out w7 (below_next' B6.out D7)) (by omega) (by omega) (by unfold maxLen; omega) (Nat.lt_of_lt_of_le zE b7.size) 22
  rw [hl5] at hr2 ho8
  rw [z6] at hr2
  have b8 : Below w6.heap.size w6 w8 := ((Turn.of_below (F := fun _ => False) D7).grown hg8 (fun k hk => .inr (by injection hk with e; omega))).below (Nat.le_refl _) (fun _ _ h => h)
  have OP8 := Lib.hid ho8
  have hc8 := own_caps ho8
  have BX8 := Lib.hid (BX6.out.after b8)
  have BY8 := Lib.hid (BY6.out.after b8)
  have HS8 := Lib.hid (HS6.out.after b8)
  have OC8 := Lib.hid (own_after OC6.out b8)
  have B8 := Lib.hid (below_next' B6.out b8)
  have RC8 : Hid (∀ x, (Value.slice Ac C.ctx.length cc).ownBlock = some x → w4.heap.size ≤ x ∧ x < w6.heap.size) := Lib.hid fun x h => OC6.out.lt x h
  have RP8 : Hid (∀ x, (Value.slice Ap (min 520 nl) cp).ownBlock = some x → w6.heap.size ≤ x ∧ x < w8.heap.size) := Lib.hid fun x h => OP8.out.lt x h
  have LT8 := Lib.hid (And.intro b8.size (Nat.lt_of_lt_of_le zE (Nat.le_trans b7.size hg8.size)))
  clear ho8 hg8 b8 b7 D6 D7 OE zE BX6 BY6 HS6 OC6 B6
  obtain ⟨⟨v0, v1, v2, v3⟩, -⟩ := Blk.fou BY8.out
  go_wp2_with ((at_builtin; refine Lib.wpList_append_run _ rfl (.tmp 33) (.tmp 35) _ _ rfl _ _ rfl rfl _ _ hr2 ?_))
  clear hr2 v0 v1 v2 v3
  refine (NP.out _ Ap cp Ac cc (own_insS hl5.symm OP8.out) hc8.1 hc8.2 HS8.out (by rw [← HCX.out]; exact own_bytS rfl OC8.out) (by rw [← HCX.out]; exact hc5.1) hc5.2).mono ?_
  rintro e w9 ⟨rfl, b9⟩
  have BX9 := Lib.hid (BX8.out.after b9)
  have HS9 := Lib.hid (HS8.out.after b9)
  have OC9 := Lib.hid (own_after OC8.out b9)
  have OP9 := Lib.hid (own_after OP8.out b9)
  have B9 := Lib.hid (below_next' B8.out b9)
  clear BX8 HS8 BY8 B8 b9 NP IN
  go_wp2_with fail
  have HB : Below w9.heap.size w9 w9.drew := Below.drew (Below.refl _ _)
  have KK := Lib.hid fun u (b : Below w9.heap.size w9 u) => (Blk.fou (BX9.out.after b)).1
  go_region_held3 (fun w' => w'.cell? ⟨gx, 0, none⟩ = some (.slice C.ca C.ctx.length C.cc) ∧ w'.cell? ⟨gx, 1, none⟩ = some (.slice C.da C.D.length C.dc) ∧ w'.cell? ⟨gx, 2, none⟩ = some (.slice C.ia C.L.length C.ic) ∧ w'.cell? ⟨gx, 3, none⟩ = some (.slice C.na C.dr.length C.nc))
    (first | with_reducible exact KK.out _ HB)
    (first
      | (go_at_call 9; refine (FW.out _).mono ?_; rintro e w5 ⟨rfl, b5⟩; replace HB := below_next' HB b5; clear b5)
      | (go_at_call 8; refine (NC.out _ (below_next' B9.out HB) (HS9.out.after HB)).mono ?_; rintro e w10 ⟨rfl, b10⟩; replace HB := below_next' HB b10; clear b10))
  rename_i hh
  clear hh
  have BE := Lib.hid (below_next' B9.out HB)
  clear HB KK NC FW HS9 OC9 OP9 BX9
  go_wp2_with fail
  go_ret
  exact ⟨rfl, BE.out⟩
set_option maxHeartbeats 8000000 in
theorem l11_Twice_some (w : World) (l : List Ins) (A : Option Addr) (c : Nat) (E : EV) (f1 : Int) (h : InsS w A l) (hx : OkAll l) (hc : l.length ≤ c) (hcm : c ≤ maxLen) (hE : EnvS w E) (hok : E.raw) (S : MS) (ho : mLaw l E = some S) (hf1 : 0 ≤ f1 ∧ f1 ≤ 65535) :
    Calls Tryz.prog 6 #[.slice A l.length c, envV E, .int .u16 f1] w (Gives (.bool true) w) := by
  have SH := Lib.hid fun u => l11_shown u
  have FW := Lib.hid fun u => l11_few u A l.length c hc hcm
  have EN := Lib.hid fun u (b : Below w.heap.size w u) => l11_env u E (hE.after b) hok
  have NW := Lib.hid fun u L' ia ic (b : Below w.heap.size w u) hs hk hi => m11_NewLaw u l A c E L' ia ic (h.after b) hx hc hcm hs hk hi
  have NPX := Lib.hid fun u L' ia ic Ap cp Ac cc (q : InsS u Ap (l.take 520)) (hcp : (l.take 520).length ≤ cp) (hcp2 : cp ≤ maxLen) (q2 : EnvS u (cutE E L' ia ic)) (q3 : BytS u Ac (E.ctx.take 100)) (h4 : (E.ctx.take 100).length ≤ cc) (h5 : cc ≤ maxLen) hk hi => m11_NewTwo u l E L' ia ic Ap cp Ac cc hx q hcp hcp2 q2 q3 h4 h5 hk hi
  have IN := Lib.hid fun u (b : Below w.heap.size w u) => (h.after b).take 520
  have hl5 : (l.take 520).length = min 520 l.length := by rw [List.length_take]
  rw [ho] at NW NPX
  obtain ⟨hcan, hst, hcl, hov, hD, hdr⟩ := law_can hok ho
  obtain ⟨n, hn⟩ : ∃ n : Int, n = f1 % 501 := ⟨_, rfl⟩
  have ht1 : f1.tmod 501 = n := by rw [Int.tmod_eq_emod_of_nonneg hf1.1, hn]
  have hn0 : 0 ≤ n ∧ n ≤ 500 := by omega
  clear hn
  have HR2 : pRun n (pRun n S) = pRun n S := run_stop (run_end n S)
  have hsn : ((pRun n S).steps : Int) ≤ n := by rcases run_steps n S with c | c <;> omega
  have C3 := Lib.hid fun u F g (h : (sysX g S).R u F) => m11_Run u g S F n h hcan (by omega) (by omega)
  have C4 := Lib.hid fun u F g S' (h : (sysX g S').R u F) (hc : S'.can) (hs : (S'.steps : Int) ≤ n) (hr : pRun n S' = pRun n S) => (by
    have q := m11_Run u g S' F n h hc (by omega) (by omega)
    rw [hr] at q
    exact q)
  have C5 := Lib.hid fun u F g (h : (sysX g (pRun n S)).R u F) => m11_Run u g (pRun n S) F n h (run_can n S hcan) (by omega) (by omega)
  rw [HR2] at C5
  have I0 : Hid (S.can ∧ (S.steps : Int) ≤ 0 ∧ pRun n S = pRun n S) := Lib.hid ⟨hcan, by omega, rfl⟩
  clear HR2 hcan hst hov hcl hD hdr hsn
  generalize hRS : pRun n S = R at *
  replace hRS := Lib.hid hRS
  unfold RunQ endV at C3 C4 C5
  unfold envV at EN NW NPX
  unfold envV
  have Q := Lib.hid (EQ.new w (.slice E.ca E.ctx.length E.cc) (.slice E.da E.D.length E.dc) (.slice E.ia E.L.length E.ic) (.slice E.na E.dr.length E.nc))
  clear h hx hE
  rw [hl5] at NPX
  generalize hll : l.length = nl at *
  clear hll
  unfold maxLen at hcm
  go_enter Tryz.func6, Tryz.ntmps6
  go_wp2_with fail
  refine (SH.out _).mono ?_
  rintro e w2 ⟨rfl, b2⟩
  replace Q := Lib.hid (Q.out.after b2)
  obtain ⟨q0, q1, q2, q3⟩ := Q.out.cells
  clear b2 SH
  go_wp2_with fail
  refine (EN.out _ Q.out.bl).mono ?_
  rintro e w3 ⟨ia1, ic1, L1, rfl, hs, hk, hi, b3⟩
  have NC := Lib.hid fun u (b : Below w.heap.size w u) (q : EnvS u (cutE E L1 ia1 ic1)) => NW.out u L1 ia1 ic1 b q hk hi
  have NP := Lib.hid fun u Ap cp Ac cc (q : InsS u Ap (l.take 520)) (hcp : min 520 nl ≤ cp) (hcp2 : cp ≤ maxLen) (q2 : EnvS u (cutE E L1 ia1 ic1)) (q3 : BytS u Ac (E.ctx.take 100)) (h4 : (E.ctx.take 100).length ≤ cc) (h5 : cc ≤ maxLen) => NPX.out u L1 ia1 ic1 Ap cp Ac cc q hcp hcp2 q2 q3 h4 h5 hk hi
  have HCK := Lib.hid hk
  clear NW NPX hi hk
  generalize hC : cutE E L1 ia1 ic1 = C at *
  replace hC := Lib.hid hC
  unfold envV
  have B3 := Lib.hid (below_next' Q.out.bl b3)
  have B4 := Lib.hid (below_alloc B3.out (.cells #[.slice C.ca C.ctx.length C.cc, .slice C.da C.D.length C.dc, .slice C.ia C.L.length C.ic, .slice C.na C.dr.length C.nc] 28))
  have HS := Lib.hid (hs.after (below_alloc (Below.refl w3.heap.size w3) (.cells #[.slice C.ca C.ctx.length C.cc, .slice C.da C.D.length C.dc, .slice C.ia C.L.length C.ic, .slice C.na C.dr.length C.nc] 28)))
  have BX := Lib.hid (Blk.new w3 #[.slice C.ca C.ctx.length C.cc, .slice C.da C.D.length C.dc, .slice C.ia C.L.length C.ic, .slice C.na C.dr.length C.nc] 28 rfl)
  clear hs b3 EN Q q0 q1 q2 q3
  have HCX : Hid (C.ctx = E.ctx.take 100) := Lib.hid (by rw [← hC.out]; rfl)
  have HCL : C.ctx.length ≤ 100 := by rw [HCX.out, List.length_take]; omega
  go_upto_region 3 with fail
  generalize w3.alloc (.cells #[.slice C.ca C.ctx.length C.cc, .slice C.da C.D.length C.dc, .slice C.ia C.L.length C.ic, .slice C.na C.dr.length C.nc] 28) = w4 at *
  generalize w3.heap.size = gx at *
  clear B3
  obtain ⟨⟨y0, y1, y2, y3⟩, -⟩ := Blk.fou BX.out
  have z1 := Blk.lt BX.out
  have D4 := below_alloc (Below.refl w4.heap.size w4) (.cells #[] 5)
  obtain ⟨Ac, cc, w5, hr, ho5, hg5⟩ := two_bytes (w4.alloc (.cells #[] 5)) w4.heap.size C.ca C.ctx C.cc (own_empty w4 _ 1) (HS.out.c.after D4) (by omega) HCK.out.c.2.1 HCK.out.c.2.2 (by simp) 23
  have b5 : Below w4.heap.size w4 w5 := ((Turn.of_below (F := fun _ => False) D4).grown hg5 (fun k hk => .inr (by injection hk with e; omega))).below (Nat.le_refl _) (fun _ _ h => h)
  have OC5 := Lib.hid ho5
  have S45 := Lib.hid b5.size
  have W04 := Lib.hid B4.out.size
  have hc5 := own_caps ho5
  have BX5 := Lib.hid (BX.out.after b5)
  have HS5 := Lib.hid (HS.out.after b5)
  have B5 := Lib.hid (below_next' B4.out b5)
  clear ho5 hg5 b5 D4 HS BX B4
  obtain ⟨⟨v0, v1, v2, v3⟩, -⟩ := Blk.fou BX5.out
  have z5 := Blk.lt BX5.out
  go_wp2_with ((at_builtin; refine Lib.wpList_append_run _ rfl (.tmp 26) (.tmp 28) _ _ rfl _ _ rfl rfl _ _ hr ?_))
  clear hr y0 y1 y2 y3 z1 v0 v1 v2 v3 z5
  have D5 := below_alloc (Below.refl w5.heap.size w5) (.cells #[.slice Ac C.ctx.length cc, .slice C.da C.D.length C.dc, .slice C.ia C.L.length C.ic, .slice C.na C.dr.length C.nc] 28)
  have S46 := Lib.hid (Nat.le_trans S45.out D5.size)
  have BY6 := Lib.hid (Blk.new w5 #[.slice Ac C.ctx.length cc, .slice C.da C.D.length C.dc, .slice C.ia C.L.length C.ic, .slice C.na C.dr.length C.nc] 28 rfl)
  have BX6 := Lib.hid (BX5.out.after D5)
  have HS6 := Lib.hid (HS5.out.after D5)
  have OC6 := Lib.hid (own_after OC5.out D5)
  have B6 := Lib.hid (below_next' B5.out D5)
  have z6 : (w5.alloc (.cells #[.slice Ac C.ctx.length cc, .slice C.da C.D.length C.dc, .slice C.ia C.L.length C.ic, .slice C.na C.dr.length C.nc] 28)).heap.size = w5.heap.size + 1 := by simp
  clear D5 BX5 HS5 OC5 B5
  generalize w5.alloc (.cells #[.slice Ac C.ctx.length cc, .slice C.da C.D.length C.dc, .slice C.ia C.L.length C.ic, .slice C.na C.dr.length C.nc] 28) = w6 at *
  generalize w5.heap.size = gy at *
  have D6 := below_alloc (Below.refl w6.heap.size w6) (.cells #[] 63)
  have OE := own_empty w6 63 5
  have zE : w6.heap.size < (w6.alloc (.cells #[] 63)).heap.size := by simp
  refine (FW.out _).mono ?_
  rintro e w7 ⟨rfl, b7⟩
  have D7 := below_next' D6 b7
  obtain ⟨Ap, cp, w8, hr2, ho8, hg8⟩ := two_insns w7 w6.heap.size A (l.take 520) c (own_after OE b7) (IN.out w7 (below_next' B6.out D7)) (by omega) (by omega) (by unfold maxLen; omega) (Nat.lt_of_lt_of_le zE b7.size) 22
  rw [hl5] at hr2 ho8
  rw [z6] at hr2
  have b8 : Below w6.heap.size w6 w8 := ((Turn.of_below (F := fun _ => False) D7).grown hg8 (fun k hk => .inr (by injection hk with e; omega))).below (Nat.le_refl _) (fun _ _ h => h)
  have OP8 := Lib.hid ho8
  have hc8 := own_caps ho8
  have BX8 := Lib.hid (BX6.out.after b8)
  have BY8 := Lib.hid (BY6.out.after b8)
  have HS8 := Lib.hid (HS6.out.after b8)
  have OC8 := Lib.hid (own_after OC6.out b8)
  have B8 := Lib.hid (below_next' B6.out b8)
  have RC8 : Hid (∀ x, (Value.slice Ac C.ctx.length cc).ownBlock = some x → w4.heap.size ≤ x ∧ x < w6.heap.size) := Lib.hid fun x h => OC6.out.lt x h
  have RP8 : Hid (∀ x, (Value.slice Ap (min 520 nl) cp).ownBlock = some x → w6.heap.size ≤ x ∧ x < w8.heap.size) := Lib.hid fun x h => OP8.out.lt x h
  have LT8 := Lib.hid (And.intro b8.size (Nat.lt_of_lt_of_le zE (Nat.le_trans b7.size hg8.size)))
  clear ho8 hg8 b8 b7 D6 D7 OE zE BX6 BY6 HS6 OC6 B6
  obtain ⟨⟨v0, v1, v2, v3⟩, -⟩ := Blk.fou BY8.out
  go_wp2_with ((at_builtin; refine Lib.wpList_append_run _ rfl (.tmp 33) (.tmp 35) _ _ rfl _ _ rfl rfl _ _ hr2 ?_))
  clear hr2 v0 v1 v2 v3
  refine (NP.out _ Ap cp Ac cc (own_insS hl5.symm OP8.out) hc8.1 hc8.2 HS8.out (by rw [← HCX.out]; exact own_bytS rfl OC8.out) (by rw [← HCX.out]; exact hc5.1) hc5.2).mono ?_
  rintro e w9 ⟨g1, F1, rfl, r1, b9, f1'⟩
  have X1 := Lib.hid r1
  have FL1 : Hid (∀ x, F1 x → w8.heap.size ≤ x) := Lib.hid f1'
  clear r1 f1'
  have BX9 := Lib.hid (BX8.out.after b9)
  have HS9 := Lib.hid (HS8.out.after b9)
  have OC9 := Lib.hid (own_after OC8.out b9)
  have OP9 := Lib.hid (own_after OP8.out b9)
  have B9 := Lib.hid (below_next' B8.out b9)
  have S9 := Lib.hid b9.size
  clear BX8 HS8 BY8 B8 b9 NP IN
  go_wp2_with fail
  have HB : Below w9.heap.size w9 w9.drew := Below.drew (Below.refl _ _)
  have KK := Lib.hid fun u (b : Below w9.heap.size w9 u) => (Blk.fou (BX9.out.after b)).1
  go_region_held3 (fun w' => w'.cell? ⟨gx, 0, none⟩ = some (.slice C.ca C.ctx.length C.cc) ∧ w'.cell? ⟨gx, 1, none⟩ = some (.slice C.da C.D.length C.dc) ∧ w'.cell? ⟨gx, 2, none⟩ = some (.slice C.ia C.L.length C.ic) ∧ w'.cell? ⟨gx, 3, none⟩ = some (.slice C.na C.dr.length C.nc))
    (first | with_reducible exact KK.out _ HB)
    (first
      | (go_at_call 9; refine (FW.out _).mono ?_; rintro e w5 ⟨rfl, b5⟩; replace HB := below_next' HB b5; clear b5)
      | (go_at_call 8; refine (NC.out _ (below_next' B9.out HB) (HS9.out.after HB)).mono ?_; rintro e w10 ⟨g2, F2, rfl, r2, b10, f2'⟩; have X2 := Lib.hid r2; have FL2 : Hid (∀ x, F2 x → w9.heap.size ≤ x) := Lib.hid (fun x hx => Nat.le_trans HB.size (f2' x hx)); replace HB := below_next' HB b10; clear b10 r2 f2'))
  rename_i hh
  clear hh
  have AP : Hid (∀ x, F1 x → ¬ F2 x) := Lib.hid fun x h1 h2 => by
    have q1 := (sysX g1 S).lt X1.out h1
    have q2 := FL2.out x h2
    omega
  replace X1 := Lib.hid ((sysX g1 S).after X1.out HB)
  have OCA := Lib.hid (own_after OC9.out HB)
  have OPA := Lib.hid (own_after OP9.out HB)
  have BA := Lib.hid (below_next' B9.out HB)
  clear HB KK NC FW HS9 OC9 OP9 BX9 B9
  generalize hnC : C.ctx.length = nC at *
  generalize hnP : min 520 nl = nP at *
  have hnC2 : nC ≤ 100 := HCL
  have hnP2 : nP ≤ 520 := by omega
  unfold maxLen at hc5 hc8
  go_wp2_with fail
  go_loopw [68] (fun iv wr => ∃ j : Nat, iv = .int .i64 j ∧ j ≤ nC ∧ Hid (Turn (fun x => w4.heap.size ≤ x ∧ x < w6.heap.size) w10 wr ∧ ∃ xs, wr.ownsRow w4.heap.size 5 1 (.slice Ac nC cc) nC xs)) (fun iv wr => nC - (intOf iv).toNat)
  case atStart => exact ⟨0, rfl, by omega, Lib.hid ⟨Turn.refl _ _, _, OCA.out⟩⟩
  case round =>
    obtain ⟨j, rfl, hj, V⟩ := hrel
    have j0 : (0 : Int) ≤ (j : Int) := by omega
    by_cases hlt : (j : Int) < nC
    · obtain ⟨VT, xs, VO⟩ := V.out
      have VT := Lib.hid VT
      obtain ⟨gc, ea, hb, hl⟩ := own_addr VO (by omega)
      subst ea
      have hx1 : xs.length = nC * 1 := VO.1
      have c0 := VO.cellAt j (by omega)
      rw [List.getElem?_eq_getElem (by omega)] at c0
      have f0 := VO.frozenAt j
      have ST := Lib.hid (VO.stored j (.int .u8 7))
      have RG := Lib.hid (RC8.out gc rfl)
      clear VO V hb
      go_wp2_with fail
      go_round
      case rel => exact ⟨j + 1, by go_num, by omega, Lib.hid ⟨VT.out.setCell (.inl RG.out) _, _, ST.out.1⟩⟩
      case measure => simp [intOf]; omega
    · have hj2 : j = nC := by omega
      subst hj2
      obtain ⟨VT, -⟩ := V.out
      have VT := Lib.hid VT
      have OPB := Lib.hid (own_same OPA.out (fun x hx => VT.out.block x (own_lt OPA.out hx) (fun g => by have := (RP8.out x hx).1; omega)))
      clear V OCA OPA RC8
      obtain ⟨w11, hw⟩ : ∃ x, x = wr := ⟨wr, rfl⟩
      subst hw
      go_wp2_with fail
      go_loopw [77] (fun iv wp => ∃ q : Nat, iv = .int .i64 q ∧ q ≤ nP ∧ Hid (Turn (fun x => w6.heap.size ≤ x ∧ x < w8.heap.size) w11 wp ∧ ∃ xs, wp.ownsRow w6.heap.size 63 5 (.slice Ap nP cp) nP xs)) (fun iv wp => nP - (intOf iv).toNat)
      case atStart => exact ⟨0, rfl, by omega, Lib.hid ⟨Turn.refl _ _, _, OPB.out⟩⟩
      case round =>
        obtain ⟨q, rfl, hq, V⟩ := hrel
        have q0 : (0 : Int) ≤ (q : Int) := by omega
        by_cases hlq : (q : Int) < nP
        · obtain ⟨PT, xs, VO⟩ := V.out
          have PT := Lib.hid PT
          obtain ⟨gp, ea, hb, hl⟩ := own_addr VO (by omega)
          subst ea
          have hx1 : xs.length = nP * 5 := VO.1
          have cc0 : ∀ r, r < 5 → ∃ u, wr.cell? ⟨gp, q * 5 + r, none⟩ = some u := fun r hr => ⟨_, (VO.cellAt (q * 5 + r) (by omega)).trans (List.getElem?_eq_getElem (by omega))⟩
          obtain ⟨u0, c0⟩ := cc0 0 (by omega)
          obtain ⟨u1, c1⟩ := cc0 1 (by omega)
          obtain ⟨u2, c2⟩ := cc0 2 (by omega)
          obtain ⟨u3, c3⟩ := cc0 3 (by omega)
          obtain ⟨u4, c4⟩ := cc0 4 (by omega)
          replace c0 : wr.cell? ⟨gp, q * 5, none⟩ = some u0 := c0
          have f0 : wr.frozen? ⟨gp, q * 5, none⟩ = false := VO.frozenAt (q * 5)
          have f1' := VO.frozenAt (q * 5 + 1)
          have f2 := VO.frozenAt (q * 5 + 2)
          have f3 := VO.frozenAt (q * 5 + 3)
          have f4 := VO.frozenAt (q * 5 + 4)
          have ST := Lib.hid (((((VO.stored (q * 5) (.int .u8 149)).1.stored (q * 5 + 1) (.int .u8 0)).1.stored (q * 5 + 2) (.int .u8 0)).1.stored (q * 5 + 3) (.int .i16 0)).1.stored (q * 5 + 4) (.int .i32 0)).1
          have RG := Lib.hid (RP8.out gp rfl)
          have KT := Lib.hid (((((PT.out.setCell (p := ⟨gp, q * 5, none⟩) (.inl RG.out) (.int .u8 149)).setCell (p := ⟨gp, q * 5 + 1, none⟩) (.inl RG.out) (.int .u8 0)).setCell (p := ⟨gp, q * 5 + 2, none⟩) (.inl RG.out) (.int .u8 0)).setCell (p := ⟨gp, q * 5 + 3, none⟩) (.inl RG.out) (.int .i16 0)).setCell (p := ⟨gp, q * 5 + 4, none⟩) (.inl RG.out) (.int .i32 0))
          clear VO V hb cc0
          go_wp2_with fail
          go_round
          case rel => exact ⟨q + 1, by go_num, by omega, Lib.hid ⟨KT.out, _, ST.out⟩⟩
          case measure => simp [intOf]; omega
        · obtain ⟨PT, -⟩ := V.out
          have T12 : Turn (fun x => w4.heap.size ≤ x ∧ x < w8.heap.size) w10 wr := (VT.out.mono (fun x h => .inl ⟨h.1, by have := LT8.out.1; omega⟩)).trans (PT.mono (fun x h => .inl ⟨by have := S46.out; omega, h.2⟩)) (fun x h => .inl h)
          obtain ⟨w12, hw⟩ : ∃ x, x = wr := ⟨wr, rfl⟩
          subst hw
          have Y1 := Lib.hid ((sysX g1 S).keep X1.out (fun x hx => T12.block x ((sysX g1 S).lt X1.out hx) (fun h => by have := FL1.out x hx; omega)))
          have Y2 := Lib.hid ((sysX g2 S).keep X2.out (fun x hx => T12.block x ((sysX g2 S).lt X2.out hx) (fun h => by have := FL2.out x hx; have := S9.out; omega)))
          have B12 := Lib.hid (Turn.on BA.out T12 BA.out.size (fun x h => Nat.le_trans W04.out h.1))
          have GE1 : Hid (∀ x, F1 x → w.heap.size ≤ x) := Lib.hid fun x h => Nat.le_trans W04.out (Nat.le_trans S46.out (Nat.le_trans LT8.out.1 (FL1.out x h)))
          clear V VT PT T12 X1 X2 OPB BA
          have OV := Lib.hid fun u F S' (h : (sysX g1 S').R u F) => m11_Over u g1 S' F h
          have STP := Lib.hid fun u F S' (h : (sysX g1 S').R u F) (hc : S'.can) (ho : S'.over = false) (hs : (S'.steps : Int) ≤ 500) => m11_Step u g1 S' F h (fun _ => can_go hc ho (by omega))
          have RG0 := Lib.hid fun u F S' (h : (sysX g1 S').R u F) => m11_Reg u g1 S' F 0 h
          have AT0 := Lib.hid fun u F S' (h : (sysX g1 S').R u F) => m11_At u g1 S' F h
          go_upto_block 4 with fail
          go_cut [] (fun wx => Hid (∃ S' F', (sysX g1 S').R wx F' ∧ Turn F1 w12 wx ∧ (∀ x, F' x → F1 x ∨ w12.heap.size ≤ x) ∧ pRun n S' = R ∧ S'.can ∧ (S'.steps : Int) ≤ n))
          case first =>
            go_wp2_with fail
            go_loopw [89] (fun iv wr => ∃ j : Nat, iv = .int .i64 j ∧ (j : Int) ≤ n ∧ Hid (∃ S' F', (sysX g1 S').R wr F' ∧ Turn F1 w12 wr ∧ (∀ x, F' x → F1 x ∨ w12.heap.size ≤ x) ∧ pRun n S' = R ∧ S'.can ∧ (S'.steps : Int) ≤ j)) (fun iv wr => (n - intOf iv).toNat)
            case atStart => exact ⟨0, rfl, by omega, Lib.hid ⟨S, F1, Y1.out, Turn.refl _ _, fun x h => .inl h, hRS.out, I0.out.1, by have := I0.out.2.1; omega⟩⟩
            case round =>
              obtain ⟨j, rfl, hjn, V⟩ := hrel
              have j0 : (0 : Int) ≤ (j : Int) := by omega
              obtain ⟨S', F', h1, t1, f1x, e1, can1, st1⟩ := V.out
              by_cases hlt : (j : Int) < n
              · have OJ := Lib.hid (OV.out wr F' S' h1)
                cases ho : S'.over
                · rw [ho] at OJ
                  have SJ := Lib.hid fun u (b : Below wr.heap.size wr u) => STP.out u F' S' ((sysX g1 S').after h1 b) can1 ho (by omega)
                  have NX : Hid (pRun n (pStep S').1 = R ∧ (pStep S').1.can ∧ ((pStep S').1.steps : Int) ≤ j + 1) := Lib.hid ⟨by rw [← run_step ho (by omega)]; exact e1, step_can ho can1, by
                    rcases step_same ho with ⟨_, q⟩ | q <;> omega⟩
                  have KT := Lib.hid (And.intro t1 f1x)
                  clear h1 t1 f1x e1 can1 st1 ho V
                  go_wp2_with fail
                  refine (OJ.out).mono ?_
                  rintro e u1 ⟨rfl, k1⟩
                  go_wp2_with fail
                  refine (SJ.out _ k1).mono ?_
                  rintro e u2 ⟨rfl, F3, h3, t3, f3⟩
                  have T2 := Lib.hid ((KT.out.1.next k1).trans t3 KT.out.2)
                  have X3 := Lib.hid h3
                  have FG : Hid (∀ x, F3 x → F1 x ∨ w12.heap.size ≤ x) := Lib.hid fun x hx => by
                    rcases f3 x hx with c | c
                    · exact KT.out.2 x c
                    · exact .inr (Nat.le_trans (KT.out.1.next k1).size c)
                  clear h3 t3 f3 KT k1 SJ OJ
                  go_wp2_with fail
                  refine (RG0.out _ _ _ X3.out).mono ?_
                  rintro e u3 ⟨rfl, k3⟩
                  have X4 := Lib.hid ((sysX g1 (pStep S').1).after X3.out k3)
                  replace T2 := Lib.hid (T2.out.next k3)
                  clear k3 X3
                  go_wp2_with fail
                  refine (AT0.out _ _ _ X4.out).mono ?_
                  rintro e u4 ⟨rfl, k4⟩
                  have X5 := Lib.hid ((sysX g1 (pStep S').1).after X4.out k4)
                  replace T2 := Lib.hid (T2.out.next k4)
                  clear k4 X4
                  go_wp2_with fail
                  go_round
                  case rel => exact ⟨j + 1, by go_num, by omega, Lib.hid ⟨_, F3, X5.out, T2.out, FG.out, NX.out.1, NX.out.2.1, by have := NX.out.2.2; omega⟩⟩
                  case measure => simp [intOf]; omega
                · rw [ho] at OJ
                  have KT : Hid (∃ S' F', (sysX g1 S').R wr F' ∧ Turn F1 w12 wr ∧ (∀ x, F' x → F1 x ∨ w12.heap.size ≤ x) ∧ pRun n S' = R ∧ S'.can ∧ (S'.steps : Int) ≤ n) := Lib.hid ⟨S', F', h1, t1, f1x, e1, can1, by omega⟩
                  clear h1 t1 f1x e1 can1 st1 ho V
                  go_wp2_with fail
                  refine (OJ.out).mono ?_
                  rintro e u1 ⟨rfl, k1⟩
                  go_wp2_with fail
                  go_meet
                  obtain ⟨S'', F'', a1, a2, a3, a4⟩ := KT.out
                  exact Lib.hid ⟨S'', F'', (sysX g1 S'').after a1 k1, a2.next k1, a3, a4⟩
              · have KT : Hid (∃ S' F', (sysX g1 S').R wr F' ∧ Turn F1 w12 wr ∧ (∀ x, F' x → F1 x ∨ w12.heap.size ≤ x) ∧ pRun n S' = R ∧ S'.can ∧ (S'.steps : Int) ≤ n) := Lib.hid ⟨S', F', h1, t1, f1x, e1, can1, by omega⟩
                clear h1 t1 f1x e1 can1 st1 V
                go_wp2_with fail
                go_meet
                exact KT
          case rest =>
            obtain ⟨S', F', h1, t1, f1x, e1, can1, st1⟩ := hcut.out
            have X2c := Lib.hid (two_keep Y2.out t1 (fun x h2 h1 => AP.out x h1 h2))
            have B13 := Lib.hid (Turn.on B12.out t1 B12.out.size GE1.out)
            have LF2 : Hid (∀ x, F2 x → x < w12.heap.size) := Lib.hid fun x h => (sysX g2 S).lt Y2.out h
            have NF : Hid (∀ x, F2 x → ¬ F' x) := Lib.hid fun x h2 h => by
              rcases f1x x h with c | c
              · exact AP.out x c h2
              · have := LF2.out x h2; omega
            have GF : Hid (∀ x, F' x → w.heap.size ≤ x) := Lib.hid fun x h => by
              rcases f1x x h with c | c
              · exact GE1.out x c
              · exact Nat.le_trans B12.out.size c
            have RQ := Lib.hid (C4.out _ F' g1 S' h1 can1 st1 e1)
            have LC2 : Hid (∀ x, F2 x → x < wc.heap.size) := Lib.hid fun x h => (sysX g2 S).lt X2c.out h
            clear hcut h1 t1 f1x e1 can1 st1 Y1 Y2 B12 AP GE1 LF2 C4 OV STP RG0 AT0 I0
            generalize wc = wd at *
            go_wp2_with fail
            refine (RQ.out).mono ?_
            rintro e w14 ⟨F4, N4, va, ca, vm, cm, L, Ls, rfl, r4, t4, f4, E4, b4⟩
            obtain ⟨⟨D2, cr⟩, -, hcc, -⟩ := E4
            have X2d := Lib.hid (two_keep X2c.out t4 NF.out)
            have B14 := Turn.on B13.out t4 B13.out.size GF.out
            have D15 := below_alloc (Below.refl w14.heap.size w14) (.cells (endC R va ca vm cm) 54)
            have PR : Hid ((∀ x, F4 x → x < D2) ∧ (∀ x, F2 x → x < D2) ∧ (∀ x, F2 x → ¬ F4 x) ∧ (∀ x, F4 x → w.heap.size ≤ x) ∧ w.heap.size ≤ D2) := Lib.hid ⟨fun x h => Nat.lt_of_lt_of_le (f4 x h).2 cr.le, fun x h => Nat.lt_of_lt_of_le (LC2.out x h) (Nat.le_trans b4 cr.le), fun x h2 h4 => by
              rcases (f4 x h4).1 with c | c
              · exact NF.out x h2 c
              · have := LC2.out x h2; omega, fun x h => by
              rcases (f4 x h).1 with c | c
              · exact GF.out x c
              · exact Nat.le_trans B13.out.size c, Nat.le_trans B13.out.size (Nat.le_trans b4 cr.le)⟩
            have X1e := Lib.hid ((sysX g1 R).after r4 D15)
            have X2e := Lib.hid ((sysX g2 S).after X2d.out D15)
            have B15 := Lib.hid (below_next' B14 D15)
            have CRE := Lib.hid (cr.after D15)
            have BEE := Lib.hid (Blk.new w14 (endC R va ca vm cm) 54 rfl)
            have hLn : Hid (L.length = R.calls.length) := Lib.hid (by rw [← hcc, List.length_map])
            have GP2 : Hid (∀ x, F2 x → w.heap.size ≤ x) := Lib.hid fun x h => Nat.le_trans W04.out (Nat.le_trans S46.out (Nat.le_trans LT8.out.1 (Nat.le_trans S9.out (FL2.out x h))))
            clear r4 t4 f4 b4 cr X2d X2c B14 B13 D15 RQ NF GF LC2 hcc
            go_upto_block 6 with fail
            generalize w14.alloc (.cells (endC R va ca vm cm) 54) = w15 at *
            generalize w14.heap.size = ge at *
            have hcp := own_caps CRE.out.row
            rw [hLn.out] at hcp
            unfold maxLen at hcp
            have KW0 : Hid (KWI D2 L w15 w15) := Lib.hid ⟨Turn.refl _ _, fun k hk => ⟨_, (CRE.out.own k hk).k⟩⟩
            clear BEE
            generalize hnD : R.calls.length = nD at *
            go_wp2_with fail
            go_loopw [106] (fun iv wr => ∃ j : Nat, iv = .int .i64 j ∧ j ≤ nD ∧ Hid (KWI D2 L w15 wr)) (fun iv wr => nD - (intOf iv).toNat)
            case atStart => exact ⟨0, rfl, by omega, KW0⟩
            case round =>
              clear KW0
              obtain ⟨j, rfl, hj, V⟩ := hrel
              have j0 : (0 : Int) ≤ (j : Int) := by omega
              by_cases hlt : (j : Int) < nD
              · have hjn : j < nD := by omega
                have hjL : j < L.length := by rw [hLn.out]; exact hjn
                have r1 := own_same CRE.out.row (fun x hx => V.out.1.block x (own_lt CRE.out.row hx) (fun h => by have := CRE.out.low x hx; omega))
                rw [hLn.out] at r1
                obtain ⟨ga, ea, -, hga⟩ := own_addr r1 (by omega)
                subst ea
                have x : ∀ r, r < 6 → wr.cell? ⟨ga, j * 6 + r, none⟩ = (cCR (crAt L j))[r]? := fun r hr => by rw [r1.cellAt _ (by omega), crC_at L j r hjL hr]
                have x0 := x 0 (by omega)
                have x1 := x 1 (by omega)
                have x2 := x 2 (by omega)
                have x3 := x 3 (by omega)
                have x4 := x 4 (by omega)
                have x5 := x 5 (by omega)
                have KR := Lib.hid (CRE.out.own j hjL).k
                have kcp := own_caps KR.out
                have KBJ : Hid (∀ x, (Value.slice (crAt L j).ka (crAt L j).c.k.length (crAt L j).kc).ownBlock = some x → D2 ≤ x ∧ x < w15.heap.size) := Lib.hid fun x h => KR.out.lt x h
                have KWJ : Hid (∀ u, KWI D2 L w15 u → ∃ ys, u.ownsRow D2 5 1 (.slice (crAt L j).ka (crAt L j).c.k.length (crAt L j).kc) (crAt L j).c.k.length ys) := Lib.hid fun u h => h.2 j hjL
                clear x r1
                generalize crAt L j = s at *
                obtain ⟨cc', ka, kc, va', vc, na, nc⟩ := s
                obtain ⟨id, mp, kk, vv, nn, ret⟩ := cc'
                dsimp only [cCR] at x0 x1 x2 x3 x4 x5 KR KBJ KWJ kcp
                unfold maxLen at kcp
                generalize byC kk = kb at *
                generalize kk.length = kl at *
                replace x0 : wr.cell? ⟨ga, j * 6, none⟩ = some (.int .i64 id) := x0
                replace x1 : wr.cell? ⟨ga, j * 6 + 1, none⟩ = some (.int .i64 mp) := x1
                replace x2 : wr.cell? ⟨ga, j * 6 + 2, none⟩ = some (.slice ka kl kc) := x2
                replace x3 : wr.cell? ⟨ga, j * 6 + 3, none⟩ = some (.slice va' vv.length vc) := x3
                replace x4 : wr.cell? ⟨ga, j * 6 + 4, none⟩ = some (.slice na nn.length nc) := x4
                replace x5 : wr.cell? ⟨ga, j * 6 + 5, none⟩ = some (.int .u64 ret) := x5
                by_cases hk0 : 0 < kl
                · skip
                  obtain ⟨gk, ea, -, -⟩ := own_addr KR.out (by omega)
                  subst ea
                  have VA := Lib.hid (V.out.after (below_alloc (Below.refl wr.heap.size wr) (.cells #[.int .i64 id, .int .i64 mp, .slice (some ⟨gk, 0, none⟩) kl kc, .slice va' vv.length vc, .slice na nn.length nc, .int .u64 ret] 59)))
                  have BC := Lib.hid (Blk.new wr #[.int .i64 id, .int .i64 mp, .slice (some ⟨gk, 0, none⟩) kl kc, .slice va' vv.length vc, .slice na nn.length nc, .int .u64 ret] 59 rfl)
                  have GC : Hid (w15.heap.size ≤ wr.heap.size) := Lib.hid V.out.1.size
                  clear V
                  go_upto_block 8 with fail
                  generalize wr.alloc (.cells #[.int .i64 id, .int .i64 mp, .slice (some ⟨gk, 0, none⟩) kl kc, .slice va' vv.length vc, .slice na nn.length nc, .int .u64 ret] 59) = wa at *
                  generalize wr.heap.size = gc at *
                  clear x0 x1 x2 x3 x4 x5
                  go_wp2_with fail
                  go_loopw [113] (fun iv wr => ∃ q : Nat, iv = .int .i64 q ∧ q ≤ kl ∧ Hid (Turn (fun x => D2 ≤ x ∧ x < w15.heap.size) wa wr ∧ KWI D2 L w15 wr)) (fun iv wr => kl - (intOf iv).toNat)
                  case atStart => exact ⟨0, rfl, by omega, Lib.hid ⟨Turn.refl _ _, VA.out⟩⟩
                  case round =>
                    obtain ⟨q, rfl, hq, VQ⟩ := hrel
                    have q0 : (0 : Int) ≤ (q : Int) := by omega
                    by_cases hlq : (q : Int) < kl
                    · obtain ⟨ys, VO⟩ := KWJ.out wr VQ.out.2
                      have hy : ys.length = kl * 1 := VO.1
                      have c0 := VO.cellAt q (by omega)
                      rw [List.getElem?_eq_getElem (by omega)] at c0
                      have f0 := VO.frozenAt q
                      have cb : wr.cell? ⟨gc, 2, none⟩ = some (.slice (some ⟨gk, 0, none⟩) kl kc) := Blk.cell (VQ.out.1.blk BC.out (fun h => by have := GC.out; omega)) 2
                      have RQ2 := Lib.hid (KBJ.out gk rfl)
                      clear VO
                      go_wp2_with fail
                      go_round
                      case rel => exact ⟨q + 1, by go_num, by omega, Lib.hid ⟨VQ.out.1.setCell (.inl RQ2.out) _, VQ.out.2.store RQ2.out _⟩⟩
                      case measure => simp [intOf]; omega
                    · have hq2 : q = kl := by omega
                      subst hq2
                      have VN := Lib.hid VQ.out.2
                      clear VQ
                      go_wp2_with fail
                      go_round
                      case rel => exact ⟨j + 1, by go_num, by omega, VN⟩
                      case measure => simp [intOf]; omega
                · skip
                  clear KR
                  have VA := Lib.hid (V.out.after (below_alloc (Below.refl wr.heap.size wr) (.cells #[.int .i64 id, .int .i64 mp, .slice ka kl kc, .slice va' vv.length vc, .slice na nn.length nc, .int .u64 ret] 59)))
                  have BC := Lib.hid (Blk.new wr #[.int .i64 id, .int .i64 mp, .slice ka kl kc, .slice va' vv.length vc, .slice na nn.length nc, .int .u64 ret] 59 rfl)
                  have GC : Hid (w15.heap.size ≤ wr.heap.size) := Lib.hid V.out.1.size
                  clear V
                  go_upto_block 8 with fail
                  generalize wr.alloc (.cells #[.int .i64 id, .int .i64 mp, .slice ka kl kc, .slice va' vv.length vc, .slice na nn.length nc, .int .u64 ret] 59) = wa at *
                  generalize wr.heap.size = gc at *
                  clear x0 x1 x2 x3 x4 x5
                  go_wp2_with fail
                  go_loopw [113] (fun iv wr => ∃ q : Nat, iv = .int .i64 q ∧ q ≤ kl ∧ Hid (Turn (fun x => D2 ≤ x ∧ x < w15.heap.size) wa wr ∧ KWI D2 L w15 wr)) (fun iv wr => kl - (intOf iv).toNat)
                  case atStart => exact ⟨0, rfl, by omega, Lib.hid ⟨Turn.refl _ _, VA.out⟩⟩
                  case round =>
                    obtain ⟨q, rfl, hq, VQ⟩ := hrel
                    have q0 : (0 : Int) ≤ (q : Int) := by omega
                    by_cases hlq : (q : Int) < kl
                    · omega
                    · have hq2 : q = kl := by omega
                      subst hq2
                      have VN := Lib.hid VQ.out.2
                      clear VQ
                      go_wp2_with fail
                      go_round
                      case rel => exact ⟨j + 1, by go_num, by omega, VN⟩
                      case measure => simp [intOf]; omega
              · obtain ⟨T, -⟩ := V.out
                have Z1 := Lib.hid ((sysX g1 R).keep X1e.out (fun x hx => T.block x ((sysX g1 R).lt X1e.out hx) (fun h => by have := PR.out.1 x hx; omega)))
                have Z2 := Lib.hid ((sysX g2 S).keep X2e.out (fun x hx => T.block x ((sysX g2 S).lt X2e.out hx) (fun h => by have := PR.out.2.1 x hx; omega)))
                have B16 := Lib.hid (Turn.on B15.out T B15.out.size (fun x h => Nat.le_trans PR.out.2.2.2.2 h.1))
                have LZ : Hid (∀ x, F2 x → x < wr.heap.size) := Lib.hid fun x h => (sysX g2 S).lt Z2.out h
                clear T V X1e X2e B15
                go_wp2_with fail
                refine (C5.out _ _ _ Z1.out).mono ?_
                rintro e w17 ⟨F5, N5, va5, ca5, vm5, cm5, L5, Ls5, rfl, r5, t5, f5, E5, b5⟩
                have Z2b := Lib.hid (two_keep Z2.out t5 PR.out.2.2.1)
                have B17 := Lib.hid (Turn.on B16.out t5 B16.out.size PR.out.2.2.2.1)
                have EA := Lib.hid E5
                have E5c := Lib.hid E5.c
                have L25 : Hid (∀ x, F2 x → x < N5) := Lib.hid fun x h => Nat.lt_of_lt_of_le (LZ.out x h) b5
                clear r5 t5 f5 E5 b5 Z1 Z2 B16 LZ C5
                go_wp2_with fail
                refine (C3.out _ _ _ Z2b.out).mono ?_
                rintro e w18 ⟨F6, N6, va6, ca6, vm6, cm6, L6, Ls6, rfl, r6, t6, f6, E6, b6⟩
                have EA8 := Lib.hid (EA.out.turn t6 L25.out)
                have B18 := Lib.hid (Turn.on B17.out t6 B17.out.size GP2.out)
                have SMX := Lib.hid (r11_Same w18 R N5 N6 va5 vm5 va6 vm6 ca5 cm5 ca6 cm6 L5 L6 Ls5 Ls6 EA8.out E6 (sysX_items r6) (sysX_small r6 E5c.out))
                unfold endV at SMX
                rw [hnD] at SMX
                clear r6 t6 f6 E6 b6 Z2b EA EA8 B17 C3
                go_wp2_with fail
                refine (SMX.out).mono ?_
                rintro e w19 ⟨rfl, b19⟩
                have BZ := Lib.hid (below_next' B18.out b19)
                clear b19 SMX
                go_wp2_with fail
                go_ret
                exact ⟨rfl, BZ.out⟩
end Go.Proofs.YtlbhffdpklbhfaaGreat
namespace Go.Proofs.YtlbhffdpklbhfaaGreat
open Go.ChangeShapes Go.WideShapes Go.RowKit
def LeafOk : Option IntKind → Value → Prop
  | some k, v => ∃ n, v = .int k n ∧ (Lit.int k n).wf = true
  | none, v => ∃ b, v = .bool b
def leafAt (P : Program) : Nat → TypeId → Nat → Option (Option IntKind)
  | 0, _, _ => none
  | n + 1, t, j =>
    match P.underlying t with
    | some (.int k) => if j = 0 then some (some k) else none
    | some .bool => if j = 0 then some none else none
    | some (.struct fs) => (fs.toList.find? fun f => decide (f.offset ≤ j ∧ j < f.offset + P.cellsOf f.type)).bind fun f => leafAt P n f.type (j - f.offset)
    | some (.array m e) => if P.cellsOf e = 0 then none else if j < m * P.cellsOf e then leafAt P n e (j % P.cellsOf e) else none
    | _ => none
section
variable {H : Type} {enc : TypeId × Value → H} {P : Program} {w : World} {base : Nat} {spare : Nat → Bool} {held : Bool}
theorem leaf_of_trod : ∀ (n fuel : Nat) (t : TypeId) (cs : List Value) (x : DataW H × List MemPlace) (j : Nat) (L : Option IntKind),
    DataW.trod enc P w base spare held fuel t cs = some x → leafAt P n t j = some L → ∃ v, cs[j]? = some v ∧ LeafOk L v := by
  intro n
  induction n with
  | zero => intro fuel t cs x j L _ hl; simp [leafAt] at hl
  | succ n ih =>
    intro fuel t cs x j L h hl
    unfold leafAt at hl
    split at hl
    · rename_i k hk
      obtain ⟨m, rfl, _, hw⟩ := DataW.trod_int hk h
      split at hl
      · rename_i hj
        subst hj
        cases hl
        exact ⟨_, rfl, m, rfl, hw⟩
      · cases hl
    · rename_i hk
      obtain ⟨b, rfl, _⟩ := DataW.trod_bool hk h
      split at hl
      · rename_i hj
        subst hj
        cases hl
        exact ⟨_, rfl, b, rfl⟩
      · cases hl
    · rename_i fs hk
      obtain ⟨xs, m, _, _, _, hlen, hf⟩ := DataW.trod_struct hk h
      obtain ⟨f, hfind, hrest⟩ := Option.bind_eq_some_iff.1 hl
      have hmem := List.mem_of_find?_eq_some hfind
      have hp := List.find?_some hfind
      simp only [decide_eq_true_eq] at hp
      obtain ⟨i, hi, hget⟩ := List.getElem_of_mem hmem
      have hif : fs[i]? = some f := by
        have : i < fs.size := by simpa using hi
        rw [Array.getElem?_eq_getElem this]
        simpa using hget
      have hx : xs[i]? = some (xs[i]'(by rw [hlen]; simpa using hi)) := List.getElem?_eq_getElem _
      have h1 := (hf i f hif).trans hx
      obtain ⟨v, hv, hok⟩ := ih _ _ _ _ _ _ h1 hrest
      refine ⟨v, ?_, hok⟩
      rw [List.getElem?_take, if_pos (by omega), List.getElem?_drop] at hv
      rw [← hv]
      congr 1
      omega
    · rename_i m e hk
      obtain ⟨xs, k, _, _, _, hlen, hf⟩ := DataW.trod_array hk h
      split at hl
      · cases hl
      · rename_i hne
        split at hl
        · rename_i hlt
          have hpos : 0 < P.cellsOf e := Nat.pos_of_ne_zero hne
          have hdm := Nat.div_add_mod j (P.cellsOf e)
          have hq : j / P.cellsOf e < m := (Nat.div_lt_iff_lt_mul hpos).2 hlt
          have hr := Nat.mod_lt j hpos
          have hx : xs[j / P.cellsOf e]? = some (xs[j / P.cellsOf e]'(by omega)) := List.getElem?_eq_getElem _
          have h1 := (hf _ hq).trans hx
          obtain ⟨v, hv, hok⟩ := ih _ _ _ _ _ _ h1 hl
          refine ⟨v, ?_, hok⟩
          rw [List.getElem?_take, if_pos hr, List.getElem?_drop] at hv
          rw [← hv]
          congr 1
          rw [Nat.mul_comm] at hdm
          omega
        · cases hl
    · cases hl
theorem agg_of_struct {r : Reach} {b0 : Nat} {t : TypeId} {fs : Array Field} {v : Value} (ht : P.underlying t = some (.struct fs)) (hv : Value.okWide P w r b0 t v) :
    ∃ l : List Value, v = .agg ⟨l⟩ ∧ l.length = P.cellsOf t := by
  obtain ⟨cs, rfl, hs⟩ := okWide_struct ht hv
  exact ⟨cs.toList, by simp, by simpa using hs⟩
end
theorem LeafOk.int_ {k : IntKind} {l : List Value} {j : Nat} (h : ∃ u, l[j]? = some u ∧ LeafOk (some k) u) : ∃ n, l[j]? = some (.int k n) ∧ (Lit.int k n).wf = true := by
  obtain ⟨u, hu, n, rfl, hw⟩ := h
  exact ⟨n, hu, hw⟩
end Go.Proofs.YtlbhffdpklbhfaaGreat
namespace Go.Proofs.YtlbhffdpklbhfaaGreat
open Go.ChangeShapes Go.WideShapes Go.ChangeAt Go.RowKit
section
variable {H : Type} {enc : TypeId × Value → H}
theorem below_trodAll {P : Program} (hl : laidOutB P = true) {W W' : World} (hb : Below W.heap.size W W') :
    ∀ (ts : List TypeId) (vs : List Value) (ds : List (DataW H)) (ps : List MemPlace),
      (ts.all fun t => P.readableRec t && decide (t < P.types.size)) = true →
      DataW.TrodAll enc P W 0 (fun _ => true) true ts vs ds ps →
      DataW.TrodAll enc P W' 0 (fun b => decide (b < W.heap.size)) true ts vs ds ps := by
  intro ts
  induction ts with
  | nil =>
    intro vs ds ps _ h
    cases vs with
    | nil =>
      cases ds with
      | nil => simpa [DataW.TrodAll] using h
      | cons d ds => simp [DataW.TrodAll] at h
    | cons v vs => simp [DataW.TrodAll] at h
  | cons t ts ih =>
    intro vs ds ps hr h
    simp only [List.all_cons, Bool.and_eq_true, decide_eq_true_eq] at hr
    obtain ⟨v, vs', d, ds', p, q, rfl, rfl, rfl, h1, h2⟩ := trodAll_cons h
    have hlt : ∀ x ∈ p, x.block < W.heap.size := by
      obtain ⟨m, hm⟩ := h1
      exact DataW.trod_lt m _ _ _ hm
    exact trodAll_cons_mk (Below.trod hl hr.1.1 hr.1.2 h1 hb hlt) (ih _ _ _ hr.2 h2)
theorem trodAll_length {P : Program} {w : World} {base : Nat} {spare : Nat → Bool} {held : Bool} : ∀ (ts : List TypeId) (vs : List Value) (ds : List (DataW H)) (ps : List MemPlace),
    DataW.TrodAll enc P w base spare held ts vs ds ps → ds.length = ts.length := by
  intro ts
  induction ts with
  | nil =>
    intro vs ds ps h
    cases vs with
    | nil =>
      cases ds with
      | nil => rfl
      | cons d ds => simp [DataW.TrodAll] at h
    | cons v vs => simp [DataW.TrodAll] at h
  | cons t ts ih =>
    intro vs ds ps h
    obtain ⟨v, vs', d, ds', p, q, rfl, rfl, rfl, _, h2⟩ := trodAll_cons h
    simp [ih _ _ _ h2]
theorem law_lifted {C : Checked} {os : Os} {f : FuncId} {fn : Func} {s : ChangeSpec} {conds : List PathCond} {b : TypeId}
    (own : ownKnob C.prog.godebug = none) (started : os.Started) (noInit : C.prog.inits.idxOf? f = none) (hfn : C.prog.funcs[f]? = some fn)
    (witness : ∃ (w : World) (tape : Tape) (i : Input), w.os = os ∧ (w.forCall tape i).Shaped C.prog ∧ i.vars = [] ∧ Input.okWide C.prog (w.forCall tape i) .any w.heap.size f i ∧
      s.pre6 enc C.prog fn conds false (w.forCall tape i).memory i.args ∧ ({} : Assume).holds C.prog (lone (Frame.enter C.prog f i.args .normal) [] (w.forCall tape i)))
    (hl : laidOutB C.prog = true) (hvars : s.vars = []) (hres : fn.resultTypes = #[b]) (hb : C.prog.underlying b = some .bool)
    (hread : (fn.params.toList.all fun t => C.prog.readableRec t && decide (t < C.prog.types.size)) = true)
    (hspec : ∀ ds : List (DataW H), ds.length = fn.params.size → s.fn H ds = { results := [.lit (.bool true)], args := ds, vars := [] })
    (walk : ∀ (W : World) (base : Nat) (args : Array Value) (ds : List (DataW H)) (p : List MemPlace),
      (∀ (j : Nat) t v, fn.params[j]? = some t → args[j]? = some v → Value.okWide C.prog W .any base t v) →
      DataW.TrodAll enc C.prog W 0 (fun _ => true) true fn.params.toList args.toList ds p →
      Calls C.prog f args W fun e W' => e = .returned (.bool true) ∧ Below W.heap.size W W') :
    ReturnsInHanded {} C os f .any (s.pre6 enc C.prog fn conds false) (s.post enc C.prog fn false true false false) := by
  refine returnsInHanded_of_change own started noInit hfn witness ?_
  intro W base args ds gs before hval hW _ _
  have hW' := hW
  obtain ⟨p, q, hA, hV, rfl, _, _⟩ := hW
  rw [hvars] at hV
  obtain ⟨rfl, rfl⟩ := trodVars_none hV
  refine (walk W base args ds p hval hA).mono fun e W' ⟨he, bel⟩ => ?_
  have hlen : ds.length = fn.params.size := by simpa using trodAll_length _ _ _ _ hA
  have hsp := hspec ds hlen
  refine ⟨_, he, ds, [], _, [], p, [], hW', ?_, ?_, ?_, bel.frame _, fun h => by cases h⟩
  · rw [List.append_nil, hsp, hres]
    exact trodAll_mk1 (shut_bool hb _)
  · rw [List.append_nil, hsp]
    exact below_trodAll hl bel _ _ _ _ hread hA
  · rw [List.append_nil, hsp, hvars]
    rfl
end
end Go.Proofs.YtlbhffdpklbhfaaGreat
namespace Go.Proofs.YtlbhffdpklbhfaaGreat
open Go.ChangeShapes Go.WideShapes Go.RowKit
set_option linter.unusedVariables false
theorem own_none : ownKnob Tryz.prog.godebug = none := by kernel_rfl
theorem laid_out : laidOutB Tryz.prog = true := by kernel_rfl
section
variable {H : Type} {enc : TypeId × Value → H} {P : Program} {w : World} {base : Nat} {spare : Nat → Bool} {held : Bool}
end
end Go.Proofs.YtlbhffdpklbhfaaGreat
namespace Go.Proofs.YtlbhffdpklbhfaaGreat
open Go.ChangeShapes Go.WideShapes Go.RowKit Go.Deep
set_option maxRecDepth 100000
set_option linter.unusedVariables false
theorem lt_of_cell {w : World} {a : Addr} {v : Value} (h : w.cell? a = some v) : a.block < w.heap.size := by
  rcases Nat.lt_or_ge a.block w.heap.size with k | k
  · exact k
  · simp [World.cell?, Array.getElem?_eq_none k] at h
theorem add_spotless (g o k : Nat) : (⟨g, o, none⟩ : Addr).add k = ⟨g, o + k, none⟩ := by
  unfold Addr.add
  split <;> simp_all
section
variable {H : Type} {enc : TypeId × Value → H} {w : World} {base : Nat} {spare : Nat → Bool} {held : Bool}
end
end Go.Proofs.YtlbhffdpklbhfaaGreat
