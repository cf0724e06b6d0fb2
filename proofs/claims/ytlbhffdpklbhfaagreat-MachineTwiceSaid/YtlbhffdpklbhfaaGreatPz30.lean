/-
  Texts, one behind the other: MachTell.
  Conditions: those that each theorem states.
-/
import Derived.Deep.RegionHeld3
import Derived.Test.YtlbhffdpklbhfaaGreatPz29
namespace Go.Proofs.YtlbhffdpklbhfaaGreat
open Go.RowKit
set_option maxRecDepth 100000
set_option linter.unusedVariables false
set_option linter.unusedSimpArgs false
def TellW (B gc : Nat) (c : Cl × Int) (w : World) (e : Ending) (w' : World) : Prop := ∃ r', e = .returned (.int .i64 c.2) ∧ r'.c = c.1 ∧ TC B gc r' w' ∧ Below B w w'
theorem Blk.clc {gc : Nat} {r : CR} {t : TypeId} {w : World} (h : Blk gc (cCR r).toArray t w) :
    (w.cell? ⟨gc, 0, none⟩ = some (.int .i64 r.c.id) ∧ w.cell? ⟨gc, 1, none⟩ = some (.int .i64 r.c.map) ∧ w.cell? ⟨gc, 2, none⟩ = some (.slice r.ka r.c.k.length r.kc) ∧ w.cell? ⟨gc, 3, none⟩ = some (.slice r.va r.c.v.length r.vc) ∧ w.cell? ⟨gc, 4, none⟩ = some (.slice r.na r.c.n.length r.nc) ∧ w.cell? ⟨gc, 5, none⟩ = some (.int .u64 r.c.ret)) ∧
    (w.frozen? ⟨gc, 0, none⟩ = false ∧ w.frozen? ⟨gc, 1, none⟩ = false ∧ w.frozen? ⟨gc, 2, none⟩ = false ∧ w.frozen? ⟨gc, 3, none⟩ = false ∧ w.frozen? ⟨gc, 4, none⟩ = false ∧ w.frozen? ⟨gc, 5, none⟩ = false) :=
  ⟨⟨Blk.cell h 0, Blk.cell h 1, Blk.cell h 2, Blk.cell h 3, Blk.cell h 4, Blk.cell h 5⟩, Blk.free h 0, Blk.free h 1, Blk.free h 2, Blk.free h 3, Blk.free h 4, Blk.free h 5⟩
theorem word_rng (i : Int) : 0 ≤ wordI i ∧ wordI i ≤ 18446744073709551615 := by unfold wordI atI; omega
set_option maxHeartbeats 2000000 in
theorem m11_tell_map (w : World) (g B gc : Nat) (r : CR) (S : MS) (H : Nat → Prop) (n : Int) (h : (sysX g S).R w H) (hT : TC B gc r w) (hB : B ≤ w.heap.size) (hn : 0 ≤ n ∧ n ≤ 18446744073709551615) :
    Calls Tryz.prog 157 #[.pointer (some ⟨g, 0, none⟩), .pointer (some ⟨gc, 0, none⟩), .int .u8 1, .int .u64 n] w (TellW B gc (mTell S r.c 1 n) w) := by
  have C1 := Lib.hid (m11_word 0 w)
  obtain ⟨A, hA, hb, hl, hok⟩ := sysX_blk h
  obtain ⟨-, cd, -⟩ := xc_head hb
  have HX := Lib.hid fun u (b : Below w.heap.size w u) => And.intro (cell_on cd b) (hT.after b)
  have hD := hok.D.1
  have hk := hT.ok.c.2.2.2.2.2.2.2.2
  have e1 : IntKind.u64.wrap (n - wordI 0) = (n - wordI 0) % 18446744073709551616 := IntKind.wrap_u64 _
  have e2 : IntKind.u64.wrap (S.D.length : Int) = (S.D.length : Int) := by rw [IntKind.wrap_u64]; omega
  unfold mTell
  rw [if_pos (by rfl)]
  have DONE := Lib.hid fun u (b : Below w.heap.size w u) (m : Int) (hm : 0 ≤ m ∧ m ≤ 1000) => (hT.after b).cell { r with c := { r.c with map := m } } 1 (.int .i64 m) rfl ⟨⟨hT.ok.c.1, hT.ok.c.2.1, hT.ok.c.2.2.1, hT.ok.c.2.2.2.1, hT.ok.c.2.2.2.2.1, hT.ok.c.2.2.2.2.2.1, hT.ok.c.2.2.2.2.2.2.1, hT.ok.c.2.2.2.2.2.2.2.1, hm⟩, hT.ok.k, hT.ok.v, hT.ok.n⟩ (.inl ⟨rfl, rfl⟩) (.inl ⟨rfl, rfl⟩) ⟨rfl, rfl, rfl⟩
  have LOW := Lib.hid hT.low
  clear h hb hl hok cd hT
  generalize S.D.length = nd at *
  have i0 : 0 ≤ (n - wordI 0) % 18446744073709551616 ∧ (n - wordI 0) % 18446744073709551616 ≤ 18446744073709551615 := by omega
  generalize wordI 0 = wd at *
  generalize hi : (n - wd) % 18446744073709551616 = i at *
  clear hi
  by_cases hc : (nd : Int) ≤ i
  · rw [if_pos hc]
    go_enter Tryz.func157, Tryz.ntmps157
    go_wp2_with fail
    refine (C1.out).mono ?_
    rintro e w1 ⟨rfl, b1⟩
    have X := Lib.hid (HX.out _ b1)
    have BB := Lib.hid b1
    have c1 := X.out.1
    clear b1
    go_wp2_with fail
    go_ret
    exact ⟨r, rfl, rfl, X.out.2, BB.out.mono hB⟩
  · rw [if_neg hc]
    have hc' : i < (nd : Int) := by omega
    have e3 : IntKind.i64.wrap i = i := by rw [IntKind.wrap_i64]; omega
    have e4 : wrap64 i = i := by unfold wrap64; omega
    go_enter Tryz.func157, Tryz.ntmps157
    go_wp2_with fail
    refine (C1.out).mono ?_
    rintro e w1 ⟨rfl, b1⟩
    have X := Lib.hid (HX.out _ b1)
    have BB := Lib.hid b1
    have D := Lib.hid (DONE.out _ b1 i ⟨i0.1, by omega⟩)
    have c1 := X.out.1
    obtain ⟨⟨-, y1, -⟩, -, f1, -⟩ := X.out.2.blk.clc
    clear b1
    go_wp2_with fail
    go_ret
    exact ⟨_, rfl, rfl, D.out, (BB.out.mono hB).setCell (p := ⟨gc, 1, none⟩) LOW.out _⟩
theorem sysX_all {w : World} {g : Nat} {S : MS} {H : Nat → Prop} (h : (sysX g S).R w H) : ∃ A : XA, A.ok S ∧ S.ok ∧ H g ∧ ∀ wx : World, (∀ x, H x → wx.heap[x]? = w.heap[x]?) → Blk g (xC A S).toArray 80 wx ∧ XLies A S wx := by
  obtain ⟨hok, A, hA, F1, F2, h1, ⟨F3, F4, h3, ⟨F5, F6, h5, h6, h7, h8⟩, h9, h10⟩, h11, h12⟩ := h
  refine ⟨A, hA, hok, (h12 g).2 (.inl ((h1.2 g).2 rfl)), fun wx hx => ⟨Blk.same h1.1 (hx g ((h12 g).2 (.inl ((h1.2 g).2 rfl)))), h5.2 wx (fun x hk => hx x ((h12 x).2 (.inr ((h10 x).2 (.inr ((h8 x).2 (.inl hk)))))))⟩⟩
theorem pRead_le (M : PM) (a s : Int) : (pRead M a s).1.length ≤ 1024 := by
  unfold pRead
  split
  · simp
  · split
    · simp
    · split
      · simp
      · simp only [List.length_take]
        omega
theorem low_new {B gc : Nat} {w u : World} {v : Value} {A : Option Addr} {n : Nat} (hB : B ≤ w.heap.size) (hb : w.heap.size ≤ u.heap.size) (hgc : gc < w.heap.size) (hv : ∀ k, v.ownBlock = some k → k < w.heap.size) (h : ∀ g o, 0 < n → A = some ⟨g, o, none⟩ → u.heap.size ≤ g) : Low B gc v A n := fun g o h0 e => by
  have := h g o h0 e
  refine ⟨by omega, by omega, fun e2 => ?_⟩
  have := hv g e2
  omega
set_option maxHeartbeats 2000000 in
theorem m11_tell_key (w : World) (g B gc : Nat) (r : CR) (S : MS) (H : Nat → Prop) (n : Int) (h : (sysX g S).R w H) (hT : TC B gc r w) (hB : B ≤ w.heap.size) (hHB : ∀ x, H x → x < B) (hn : 0 ≤ n ∧ n ≤ 18446744073709551615) (hm : r.c.map < S.D.length) :
    Calls Tryz.prog 157 #[.pointer (some ⟨g, 0, none⟩), .pointer (some ⟨gc, 0, none⟩), .int .u8 2, .int .u64 n] w (TellW B gc (mTell S r.c 2 n) w) := by
  obtain ⟨gm, gt, FT, cm, ct, hTT, hTH, -⟩ := sysX_map h
  obtain ⟨A, hA, hok, hHg, hall⟩ := sysX_all h
  have hm0 := hT.ok.c.2.2.2.2.2.2.2.2.1
  obtain ⟨mk, hmk⟩ : ∃ mk : Nat, r.c.map = mk := ⟨r.c.map.toNat, by omega⟩
  have hD := hok.D.1
  obtain ⟨gd, od, had, -⟩ := (hall w (fun x _ => rfl)).2.d (by omega)
  have hagm : A.gm = gm := by
    have c := (xc_head (hall w (fun x _ => rfl)).1).2.2.1
    rw [cm] at c
    cases c
    rfl
  have HA := Lib.hid fun (wx : World) (hx : Below B w wx) => by
    have h1 := hall wx (fun x hH => hx.block x (hHB x hH))
    have h2 := (h1.2.d (by omega))
    obtain ⟨gd2, od2, had2, _, hdc⟩ := h2
    rw [had] at had2
    cases had2
    have h3 := xc_head h1.1
    rw [hagm, had] at h3
    exact And.intro h3.2.2.1 (And.intro h3.2.1 (hdc mk (by omega)).2.1)
  have C1 := Lib.hid fun u (b : Below w.heap.size w u) => by
    obtain ⟨F, G, hD, _⟩ := (sysT gt gm S.T S.M).after hTT b
    exact c8_ReadN u gm S.M G n (dAt S.D mk).key hD.mem hn
  have hpm : PMok S.M := by
    obtain ⟨F, G, hD, _⟩ := hTT
    exact hD.mem.ok
  have RO := Lib.hid (pRead_ok hpm n (dAt S.D mk).key)
  have RL := Lib.hid (pRead_le S.M n (dAt S.D mk).key)
  unfold mTell
  rw [if_neg (by decide), if_pos (by rfl), hmk, Int.toNat_natCast]
  have HX := Lib.hid fun u (b : Below w.heap.size w u) => hT.after b
  have DONE := Lib.hid fun u (b : Below w.heap.size w u) (A1 : Option Addr) (bb : List Int) (c1 : Nat) (hb : BytS u A1 bb) (hl : Low B gc r.nv A1 bb.length) (hob : OkB bb) (hlen : bb.length ≤ 1024) (h1 : bb.length ≤ c1) (h2 : c1 ≤ maxLen) => (hT.after b).cell { r with c := { r.c with k := bb }, ka := A1, kc := c1 } 2 (.slice A1 bb.length c1) rfl ⟨⟨hob, hT.ok.c.2.1, hT.ok.c.2.2.1, hlen, hT.ok.c.2.2.2.2⟩, ⟨h1, h2⟩, hT.ok.v, hT.ok.n⟩ (.inr ⟨hb, hl⟩) (.inl ⟨rfl, rfl⟩) ⟨rfl, rfl, rfl⟩
  have LOW := Lib.hid hT.low
  have NL := Lib.hid hT.n
  have GCL := Lib.hid hT.blk.lt
  have KK := Lib.hid (fun (wx : World) (hx : Below B w wx) (hc : wx.cell? ⟨gc, 1, none⟩ = some (.int .i64 (mk : Int))) => And.intro (HA.out wx hx).1 (And.intro (HA.out wx hx).2.1 (And.intro hc (HA.out wx hx).2.2)))
  have M0 : Hid (w.drew.cell? ⟨gc, 1, none⟩ = some (.int .i64 (mk : Int))) := Lib.hid (by
    have := (hT.after (u' := w.drew) (Below.drew (Below.refl _ _))).blk.clc.1.2.1
    rwa [hmk] at this)
  have MN := Lib.hid fun u (b : Below w.heap.size w u) => by
    have := (hT.after b).blk.clc.1.2.1
    rwa [hmk] at this
  have ZN := Lib.hid fun u (b : Below w.heap.size w u) => And.intro (hT.after b).blk.clc.1.2.2.1 (hT.after b).blk.clc.2.2.2.1
  have k0 : (0 : Int) ≤ mk := by omega
  have k1 : (mk : Int) < S.D.length := by omega
  have HMK := Lib.hid hmk
  clear hmk h hall hok hT hA hTT hTH ct cm had hpm hm hm0 hHg hagm HA
  generalize (dAt S.D mk).key = sz at *
  generalize pRead S.M n sz = R at *
  obtain ⟨bb, er⟩ := R
  dsimp only at *
  generalize S.D.length = nd at *
  generalize A.cd = ac at *
  go_enter Tryz.func157, Tryz.ntmps157
  go_wp2_with fail
  have BB := Lib.hid (show Below B w w.drew from Below.drew (Below.refl _ _))
  have HB : Below w.heap.size w w.drew := Below.drew (Below.refl _ _)
  go_region_held3 (fun w' => w'.cell? ⟨g, 2, none⟩ = some (.pointer (some ⟨gm, 0, none⟩)) ∧ w'.cell? ⟨g, 1, none⟩ = some (.slice (some ⟨gd, od, none⟩) nd ac) ∧ w'.cell? ⟨gc, 1, none⟩ = some (.int .i64 (mk : Int)) ∧ w'.cell? ⟨gd, od + mk * 4 + 1, none⟩ = some (.int .i64 sz))
    (first
      | exact KK.out _ BB.out M0.out
      | exact KK.out _ (BB.out.setCell (p := ⟨gc, 2, none⟩) LOW.out _) MS.out)
    (first | (go_at_call 162; refine (C1.out _ HB).mono ?_; rintro e w3 ⟨A1, c1, rfl, hby, hl1, hl2, b3, hnew⟩; have SZ := Lib.hid HB.size; replace HB := below_next' HB b3; replace BB := Lib.hid (HB.mono hB); replace M0 := Lib.hid (MN.out _ HB); have MS := Lib.hid ((cell_setCell_off _ gc 2 1 (.slice A1 bb.length c1) (by decide)).trans M0.out); obtain ⟨z2, f2⟩ := ZN.out _ HB; have LW : Hid (Low B gc r.nv A1 bb.length) := Lib.hid (low_new hB SZ.out GCL.out (fun k hk => (NL.out.lt k hk).2) hnew); have DD := Lib.hid (DONE.out _ HB A1 bb c1 hby LW.out RO.out RL.out hl1 hl2); clear b3 hby hnew hl1 hl2))
  all_goals
    go_wp2_with fail
    go_ret
    exact ⟨_, rfl, by rw [← HMK.out], DD.out, BB.out.setCell (p := ⟨gc, 2, none⟩) LOW.out _⟩
set_option maxHeartbeats 2000000 in
theorem m11_tell_val (w : World) (g B gc : Nat) (r : CR) (S : MS) (H : Nat → Prop) (n : Int) (h : (sysX g S).R w H) (hT : TC B gc r w) (hB : B ≤ w.heap.size) (hHB : ∀ x, H x → x < B) (hn : 0 ≤ n ∧ n ≤ 18446744073709551615) (hm : r.c.map < S.D.length) :
    Calls Tryz.prog 157 #[.pointer (some ⟨g, 0, none⟩), .pointer (some ⟨gc, 0, none⟩), .int .u8 3, .int .u64 n] w (TellW B gc (mTell S r.c 3 n) w) := by
  obtain ⟨gm, gt, FT, cm, ct, hTT, hTH, -⟩ := sysX_map h
  obtain ⟨A, hA, hok, hHg, hall⟩ := sysX_all h
  have hm0 := hT.ok.c.2.2.2.2.2.2.2.2.1
  obtain ⟨mk, hmk⟩ : ∃ mk : Nat, r.c.map = mk := ⟨r.c.map.toNat, by omega⟩
  have hD := hok.D.1
  obtain ⟨gd, od, had, -⟩ := (hall w (fun x _ => rfl)).2.d (by omega)
  have hagm : A.gm = gm := by
    have c := (xc_head (hall w (fun x _ => rfl)).1).2.2.1
    rw [cm] at c
    cases c
    rfl
  have HA := Lib.hid fun (wx : World) (hx : Below B w wx) => by
    have h1 := hall wx (fun x hH => hx.block x (hHB x hH))
    have h2 := (h1.2.d (by omega))
    obtain ⟨gd2, od2, had2, _, hdc⟩ := h2
    rw [had] at had2
    cases had2
    have h3 := xc_head h1.1
    rw [hagm, had] at h3
    exact And.intro h3.2.2.1 (And.intro h3.2.1 (hdc mk (by omega)).2.2.1)
  have C1 := Lib.hid fun u (b : Below w.heap.size w u) => by
    obtain ⟨F, G, hD, _⟩ := (sysT gt gm S.T S.M).after hTT b
    exact c8_ReadN u gm S.M G n (dAt S.D mk).val hD.mem hn
  have hpm : PMok S.M := by
    obtain ⟨F, G, hD, _⟩ := hTT
    exact hD.mem.ok
  have RO := Lib.hid (pRead_ok hpm n (dAt S.D mk).val)
  have RL := Lib.hid (pRead_le S.M n (dAt S.D mk).val)
  unfold mTell
  rw [if_neg (by decide), if_neg (by decide), if_pos (by rfl), hmk, Int.toNat_natCast]
  have HX := Lib.hid fun u (b : Below w.heap.size w u) => hT.after b
  have DONE := Lib.hid fun u (b : Below w.heap.size w u) (A1 : Option Addr) (bb : List Int) (c1 : Nat) (hb : BytS u A1 bb) (hl : Low B gc r.nv A1 bb.length) (hob : OkB bb) (hlen : bb.length ≤ 1024) (h1 : bb.length ≤ c1) (h2 : c1 ≤ maxLen) => (hT.after b).cell { r with c := { r.c with v := bb }, va := A1, vc := c1 } 3 (.slice A1 bb.length c1) rfl ⟨⟨hT.ok.c.1, hob, hT.ok.c.2.2.1, hT.ok.c.2.2.2.1, hlen, hT.ok.c.2.2.2.2.2⟩, hT.ok.k, ⟨h1, h2⟩, hT.ok.n⟩ (.inl ⟨rfl, rfl⟩) (.inr ⟨hb, hl⟩) ⟨rfl, rfl, rfl⟩
  have LOW := Lib.hid hT.low
  have NL := Lib.hid hT.n
  have GCL := Lib.hid hT.blk.lt
  have KK := Lib.hid (fun (wx : World) (hx : Below B w wx) (hc : wx.cell? ⟨gc, 1, none⟩ = some (.int .i64 (mk : Int))) => And.intro (HA.out wx hx).1 (And.intro (HA.out wx hx).2.1 (And.intro hc (HA.out wx hx).2.2)))
  have M0 : Hid (w.drew.cell? ⟨gc, 1, none⟩ = some (.int .i64 (mk : Int))) := Lib.hid (by
    have := (hT.after (u' := w.drew) (Below.drew (Below.refl _ _))).blk.clc.1.2.1
    rwa [hmk] at this)
  have MN := Lib.hid fun u (b : Below w.heap.size w u) => by
    have := (hT.after b).blk.clc.1.2.1
    rwa [hmk] at this
  have ZN := Lib.hid fun u (b : Below w.heap.size w u) => And.intro (hT.after b).blk.clc.1.2.2.2.1 (hT.after b).blk.clc.2.2.2.2.1
  have k0 : (0 : Int) ≤ mk := by omega
  have k1 : (mk : Int) < S.D.length := by omega
  have HMK := Lib.hid hmk
  clear hmk h hall hok hT hA hTT hTH ct cm had hpm hm hm0 hHg hagm HA
  generalize (dAt S.D mk).val = sz at *
  generalize pRead S.M n sz = R at *
  obtain ⟨bb, er⟩ := R
  dsimp only at *
  generalize S.D.length = nd at *
  generalize A.cd = ac at *
  go_enter Tryz.func157, Tryz.ntmps157
  go_wp2_with fail
  have BB := Lib.hid (show Below B w w.drew from Below.drew (Below.refl _ _))
  have HB : Below w.heap.size w w.drew := Below.drew (Below.refl _ _)
  go_region_held3 (fun w' => w'.cell? ⟨g, 2, none⟩ = some (.pointer (some ⟨gm, 0, none⟩)) ∧ w'.cell? ⟨g, 1, none⟩ = some (.slice (some ⟨gd, od, none⟩) nd ac) ∧ w'.cell? ⟨gc, 1, none⟩ = some (.int .i64 (mk : Int)) ∧ w'.cell? ⟨gd, od + mk * 4 + 2, none⟩ = some (.int .i64 sz))
    (first
      | exact KK.out _ BB.out M0.out
      | exact KK.out _ (BB.out.setCell (p := ⟨gc, 3, none⟩) LOW.out _) MS.out)
    (first | (go_at_call 162; refine (C1.out _ HB).mono ?_; rintro e w3 ⟨A1, c1, rfl, hby, hl1, hl2, b3, hnew⟩; have SZ := Lib.hid HB.size; replace HB := below_next' HB b3; replace BB := Lib.hid (HB.mono hB); replace M0 := Lib.hid (MN.out _ HB); have MS := Lib.hid ((cell_setCell_off _ gc 3 1 (.slice A1 bb.length c1) (by decide)).trans M0.out); obtain ⟨z2, f2⟩ := ZN.out _ HB; have LW : Hid (Low B gc r.nv A1 bb.length) := Lib.hid (low_new hB SZ.out GCL.out (fun k hk => (NL.out.lt k hk).2) hnew); have DD := Lib.hid (DONE.out _ HB A1 bb c1 hby LW.out RO.out RL.out hl1 hl2); clear b3 hby hnew hl1 hl2))
  all_goals
    go_wp2_with fail
    go_ret
    exact ⟨_, rfl, by rw [← HMK.out], DD.out, BB.out.setCell (p := ⟨gc, 3, none⟩) LOW.out _⟩
set_option maxHeartbeats 2000000 in
theorem m11_tell_num (w : World) (g B gc : Nat) (r : CR) (S : MS) (n : Int) (hT : TC B gc r w) (hB : B ≤ w.heap.size) (hn : 0 ≤ n ∧ n ≤ 18446744073709551615) (hl : r.c.n.length ≤ 7) :
    Calls Tryz.prog 157 #[.pointer (some ⟨g, 0, none⟩), .pointer (some ⟨gc, 0, none⟩), .int .u8 4, .int .u64 n] w (TellW B gc (mTell S r.c 4 n) w) := by
  obtain ⟨i1, hi1, hz, hs, hby⟩ := info_parts (show (Tryz.prog.info? 42).map (fun i => (i.zero, i.size, i.bytes)) = some (some (.int .u64 0), 1, 8) by kernel_rfl)
  unfold mTell
  rw [if_neg (by decide), if_neg (by decide), if_neg (by decide), if_pos (by rfl)]
  have b1 := below_alloc (Below.refl w.heap.size w) (.cells #[.int .u64 n] 42)
  have hT1 := hT.after b1
  obtain ⟨⟨-, -, -, -, c4, -⟩, -⟩ := hT.blk.clc
  have NEW := fun (j : Nat) (u : Value) (hu : [Value.int .u64 n][j]? = some u) => (show (w.alloc (.cells #[.int .u64 n] 42)).cell? ((⟨w.heap.size, 0, none⟩ : Addr).add j) = some u from by
    have q := World.news_of_block (w := w.alloc (.cells #[.int .u64 n] 42)) (t := 42) (fr := (0, 0)) (heap_alloc_new w (.cells #[.int .u64 n] 42))
    exact q j u hu)
  obtain ⟨ga, cap, w4, hr, ho, hg, hp, hlt⟩ := run_append_lies (P := Tryz.prog) _ 26 26 B 42 i1 (.int .u64 0) 1 8 Tryz.underlying26 hi1 hz hs hby rfl (by omega) _ _ _ hT1.n ⟨w.heap.size, 0, none⟩ 1 1 [.int .u64 n] rfl NEW
    (fun u hu => by simp only [List.mem_singleton] at hu; subst hu; rfl) (by omega) (by unfold maxLen; omega) (by omega) (Nat.le_trans hB b1.size) _ rfl
  obtain ⟨A3, c3, hA3, hc1, hc2⟩ := own_slice ho
  injection hA3 with hA4 hA5 hA6
  subst hA6
  obtain ⟨q1, q2⟩ := hT.num hB b1 hn hl ho hg hp hlt ⟨hc1, hc2⟩
  have c4' : w4.cell? ⟨gc, 4, none⟩ = some (.slice r.na r.c.n.length r.nc) := (hT1.blk.same (hg.block gc hT1.blk.lt (fun e => hT.nl e.symm))).clc.1.2.2.2.2.1
  have f4' : w4.frozen? ⟨gc, 4, none⟩ = false := (hT1.blk.same (hg.block gc hT1.blk.lt (fun e => hT.nl e.symm))).clc.2.2.2.2.2.1
  have Q1 := Lib.hid q1
  have Q2 := Lib.hid (b1.mono hB |>.trans q2)
  unfold CR.nv at hr
  clear hT hT1 NEW ho hg hp q1 q2 b1 hA4 hA5
  go_enter Tryz.func157, Tryz.ntmps157
  go_wp2_with ((at_builtin; refine Lib.wpList_append_run _ rfl (.tmp 85) (.tmp 87) _ _ rfl _ _ rfl rfl _ _ hr ?_))
  go_ret
  exact ⟨_, rfl, rfl, Q1.out, Q2.out⟩
end Go.Proofs.YtlbhffdpklbhfaaGreat
