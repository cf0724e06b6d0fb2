/-
  Texts, one behind the other: MachDraw, MachTells.
  Conditions: those that each theorem states.
-/
import Derived.Test.YtlbhffdpklbhfaaGreatPz31
import Derived.Test.YtlbhffdpklbhfaaGreatPz32
namespace Go.Proofs.YtlbhffdpklbhfaaGreat
open Go.RowKit
set_option maxRecDepth 100000
set_option linter.unusedVariables false
set_option linter.unusedSimpArgs false
theorem okN_drop1 {b : List Int} (h : OkN b) : OkN (b.drop 1) := okN_drop h 1
theorem sysX_dr {w : World} {g : Nat} {S : MS} {H : Nat → Prop} (h : (sysX g S).R w H) : ∃ (ar : Option Addr) (cr : Nat), (S.dr.length ≤ cr ∧ cr ≤ maxLen) ∧ (∀ u, Below w.heap.size w u → u.cell? ⟨g, 4, none⟩ = some (.slice ar S.dr.length cr) ∧ u.frozen? ⟨g, 4, none⟩ = false ∧ NumS u ar S.dr) ∧
    ∀ u, Below w.heap.size w u → ∀ (ar' : Option Addr) (n' cr' : Nat), n' = (S.dr.drop 1).length → n' ≤ cr' → cr' ≤ maxLen → (∀ wx, NumS wx ar S.dr → NumS wx ar' (S.dr.drop 1)) → Tn (sysX g { S with dr := S.dr.drop 1 }) H w (u.setCell ⟨g, 4, none⟩ (.slice ar' n' cr')) := by
  have h0 := h
  obtain ⟨hok, A, hA, F1, F2, h1, ⟨F3, F4, h3, ⟨F5, F6, h5, h6, h7, h8⟩, h9, h10⟩, h11, h12⟩ := h
  have hH : ∀ x, H x → x < w.heap.size := fun x hx => (sysX g S).lt h0 hx
  have hgH : H g := (h12 g).2 (.inl ((h1.2 g).2 rfl))
  have hbk : ∀ u, Below w.heap.size w u → Blk g (xC A S).toArray 80 u := fun u b => h1.1.after b
  refine ⟨A.ar, A.cr, hA.r, fun u b => ⟨(xc_head (hbk u b)).2.2.2.2, Blk.free (hbk u b) 4, (h5.2 u (fun x hx => b.block x (Sys.lt (sysL (XLies A S)) h5 hx))).r⟩, fun u b ar' n' cr' hn' hc1 hc2 hnum => ?_⟩
  subst hn'
  have hb' := blk_list (hbk u b) 4 (.slice ar' (S.dr.drop 1).length cr')
  have e : (xC A S).set 4 (.slice ar' (S.dr.drop 1).length cr') = xC { A with ar := ar', cr := cr' } { S with dr := S.dr.drop 1 } := rfl
  rw [e] at hb'
  have keep : ∀ x, x < w.heap.size → x ≠ g → (u.setCell ⟨g, 4, none⟩ (.slice ar' (S.dr.drop 1).length cr')).heap[x]? = w.heap[x]? := fun x hx hne => (Below.heap_setCell _ _ _ _ hne).trans (b.block x hx)
  have n1 : ∀ x, F2 x → x ≠ g := fun x hx e => h11 g ((h1.2 g).2 rfl) (by rw [← e]; exact hx)
  have n3 : ∀ x, F3 x → x ≠ g := fun x hx => n1 x ((h10 x).2 (.inl hx))
  have n5 : ∀ x, F5 x → x ≠ g := fun x hx => n1 x ((h10 x).2 (.inr ((h8 x).2 (.inl hx))))
  have n6 : ∀ x, F6 x → x ≠ g := fun x hx => n1 x ((h10 x).2 (.inr ((h8 x).2 (.inr hx))))
  have sz : w.heap.size ≤ (u.setCell ⟨g, 4, none⟩ (.slice ar' (S.dr.drop 1).length cr')).heap.size := by rw [setCell_size]; exact b.size
  have k3 := Sys.keep (sysT A.gt A.gm S.T S.M) h3 (fun x hx => keep x (Sys.lt (sysT A.gt A.gm S.T S.M) h3 hx) (n3 x hx))
  have k5 := Sys.keep (sysL (XLies A S)) h5 (fun x hx => keep x (Sys.lt (sysL (XLies A S)) h5 hx) (n5 x hx))
  have k6 := Sys.keep (sysR 0 59 6 A.vc S.calls.length (crC A.L)) h6 (fun x hx => keep x (Sys.lt _ h6 hx) (n6 x hx))
  refine ⟨H, ⟨⟨hok.l, hok.chk, hok.at_, hok.n, hok.r, hok.D, ⟨okN_drop1 hok.dr.1, by rw [List.length_drop]; have := hok.dr.2; omega⟩, hok.steps⟩, { A with ar := ar', cr := cr' }, ⟨hA.l, hA.d, ⟨hc1, hc2⟩, hA.c, hA.L⟩, F1, F2, ⟨hb', h1.2⟩, ⟨F3, F4, k3, ⟨F5, F6, ⟨k5.1, fun wx hx => ?_⟩, k6, h7, h8⟩, h9, h10⟩, h11, h12⟩, ?_, fun x hx => .inl hx⟩
  · have q := k5.2 wx hx
    exact ⟨q.l, q.d, hnum wx q.r, q.c⟩
  · exact Turn.setCell (F := H) (Turn.of_below b) (p := ⟨g, 4, none⟩) (.inl hgH) _
def drawS (S : MS) (id : Int) : MS := if (hDr id (S.dr.take 1)).2.2 == 0 then { S with dr := S.dr.drop 1 } else S
def drawR (S : MS) (id : Int) : Int × Int := if (hDr id (S.dr.take 1)).2.2 == 0 then ((hDr id (S.dr.take 1)).1, 0) else (0, (hDr id (S.dr.take 1)).2.2)
theorem NumS.take1 {u : World} {A : Option Addr} {b : List Int} (h : NumS u A b) : NumS u A (b.take 1) := fun h0 => by
  rw [List.length_take] at h0
  obtain ⟨g, o, e, hg, hc⟩ := h (by omega)
  refine ⟨g, o, e, hg, fun k hk => ?_⟩
  rw [List.length_take] at hk
  rw [bAt_take b 1 k (by omega)]
  exact hc k (by omega)
theorem NumS.shift {u : World} {ga oa : Nat} {b : List Int} (h : NumS u (some ⟨ga, oa, none⟩) b) : NumS u (some ⟨ga, oa + 1, none⟩) (b.drop 1) := fun h0 => by
  rw [List.length_drop] at h0
  obtain ⟨g, o, e, hg, hc⟩ := h (by omega)
  cases e
  exact ⟨ga, oa + 1, rfl, hg, NumS.tail hg hc 1⟩
theorem hDr_some {id : Int} {b : List Int} (h : ((hDr id (b.take 1)).2.2 == 0) = true) : 0 < b.length := by
  unfold hDr at h
  cases b with
  | nil =>
    simp at h
    split at h <;> simp at h
  | cons x l => simp
set_option maxHeartbeats 2000000 in
theorem m11_draw (w : World) (g : Nat) (S : MS) (H : Nat → Prop) (id : Int) (h : (sysX g S).R w H) :
    Calls Tryz.prog 160 #[.pointer (some ⟨g, 0, none⟩), .int .i64 id] w (OpS (sysX g (drawS S id)) H (.tuple #[.int .u64 (drawR S id).1, .int .i64 (drawR S id).2]) w) := by
  have hok := sysX_ok h
  obtain ⟨ar, cr, ⟨hc1, hc2⟩, hcell, hclose⟩ := sysX_dr h
  have SAME := Lib.hid fun u (b : Below w.heap.size w u) => Tn.refl h b
  have hlen : (S.dr.take 1).length = min 1 S.dr.length := List.length_take ..
  have C1 := Lib.hid fun u (b : Below w.heap.size w u) => h10_Draw id (S.dr.take 1) ar cr u (by rw [hlen]; omega) (by rw [hlen]; omega) hc2 (hcell u b).2.2.take1 (okN_take hok.dr.1 1)
  rw [hlen] at C1
  have har : 0 < S.dr.length → ∃ ga oa, ar = some ⟨ga, oa, none⟩ := fun h0 => by
    obtain ⟨ga, oa, e, _⟩ := (hcell w (Below.refl _ _)).2.2 h0
    exact ⟨ga, oa, e⟩
  have CC := Lib.hid fun u (b : Below w.heap.size w u) => And.intro (hcell u b).1 (hcell u b).2.1
  have HP := Lib.hid (hDr_some (id := id) (b := S.dr))
  have CL := Lib.hid hclose
  have ND := Lib.hid (show (S.dr.drop 1).length = S.dr.length - 1 from List.length_drop ..)
  have ml := hok.dr.2
  clear h hok hcell hlen hclose
  unfold drawS drawR
  unfold maxLen at hc2
  generalize hDr id (S.dr.take 1) = R at *
  obtain ⟨a, rest, er⟩ := R
  dsimp only at *
  generalize S.dr.length = n at *
  have HB : Below w.heap.size w w.drew := Below.drew (Below.refl _ _)
  have hif : min 1 n = if 0 < n then 1 else 0 := by split <;> omega
  by_cases hn0 : 0 < n
  · rw [if_pos hn0] at hif
    rw [hif] at C1
    have hn1 : (0 : Int) < n := by omega
    have hn2 : (1 : Int) ≤ n := by omega
    have hn3 : (1 : Int) ≤ cr := by omega
    have hifI : (if (n : Int) < 1 then (n : Int) else 1) = 1 := if_neg (by omega)
    cases h1 : (er == 0)
    · have n1 := ne_of_eq0 h1
      rw [if_neg Bool.false_ne_true, if_neg Bool.false_ne_true]
      clear CL
      go_enter Tryz.func160, Tryz.ntmps160
      go_wp2_with fail
      go_region_held3 (fun w' => w'.cell? ⟨g, 4, none⟩ = some (.slice ar n cr))
        (exact (CC.out _ HB).1)
        (first | (go_at_call 185; refine (C1.out _ HB).mono ?_; rintro e w3 ⟨A3, c3, rfl, b3, ho3⟩; replace HB := below_next' HB b3; clear b3 ho3))
      all_goals
        go_wp2_with fail
        go_ret2
        exact ⟨rfl, SAME.out _ HB⟩
    · have h0 : er = 0 := by simpa using h1
      subst h0
      rw [if_pos rfl, if_pos rfl]
      clear SAME h1 HP
      by_cases hc : cr = 1
      · subst hc
        have hnn : n = 1 := by omega
        subst hnn
        go_enter Tryz.func160, Tryz.ntmps160
        go_wp2_with fail
        go_region_held3 (fun w' => w'.cell? ⟨g, 4, none⟩ = some (.slice ar 1 1))
          (exact (CC.out _ HB).1)
          (first | (go_at_call 185; refine (C1.out _ HB).mono ?_; rintro e w3 ⟨A3, c3, rfl, b3, ho3⟩; replace HB := below_next' HB b3; clear b3 ho3))
        all_goals
          obtain ⟨c4, f4⟩ := CC.out _ HB
          go_wp2_with fail
          go_ret2
          exact ⟨rfl, CL.out _ HB ar 0 0 (by rw [ND.out]) (Nat.le_refl _) (Nat.zero_le _) (fun wx hx h0 => by rw [ND.out] at h0; omega)⟩
      · obtain ⟨ga, oa, rfl⟩ := har hn0
        have hcn : ¬ cr = 1 := hc
        have e1 : ((cr : Int) - 1) = ((cr - 1 : Nat) : Int) := by omega
        have e2 : ((n : Int) - 1) = ((n - 1 : Nat) : Int) := by omega
        go_enter Tryz.func160, Tryz.ntmps160
        go_wp2_with fail
        go_region_held3 (fun w' => w'.cell? ⟨g, 4, none⟩ = some (.slice (some ⟨ga, oa, none⟩) n cr))
          (exact (CC.out _ HB).1)
          (first | (go_at_call 185; refine (C1.out _ HB).mono ?_; rintro e w3 ⟨A3, c3, rfl, b3, ho3⟩; replace HB := below_next' HB b3; clear b3 ho3))
        all_goals
          obtain ⟨c4, f4⟩ := CC.out _ HB
          go_wp2_with fail
          go_ret2
          exact ⟨rfl, CL.out _ HB (some ⟨ga, oa + 1, none⟩) (n - 1) (cr - 1) (by rw [ND.out]) (by omega) (by unfold maxLen; omega) (fun wx hx => hx.shift)⟩
  · have hnz : n = 0 := by omega
    subst hnz
    cases h1 : (er == 0)
    rotate_left 1
    · exact absurd (HP.out h1) (by omega)
    rw [hif] at C1
    simp only [Nat.lt_irrefl, if_false] at C1
    have n1 := ne_of_eq0 h1
    rw [if_neg Bool.false_ne_true, if_neg Bool.false_ne_true]
    have hifI : (if ((0 : Nat) : Int) < 1 then ((0 : Nat) : Int) else 1) = 0 := rfl
    clear CL h1 HP
    go_enter Tryz.func160, Tryz.ntmps160
    go_wp2_with fail
    go_region_held3 (fun w' => w'.cell? ⟨g, 4, none⟩ = some (.slice ar 0 cr))
      (exact (CC.out _ HB).1)
      (first | (go_at_call 185; refine (C1.out _ HB).mono ?_; rintro e w3 ⟨A3, c3, rfl, b3, ho3⟩; replace HB := below_next' HB b3; clear b3 ho3))
    all_goals
      go_wp2_with fail
      go_ret2
      exact ⟨rfl, SAME.out _ HB⟩
def SameD (T T' : TT) : Prop := T'.length = T.length ∧ ∀ i, (mt T' i).d = (mt T i).d
theorem SameD.refl (T : TT) : SameD T T := ⟨rfl, fun _ => rfl⟩
theorem SameD.set {T : TT} {k : Nat} (hk : k < T.length) {m : TM} (hm : m.d = (mt T k).d) : SameD T (T.set k m) := ⟨by simp, fun i => by
  rw [mt_set hk]
  split
  · rename_i e; rw [hm, e]
  · rfl⟩
theorem may_lt {T : TT} {i : Int} {key : List Int} (h : tMay T i key = true) : i.toNat < T.length := by
  unfold tMay at h
  simp only [Bool.and_eq_true, decide_eq_true_eq] at h
  omega
theorem tFill_len (l : List Int) : ∀ (M : PM) (i s : Int) (k : Nat), (tFill M i s k l).length = M.length := by
  induction l with
  | nil => intro M i s k; rfl
  | cons x l ih =>
    intro M i s k
    show (tFill _ i s (k + 1) l).length = _
    rw [ih, pStore_lenM]
theorem pMake_lenM (M : PM) (id : Int) (b : List Int) (bl fx : Bool) : (pMake M id b bl fx).1.length ≤ M.length + 1 := by
  unfold pMake
  split
  · exact Nat.le_succ _
  · split
    · exact Nat.le_succ _
    · simp
theorem tPut_same (T : TT) (M : PM) (i : Int) (key val : List Int) (fl : Int) : SameD T (tPut T M i key val fl).T ∧ (tPut T M i key val fl).M.length ≤ M.length + 1 := by
  unfold tPut
  split
  · rename_i hm
    simp only [Bool.and_eq_true] at hm
    have hlt := may_lt hm.1
    dsimp only
    split
    · exact ⟨SameD.refl _, Nat.le_succ _⟩
    · split
      · split
        · exact ⟨SameD.refl _, Nat.le_succ _⟩
        · exact ⟨SameD.refl _, by rw [tFill_len]; exact Nat.le_succ _⟩
      · split
        · exact ⟨SameD.refl _, Nat.le_succ _⟩
        · split
          · exact ⟨SameD.refl _, Nat.le_succ _⟩
          · split
            · exact ⟨SameD.refl _, Nat.le_succ _⟩
            · split
              · exact ⟨SameD.refl _, Nat.le_succ _⟩
              · split
                · exact ⟨SameD.set hlt rfl, pMake_lenM _ _ _ _ _⟩
                · exact ⟨SameD.refl _, Nat.le_succ _⟩
  · exact ⟨SameD.refl _, Nat.le_succ _⟩
theorem tDrop_same (T : TT) (i : Int) (key : List Int) : SameD T (tDrop T i key).1 := by
  unfold tDrop
  split
  · rename_i hm
    have hlt := may_lt hm
    dsimp only
    split
    · exact SameD.refl _
    · split
      · exact SameD.refl _
      · exact SameD.set hlt rfl
  · exact SameD.refl _
theorem map_ok {S : MS} (h : S.ok) {T' : TT} {M' : PM} (hT : SameD S.T T') (hM : M'.length ≤ 20001 + S.steps) : ({ S with T := T', M := M' } : MS).ok :=
  ⟨h.l, h.chk, h.at_, h.n, h.r, ⟨h.D.1, by show T'.length = _; rw [hT.1]; exact h.D.2.1, fun i hi => by show (mt T' i).d = _; rw [hT.2 i]; exact h.D.2.2.1 i hi, h.D.2.2.2⟩, h.dr, ⟨h.steps.1, hM⟩⟩
def tellsS (S : MS) (c : Cl) : MS := { S with T := (mTells S c).T, M := (mTells S c).M, dr := (mTells S c).dr }
theorem keep_low {H : Nat → Prop} {B : Nat} {w : World} {A : Option Addr} {b : List Int} (h : BytS w A b) (hH : ∀ x, H x → x < B) (hl : ∀ g o, 0 < b.length → A = some ⟨g, o, none⟩ → B ≤ g) : Keep H w A b := fun u t h0 => by
  obtain ⟨g, o, e, hg, hc⟩ := h h0
  have hge := hl g o h0 e
  refine ⟨g, o, e, Nat.lt_of_lt_of_le hg t.size, fun k hk => (World.cell?_of_block (a := ⟨g, o + k, none⟩) (t.block g hg (fun hx => ?_))).trans (hc k hk)⟩
  have := hH g hx
  omega
set_option maxHeartbeats 2000000 in
theorem m11_tells_look (w : World) (g B : Nat) (r : CR) (S : MS) (H : Nat → Prop) (h : (sysX g S).R w H) (hr : r.ok) (hn : CRN B w r) (hHB : ∀ x, H x → x < B) (hB : B ≤ w.heap.size) (hgo : S.go) (hid : r.c.id = 1) :
    Calls Tryz.prog 109 #[.pointer (some ⟨g, 0, none⟩), .agg (cCR r).toArray] w (OpS (sysX g (tellsS S r.c)) H (.tuple #[.int .u64 (mTells S r.c).n, .int .i64 (mTells S r.c).e]) w) := by
  have hok := sysX_ok h
  obtain ⟨gm, gt, FT, cm, ct, hT, ⟨hTH, hTg⟩, hclose⟩ := sysX_map h
  have hT8 : S.T.length ≤ 1000 := by have := hok.D; omega
  have gH : g < w.heap.size := World.block_lt_of_cell? w _ ct
  have BX := Lib.hid (Blk.new w (cCR r).toArray 59 rfl)
  have BD := Lib.hid (Below.drew (below_alloc (Below.refl w.heap.size w) (.cells (cCR r).toArray 59)))
  have gbn : ¬ FT w.heap.size := fun hx => by have := hHB _ (hTH _ hx); omega
  have e1 : tellsS S r.c = S := by unfold tellsS mTells; rw [hid]; rfl
  have e2 : mTells S r.c = ⟨S.T, S.M, S.dr, (tLook S.T r.c.map r.c.k).1, (tLook S.T r.c.map r.c.k).2⟩ := by unfold mTells; rw [hid]; rfl
  have SAME := Lib.hid fun u (b : Below w.heap.size w u) => Tn.refl h b
  have C1 := Lib.hid fun u (b : Below w.heap.size w u) => ot_Look r.c.map r.c.k r.ka _ r.kc ((sysT gt gm S.T S.M).after hT b) hT8 (hn.s.k.after b) hr.c.1 rfl hr.k.1 hr.k.2
  rw [e1, e2]
  dsimp only
  clear hclose e1 e2
  generalize tLook S.T r.c.map r.c.k = q at *
  obtain ⟨a, ea⟩ := q
  dsimp only at *
  rw [show (cCR r).toArray = #[.int .i64 r.c.id, .int .i64 r.c.map, .slice r.ka r.c.k.length r.kc, .slice r.va r.c.v.length r.vc, .slice r.na r.c.n.length r.nc, .int .u64 r.c.ret] from rfl] at *
  rw [hid] at *
  have KK := Lib.hid (fun (wx : World) (hx : Below (w.heap.size + 1) (w.alloc (.cells #[.int .i64 1, .int .i64 r.c.map, .slice r.ka r.c.k.length r.kc, .slice r.va r.c.v.length r.vc, .slice r.na r.c.n.length r.nc, .int .u64 r.c.ret] 59)) wx) => And.intro ((hx.cell (p := ⟨g, 3, none⟩) (by show g < _; omega)).trans (cell_on ct (below_alloc (Below.refl _ _) _))) (And.intro ((hx.cell (p := ⟨w.heap.size, 1, none⟩) (by show w.heap.size < _; omega)).trans (Blk.six BX.out).1.2.1) ((hx.cell (p := ⟨w.heap.size, 2, none⟩) (by show w.heap.size < _; omega)).trans (Blk.six BX.out).1.2.2.1)))
  have HX : Below (w.heap.size + 1) (w.alloc (.cells #[.int .i64 1, .int .i64 r.c.map, .slice r.ka r.c.k.length r.kc, .slice r.va r.c.v.length r.vc, .slice r.na r.c.n.length r.nc, .int .u64 r.c.ret] 59)) (w.alloc (.cells #[.int .i64 1, .int .i64 r.c.map, .slice r.ka r.c.k.length r.kc, .slice r.va r.c.v.length r.vc, .slice r.na r.c.n.length r.nc, .int .u64 r.c.ret] 59)).drew := Below.drew (Below.refl _ _)
  have HB := BD.out
  clear h hr hn hHB hB hgo hok cm ct hT hTH hT8 gbn hTg gH BX BD hid
  generalize r.c.k.length = nk at *
  generalize r.c.v.length = nv at *
  generalize r.c.n.length = nn at *
  go_enter Tryz.func109, Tryz.ntmps109
  go_wp2_with fail
  go_region_held3 (fun w' => w'.cell? ⟨g, 3, none⟩ = some (.pointer (some ⟨gt, 0, none⟩)) ∧ w'.cell? ⟨w.heap.size, 1, none⟩ = some (.int .i64 r.c.map) ∧ w'.cell? ⟨w.heap.size, 2, none⟩ = some (.slice r.ka nk r.kc))
    (exact KK.out _ HX)
    (first | (go_at_call 158; refine (C1.out _ HB).mono ?_; rintro e w9 ⟨rfl, b9⟩; replace HX := HX.trans (b9.mono (Nat.le_trans (by simp) HX.size)); replace HB := below_next' HB b9; clear b9))
  all_goals
    go_wp2_with fail
    go_ret2
    exact ⟨rfl, SAME.out _ HB⟩
set_option maxHeartbeats 2000000 in
theorem m11_tells_drop (w : World) (g B : Nat) (r : CR) (S : MS) (H : Nat → Prop) (h : (sysX g S).R w H) (hr : r.ok) (hn : CRN B w r) (hHB : ∀ x, H x → x < B) (hB : B ≤ w.heap.size) (hgo : S.go) (hid : r.c.id = 3) :
    Calls Tryz.prog 109 #[.pointer (some ⟨g, 0, none⟩), .agg (cCR r).toArray] w (OpS (sysX g (tellsS S r.c)) H (.tuple #[.int .u64 (mTells S r.c).n, .int .i64 (mTells S r.c).e]) w) := by
  have hok := sysX_ok h
  obtain ⟨gm, gt, FT, cm, ct, hT, ⟨hTH, hTg⟩, hclose⟩ := sysX_map h
  have hT8 : S.T.length ≤ 1000 := by have := hok.D; omega
  have gH : g < w.heap.size := World.block_lt_of_cell? w _ ct
  have BX := Lib.hid (Blk.new w (cCR r).toArray 59 rfl)
  have b0 := below_alloc (Below.refl w.heap.size w) (.cells (cCR r).toArray 59)
  have BD := Lib.hid (Below.drew b0)
  have gbn : ¬ FT w.heap.size := fun hx => by have := hHB _ (hTH _ hx); omega
  have FB : ∀ x, FT x → x < B := fun x hx => hHB x (hTH x hx)
  have e2 : mTells S r.c = ⟨(tDrop S.T r.c.map r.c.k).1, S.M, S.dr, (tDrop S.T r.c.map r.c.k).2.1, (tDrop S.T r.c.map r.c.k).2.2⟩ := by unfold mTells; rw [hid]; rfl
  have e1 : tellsS S r.c = { S with T := (tDrop S.T r.c.map r.c.k).1, M := S.M } := by unfold tellsS; rw [e2]
  have C1 := Lib.hid fun u (b : Below w.heap.size w u) => ot_Drop r.c.map r.c.k r.ka _ r.kc ((sysT gt gm S.T S.M).after hT b) hT8 (hn.s.k.after b) hr.c.1 rfl hr.k.1 hr.k.2
  have CL := Lib.hid fun u w' (b : Below w.heap.size w u) => hclose u w' _ S.M b (map_ok hok (tDrop_same S.T r.c.map r.c.k) hok.steps.2)
  rw [e1, e2]
  dsimp only
  clear hclose e1 e2
  generalize tDrop S.T r.c.map r.c.k = q at *
  obtain ⟨T', a, ea⟩ := q
  dsimp only at *
  rw [show (cCR r).toArray = #[.int .i64 r.c.id, .int .i64 r.c.map, .slice r.ka r.c.k.length r.kc, .slice r.va r.c.v.length r.vc, .slice r.na r.c.n.length r.nc, .int .u64 r.c.ret] from rfl] at *
  rw [hid] at *
  have KK := Lib.hid (fun (wx : World) (hx : Turn FT (w.alloc (.cells #[.int .i64 3, .int .i64 r.c.map, .slice r.ka r.c.k.length r.kc, .slice r.va r.c.v.length r.vc, .slice r.na r.c.n.length r.nc, .int .u64 r.c.ret] 59)) wx) => (And.intro ((World.cell?_of_block (hx.block g (by simp; omega) hTg)).trans (cell_on ct b0)) (And.intro ((World.cell?_of_block (a := ⟨w.heap.size, 1, none⟩) (hx.block w.heap.size (by simp) gbn)).trans (Blk.six BX.out).1.2.1) ((World.cell?_of_block (a := ⟨w.heap.size, 2, none⟩) (hx.block w.heap.size (by simp) gbn)).trans (Blk.six BX.out).1.2.2.1))))
  have HT : Turn FT (w.alloc (.cells #[.int .i64 3, .int .i64 r.c.map, .slice r.ka r.c.k.length r.kc, .slice r.va r.c.v.length r.vc, .slice r.na r.c.n.length r.nc, .int .u64 r.c.ret] 59)) (w.alloc (.cells #[.int .i64 3, .int .i64 r.c.map, .slice r.ka r.c.k.length r.kc, .slice r.va r.c.v.length r.vc, .slice r.na r.c.n.length r.nc, .int .u64 r.c.ret] 59)).drew := Turn.of_below (Below.drew (Below.refl _ _))
  have HB := BD.out
  clear h hr hn hHB hB hgo hok cm ct hT hTH hT8 gbn hTg gH BX BD hid b0 FB
  generalize r.c.k.length = nk at *
  generalize r.c.v.length = nv at *
  generalize r.c.n.length = nn at *
  go_enter Tryz.func109, Tryz.ntmps109
  go_wp2_with fail
  go_region_held3 (fun w' => w'.cell? ⟨g, 3, none⟩ = some (.pointer (some ⟨gt, 0, none⟩)) ∧ w'.cell? ⟨w.heap.size, 1, none⟩ = some (.int .i64 r.c.map) ∧ w'.cell? ⟨w.heap.size, 2, none⟩ = some (.slice r.ka nk r.kc))
    (exact KK.out _ HT)
    (first | (go_at_call 159; refine (C1.out _ HB).mono ?_; rintro e w9 ⟨rfl, t9⟩; have TT := Lib.hid (CL.out _ _ HB t9); obtain ⟨_, _, t9, _⟩ := t9; replace HT := HT.trans t9 (fun x hx => .inl hx); clear t9))
  all_goals
    go_wp2_with fail
    go_ret2
    exact ⟨rfl, TT.out⟩
set_option maxHeartbeats 2000000 in
theorem m11_tells_put (w : World) (g B : Nat) (r : CR) (S : MS) (H : Nat → Prop) (h : (sysX g S).R w H) (hr : r.ok) (hn : CRN B w r) (hHB : ∀ x, H x → x < B) (hB : B ≤ w.heap.size) (hgo : S.go) (hid : r.c.id = 2) (hnn : 0 < r.c.n.length) :
    Calls Tryz.prog 109 #[.pointer (some ⟨g, 0, none⟩), .agg (cCR r).toArray] w (OpS (sysX g (tellsS S r.c)) H (.tuple #[.int .u64 (mTells S r.c).n, .int .i64 (mTells S r.c).e]) w) := by
  have hok := sysX_ok h
  obtain ⟨gm, gt, FT, cm, ct, hT, ⟨hTH, hTg⟩, hclose⟩ := sysX_map h
  have hT8 : S.T.length ≤ 1000 := by have := hok.D; omega
  have gH : g < w.heap.size := World.block_lt_of_cell? w _ ct
  have BX := Lib.hid (Blk.new w (cCR r).toArray 59 rfl)
  have b0 := below_alloc (Below.refl w.heap.size w) (.cells (cCR r).toArray 59)
  have BD := Lib.hid (Below.drew b0)
  have gbn : ¬ FT w.heap.size := fun hx => by have := hHB _ (hTH _ hx); omega
  have FB : ∀ x, FT x → x < B := fun x hx => hHB x (hTH x hx)
  have e2 : mTells S r.c = ⟨(tPut S.T S.M r.c.map r.c.k r.c.v (bAt r.c.n 0)).T, (tPut S.T S.M r.c.map r.c.k r.c.v (bAt r.c.n 0)).M, S.dr, (tPut S.T S.M r.c.map r.c.k r.c.v (bAt r.c.n 0)).n, (tPut S.T S.M r.c.map r.c.k r.c.v (bAt r.c.n 0)).e⟩ := by unfold mTells; rw [hid]; rfl
  have e1 : tellsS S r.c = { S with T := (tPut S.T S.M r.c.map r.c.k r.c.v (bAt r.c.n 0)).T, M := (tPut S.T S.M r.c.map r.c.k r.c.v (bAt r.c.n 0)).M } := by unfold tellsS; rw [e2]
  have hfl := hr.c.2.2.1 0 hnn
  have hM : S.M.length ≤ 100000 := by have := hgo.2; omega
  have C1 := Lib.hid fun u (b : Below w.heap.size w u) => ot_Put r.c.map r.c.k r.c.v r.ka r.va _ r.kc _ r.vc (bAt r.c.n 0) ((sysT gt gm S.T S.M).after hT b) hT8 (keep_low (hn.s.k.after b) FB hn.k) hr.c.1 rfl hr.k.1 hr.k.2 (keep_low (hn.s.v.after b) FB hn.v) hr.c.2.1 rfl hr.v.1 hr.v.2 hfl hM
  have CL := Lib.hid fun u w' (b : Below w.heap.size w u) => hclose u w' _ _ b (map_ok hok (tPut_same S.T S.M r.c.map r.c.k r.c.v (bAt r.c.n 0)).1 (Nat.le_trans (tPut_same S.T S.M r.c.map r.c.k r.c.v (bAt r.c.n 0)).2 (by have := hgo.2.1; omega)))
  obtain ⟨gn, on, hna, hgn, hcn⟩ := hn.s.n hnn
  have cn0 := hcn 0 hnn
  have gnl : ¬ FT gn := fun hx => by have := hn.n gn on hnn hna; have := FB gn hx; omega
  rw [Nat.add_zero] at cn0
  rw [e1, e2]
  dsimp only
  clear hclose e1 e2
  generalize tPut S.T S.M r.c.map r.c.k r.c.v (bAt r.c.n 0) = q at *
  obtain ⟨T', M', a, ea⟩ := q
  dsimp only at *
  rw [show (cCR r).toArray = #[.int .i64 r.c.id, .int .i64 r.c.map, .slice r.ka r.c.k.length r.kc, .slice r.va r.c.v.length r.vc, .slice r.na r.c.n.length r.nc, .int .u64 r.c.ret] from rfl] at *
  rw [hid] at *
  rw [hna] at BX BD b0 ⊢
  have hn1 : (0 : Int) < r.c.n.length := by omega
  have KK := Lib.hid (fun (wx : World) (hx : Turn FT (w.alloc (.cells #[.int .i64 2, .int .i64 r.c.map, .slice r.ka r.c.k.length r.kc, .slice r.va r.c.v.length r.vc, .slice (some ⟨gn, on, none⟩) r.c.n.length r.nc, .int .u64 r.c.ret] 59)) wx) => (And.intro ((World.cell?_of_block (hx.block g (by simp; omega) hTg)).trans (cell_on ct b0)) (And.intro ((World.cell?_of_block (a := ⟨w.heap.size, 1, none⟩) (hx.block w.heap.size (by simp) gbn)).trans (Blk.six BX.out).1.2.1) (And.intro ((World.cell?_of_block (a := ⟨w.heap.size, 2, none⟩) (hx.block w.heap.size (by simp) gbn)).trans (Blk.six BX.out).1.2.2.1) (And.intro ((World.cell?_of_block (a := ⟨w.heap.size, 3, none⟩) (hx.block w.heap.size (by simp) gbn)).trans (Blk.six BX.out).1.2.2.2.1) (And.intro ((World.cell?_of_block (a := ⟨w.heap.size, 4, none⟩) (hx.block w.heap.size (by simp) gbn)).trans (Blk.six BX.out).1.2.2.2.2.1) ((World.cell?_of_block (a := ⟨gn, on, none⟩) (hx.block gn (by simp; omega) gnl)).trans (cell_on cn0 b0))))))))
  have HT : Turn FT (w.alloc (.cells #[.int .i64 2, .int .i64 r.c.map, .slice r.ka r.c.k.length r.kc, .slice r.va r.c.v.length r.vc, .slice (some ⟨gn, on, none⟩) r.c.n.length r.nc, .int .u64 r.c.ret] 59)) (w.alloc (.cells #[.int .i64 2, .int .i64 r.c.map, .slice r.ka r.c.k.length r.kc, .slice r.va r.c.v.length r.vc, .slice (some ⟨gn, on, none⟩) r.c.n.length r.nc, .int .u64 r.c.ret] 59)).drew := Turn.of_below (Below.drew (Below.refl _ _))
  have HB := BD.out
  clear h hr hn hHB hB hgo hok cm ct hT hTH hT8 gbn hTg gH BX BD hid b0 FB hna hgn hcn cn0 gnl hfl hM
  generalize r.c.k.length = nk at *
  generalize r.c.v.length = nv at *
  generalize r.c.n.length = nn at *
  generalize bAt r.c.n 0 = fl at *
  go_enter Tryz.func109, Tryz.ntmps109
  go_wp2_with fail
  go_region_held3 (fun w' => w'.cell? ⟨g, 3, none⟩ = some (.pointer (some ⟨gt, 0, none⟩)) ∧ w'.cell? ⟨w.heap.size, 1, none⟩ = some (.int .i64 r.c.map) ∧ w'.cell? ⟨w.heap.size, 2, none⟩ = some (.slice r.ka nk r.kc) ∧ w'.cell? ⟨w.heap.size, 3, none⟩ = some (.slice r.va nv r.vc) ∧ w'.cell? ⟨w.heap.size, 4, none⟩ = some (.slice (some ⟨gn, on, none⟩) nn r.nc) ∧ w'.cell? ⟨gn, on, none⟩ = some (.int .u64 fl))
    (exact KK.out _ HT)
    (first | (go_at_call 51; refine (C1.out _ HB).mono ?_; rintro e w9 ⟨rfl, t9⟩; have TT := Lib.hid (CL.out _ _ HB t9); obtain ⟨_, _, t9, _⟩ := t9; replace HT := HT.trans t9 (fun x hx => .inl hx); clear t9))
  all_goals
    go_wp2_with fail
    go_ret2
    exact ⟨rfl, TT.out⟩
theorem m11_tells_note (w : World) (g : Nat) (r : CR) (S : MS) (H : Nat → Prop) (h : (sysX g S).R w H) (hid : r.c.id = 6) :
    Calls Tryz.prog 109 #[.pointer (some ⟨g, 0, none⟩), .agg (cCR r).toArray] w (OpS (sysX g (tellsS S r.c)) H (.tuple #[.int .u64 (mTells S r.c).n, .int .i64 (mTells S r.c).e]) w) := by
  have e2 : mTells S r.c = ⟨S.T, S.M, S.dr, 0, 0⟩ := by unfold mTells; rw [hid]; rfl
  have e1 : tellsS S r.c = S := by unfold tellsS; rw [e2]
  have SAME := Lib.hid (Tn.refl h (below_alloc (Below.refl w.heap.size w) (.cells (cCR r).toArray 59)))
  rw [e1, e2]
  dsimp only
  clear h e1 e2
  rw [show (cCR r).toArray = #[.int .i64 r.c.id, .int .i64 r.c.map, .slice r.ka r.c.k.length r.kc, .slice r.va r.c.v.length r.vc, .slice r.na r.c.n.length r.nc, .int .u64 r.c.ret] from rfl] at *
  rw [hid] at *
  clear hid
  go_enter Tryz.func109, Tryz.ntmps109
  go_wp2_with fail
  go_ret2
  exact ⟨rfl, SAME.out⟩
set_option maxHeartbeats 1000000 in
theorem m11_tells_draw (w : World) (g : Nat) (r : CR) (S : MS) (H : Nat → Prop) (h : (sysX g S).R w H) (h1 : (r.c.id == 1) = false) (h2 : (r.c.id == 2) = false) (h3 : (r.c.id == 3) = false) (h6 : (r.c.id == 6) = false) :
    Calls Tryz.prog 109 #[.pointer (some ⟨g, 0, none⟩), .agg (cCR r).toArray] w (OpS (sysX g (tellsS S r.c)) H (.tuple #[.int .u64 (mTells S r.c).n, .int .i64 (mTells S r.c).e]) w) := by
  have e2 : mTells S r.c = ⟨S.T, S.M, (drawS S r.c.id).dr, (drawR S r.c.id).1, (drawR S r.c.id).2⟩ := by
    unfold mTells drawS drawR
    rw [h1, h2, h3, h6, if_neg Bool.false_ne_true, if_neg Bool.false_ne_true, if_neg Bool.false_ne_true, if_neg Bool.false_ne_true]
    cases hD : ((hDr r.c.id (S.dr.take 1)).2.2 == 0)
    · rw [if_neg Bool.false_ne_true, if_neg Bool.false_ne_true, if_neg Bool.false_ne_true]
    · rw [if_pos rfl, if_pos rfl, if_pos rfl]
  have e1 : tellsS S r.c = drawS S r.c.id := by
    unfold tellsS
    rw [e2]
    unfold drawS
    cases hD : ((hDr r.c.id (S.dr.take 1)).2.2 == 0)
    · rw [if_neg Bool.false_ne_true]
    · rw [if_pos rfl]
  have b0 := below_alloc (Below.refl w.heap.size w) (.cells (cCR r).toArray 59)
  have C1 := Lib.hid (m11_draw _ g S H r.c.id ((sysX g S).after h b0))
  have BF := Lib.hid fun (w' : World) (x : Tn (sysX g (drawS S r.c.id)) H (w.alloc (.cells (cCR r).toArray 59)) w') => Tn.before b0 x
  rw [e1, e2]
  dsimp only
  clear h e1 e2 b0
  generalize drawS S r.c.id = S' at *
  generalize drawR S r.c.id = q at *
  obtain ⟨a, ea⟩ := q
  dsimp only at *
  rw [show (cCR r).toArray = #[.int .i64 r.c.id, .int .i64 r.c.map, .slice r.ka r.c.k.length r.kc, .slice r.va r.c.v.length r.vc, .slice r.na r.c.n.length r.nc, .int .u64 r.c.ret] from rfl] at *
  generalize r.c.id = id at *
  go_enter Tryz.func109, Tryz.ntmps109
  go_wp2_with fail
  refine (C1.out).mono ?_
  rintro e w9 ⟨rfl, t9⟩
  have TT := Lib.hid (BF.out _ t9)
  clear t9
  go_wp2_with fail
  go_ret2
  exact ⟨rfl, TT.out⟩
theorem m11_tells (w : World) (g B : Nat) (r : CR) (S : MS) (H : Nat → Prop) (h : (sysX g S).R w H) (hr : r.ok) (hn : CRN B w r) (hHB : ∀ x, H x → x < B) (hB : B ≤ w.heap.size) (hgo : S.go) (h2 : r.c.id = 2 → 0 < r.c.n.length) :
    Calls Tryz.prog 109 #[.pointer (some ⟨g, 0, none⟩), .agg (cCR r).toArray] w (OpS (sysX g (tellsS S r.c)) H (.tuple #[.int .u64 (mTells S r.c).n, .int .i64 (mTells S r.c).e]) w) := by
  by_cases c1 : r.c.id = 1
  · exact m11_tells_look w g B r S H h hr hn hHB hB hgo c1
  by_cases c2 : r.c.id = 2
  · exact m11_tells_put w g B r S H h hr hn hHB hB hgo c2 (h2 c2)
  by_cases c3 : r.c.id = 3
  · exact m11_tells_drop w g B r S H h hr hn hHB hB hgo c3
  by_cases c6 : r.c.id = 6
  · exact m11_tells_note w g r S H h c6
  exact m11_tells_draw w g r S H h (by simpa using c1) (by simpa using c2) (by simpa using c3) (by simpa using c6)
end Go.Proofs.YtlbhffdpklbhfaaGreat
