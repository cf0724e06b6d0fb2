/-
  Texts, one behind the other: Tab5, Mem3, Mem4.
  Conditions: those that each theorem states.
-/
import Derived.Test.YtlbhffdpklbhfaaGreatPz8
import Derived.Test.YtlbhffdpklbhfaaGreatPz1
namespace Go.Proofs.YtlbhffdpklbhfaaGreat
open Go.RowKit
set_option maxRecDepth 100000
set_option linter.unusedVariables false
set_option linter.unusedSimpArgs false
set_option maxHeartbeats 2000000 in
theorem q9_Drop (w : World) (gt gm : Nat) (T : TT) (F : Nat → Prop) (i : Int) (key : List Int) (B : Option Addr) (n d : Nat) (h : RepU w gt gm T F) (hT : T.length ≤ 1000) (hb : BytS w B key) (hob : OkB key) (hn : key.length = n) (hnd : n ≤ d) (hdm : d ≤ maxLen) :
    Calls Tryz.prog 159 #[.pointer (some ⟨gt, 0, none⟩), .int .i64 i, .slice B n d] w (MapQ gt gm F (tDrop T i key).1 (.tuple #[.int .u64 (tDrop T i key).2.1, .int .i64 (tDrop T i key).2.2]) w) := by
  unfold tDrop
  cases hm : tMay T i key
  · rw [if_neg Bool.false_ne_true]
    have FI := Lib.hid (q9_find_no w gt gm T F i key B n d h hn hnd hm)
    rw [show kZ = .agg #[.bool false, .int .i64 0, .int .i64 0, .int .i64 0, .map none, .int .i64 0] from rfl] at FI
    have HH := Lib.hid h
    clear h hm hn hb hob
    dsimp only
    go_enter Tryz.func159, Tryz.ntmps159
    go_wp2_with fail
    refine (FI.out).mono ?_
    rintro e w1 ⟨rfl, b1⟩
    have V := Lib.hid b1
    clear b1
    go_wp2_with fail
    go_ret2
    exact mapQ_same HH.out (below_alloc V.out _)
  · rw [if_pos rfl]
    obtain ⟨i0, i1, hq⟩ := may_yes hm
    obtain ⟨k, rfl⟩ : ∃ k : Nat, i = k := ⟨i.toNat, by omega⟩
    rw [Int.toNat_natCast] at hq ⊢
    have hok := h.ok
    have HH := Lib.hid h
    obtain ⟨vl, L, rfl, hV, hTF, hnn⟩ := id h
    rw [trM_len] at i1 hT
    have hk : k < L.length := by omega
    rw [trM_at] at hq ⊢
    have FI := Lib.hid (q9_find_yes w gt gm vl L F k key B n d h hV hk hn hnd (by omega))
    obtain ⟨mb, hmb⟩ := hV.mapV hk
    have SK := Lib.hid (hV.seeK (d := d) hok hk hmb hb hob hn (by omega))
    have DN := Lib.hid fun (u u' : World) (b : Nat) (e : mb = some b) hh => drop_done (u := u) (u' := u') (b := b) (key := key) hTF hV hnn hk (by rw [hmb, e]) hob hh
    have SL := Lib.hid (hV.own k hk)
    have HL := Lib.hid fun x (hx : F x) => hV.lt hx
    unfold kV at FI
    rw [hmb] at FI
    have hb0 : ∃ b, mb = some b := by
      cases mb with
      | none => exact absurd hmb (hnn k hk)
      | some b => exact ⟨b, rfl⟩
    obtain ⟨b, rfl⟩ := hb0
    rw [hmb] at SL
    have hkl : key.length ≤ maxLen := by omega
    clear h hb hm hV hok hq hn hmb hTF hnn
    dsimp only
    generalize (trAt L k).m.d.key = q at *
    generalize hqh : (trAt L k).m.d.hash = qh at *
    generalize (trAt L k).m.d.val = qv at *
    generalize (trAt L k).m.d.max = qm at *
    cases qh
    · rw [if_pos rfl, show minusI 22 = 18446744073709551594 from rfl]
      clear DN SL
      generalize (trAt L k).m.made = qd at *
      go_enter Tryz.func159, Tryz.ntmps159
      go_wp2_with fail
      refine (FI.out).mono ?_
      rintro e w1 ⟨rfl, b1⟩
      have V := Lib.hid b1
      clear b1
      go_wp2_with fail
      go_ret2
      exact mapQ_same HH.out (below_alloc V.out _)
    · rw [if_neg (by simp)]
      cases hs : tFind (trAt L k).m.L key with
      | none =>
        dsimp only
        rw [show minusI 2 = 18446744073709551614 from rfl]
        clear DN SL
        generalize (trAt L k).m.made = qd at *
        go_enter Tryz.func159, Tryz.ntmps159
        go_wp2_with fail
        refine (FI.out).mono ?_
        rintro e w1 ⟨rfl, b1⟩
        have V := Lib.hid (below_alloc b1 (.cells #[.bool true, .int .i64 q, .int .i64 qv, .int .i64 qm, .map (some b), .int .i64 qd] 117))
        have LK := SK.out.look _ V.out
        have ST := SK.out.str _ V.out
        clear b1
        rw [hs] at LK
        rw [show (((none : Option Nat).getD 0 : Nat) : Int) = 0 from rfl, show (none : Option Nat).isSome = false from rfl] at LK
        clear hs
        go_wp2_with fail
        go_ret2
        exact mapQ_same HH.out V.out
      | some s =>
        dsimp only
        have DR : Hid (∀ u, Below w.heap.size w u → ∃ w', (∀ ty, (Builtin.delete_ #[115, 9] ty #[.map (some b), .string (strOfNums key)]).run Tryz.prog u = .ok (.tuple #[]) w') ∧ MapQ gt gm F ((trM L).set k ⟨(trAt L k).m.d, leftK (trAt L k).m.L key, (trAt L k).m.made⟩) (.tuple #[.int .u64 0, .int .i64 0]) w (.returned (.tuple #[.int .u64 0, .int .i64 0])) w') := Lib.hid fun u V => by
          have hms := (SL.out.same (w' := u) (fun x hx => V.block x (SL.out.lt hx))).is
          obtain ⟨w', hr, hm', hg⟩ := hms.drop strK Tryz.underlying115 (keyOf_key hkl) 0
          exact ⟨w', fun ty => hr, DN.out u w' b rfl rfl V hm' hg⟩
        clear DN SL
        have hfil : (trAt L k).m.L.filter (fun x => !(x.k == key)) = leftK (trAt L k).m.L key := rfl
        rw [hfil]
        generalize (trM L).set k ⟨(trAt L k).m.d, leftK (trAt L k).m.L key, (trAt L k).m.made⟩ = T' at *
        generalize (trAt L k).m.made = qd at *
        go_enter Tryz.func159, Tryz.ntmps159
        go_wp2_with fail
        refine (FI.out).mono ?_
        rintro e w1 ⟨rfl, b1⟩
        have V := Lib.hid (below_alloc b1 (.cells #[.bool true, .int .i64 q, .int .i64 qv, .int .i64 qm, .map (some b), .int .i64 qd] 117))
        have LK := SK.out.look _ V.out
        have ST := SK.out.str _ V.out
        obtain ⟨w', hr, DONE⟩ := DR.out _ V.out
        replace DONE := Lib.hid DONE
        clear b1
        rw [hs] at LK
        rw [show (((some s : Option Nat).getD 0 : Nat) : Int) = (s : Int) from rfl, show (some s : Option Nat).isSome = true from rfl] at LK
        clear hs
        go_wp2_with fail
        go_ret2
        exact DONE.out
theorem RepQ.look {w : World} {g : Nat} {mv : Value} {L : List AR} {F : Nat → Prop} (h : RepQ w g mv L F) (u : World) (b : Below w.heap.size w u) (i : Int) (hi : -9223372036854775808 ≤ i ∧ i ≤ 9223372036854775807) :
    (Instr.lookup 154 mv (.int .i64 i) true).run Tryz.prog u = .ok (.tuple #[(rgF L i).getD rgZ, .bool (rgF L i).isSome]) u :=
  (h.map.same (w' := u) (fun x hx => b.block x (h.map.lt hx))).look i hi
theorem rgF_some {L : List AR} {i : Int} {k : Nat} (h : pIx (arM L) i = some k) : rgF L i = some (rgV (arAt L k)) := by unfold rgF; rw [h]; rfl
theorem rgF_none {L : List AR} {i : Int} (h : pIx (arM L) i = none) : rgF L i = none := by unfold rgF; rw [h]; rfl
theorem RepQ.after {w u : World} {g : Nat} {mv : Value} {L : List AR} {F : Nat → Prop} (h : RepQ w g mv L F) (b : Below w.heap.size w u) : RepQ u g mv L F := h.keep fun x hx => b.block x (h.lt hx)
set_option maxRecDepth 100000 in
set_option maxHeartbeats 2000000 in
theorem c8_find_in (w : World) (g : Nat) (mv : Value) (L : List AR) (F : Nat → Prop) (at_ s : Int) (h : RepQ w g mv L F) (ha : 0 ≤ at_ ∧ at_ ≤ 18446744073709551615) (hs : 0 ≤ s ∧ s ≤ 1024) (k o : Nat) (hw : pWh (arM L) at_ s = some (k, o)) :
    Calls Tryz.prog 166 #[.pointer (some ⟨g, 0, none⟩), .int .u64 at_, .int .i64 s] w (Gives (.tuple #[rgV (arAt L k), .int .i64 o, .bool true]) w) := by
  obtain ⟨hx, hk, ho, hfit, _⟩ := pWh_some hw
  rw [arM_len] at hk
  rw [arM_at] at hfit
  have hfit2 := hfit hs.1
  have hok := h.ok k (by rw [arM_len]; exact hk)
  rw [arM_at] at hok
  obtain ⟨_, hbl, hb1024, _⟩ := hok
  have c0 := cell_alloc h.cell (.cells #[.slice none 0 0, .slice none 0 0, .bool false] 158)
  have HLK := h.look (w.alloc (.cells #[.slice none 0 0, .slice none 0 0, .bool false] 158)) (below_alloc (Below.refl _ _) _) (at_ / 4294967296) (by omega)
  rw [rgF_some hx] at HLK
  have hand : bits .and .u64 at_ 4294967295 = at_ % 4294967296 := by
    have := and_low (n := at_) (k := 32) ha (by omega)
    simpa using this
  rw [ho] at hand
  obtain ⟨Ab, cb, hvb, _, _⟩ := own_slice (h.own k hk).1
  obtain ⟨Ak, ck, hvk, _, _⟩ := own_slice (h.own k hk).2
  have hv : rgV (arAt L k) = .agg #[.slice Ab (arAt L k).a.b.length cb, .slice Ak (arAt L k).a.bl.length ck, .bool (arAt L k).a.fx] := by unfold rgV; rw [hvb, hvk]
  rw [hv] at HLK ⊢
  dsimp only [Option.getD_some, Option.isSome_some] at HLK
  generalize (arAt L k).a.fx = fx at *
  generalize (arAt L k).a.b.length = lb at *
  generalize (arAt L k).a.bl.length = lk at *
  have hq : 0 ≤ at_ / 4294967296 ∧ at_ / 4294967296 ≤ 4294967295 := by omega
  have hon : o < 4294967296 := by omega
  generalize hqq : at_ / 4294967296 = q at *
  have hfz : (o : Int) + s ≤ lb := by omega
  have hsum : IntKind.u64.wrap ((o : Int) + s) = (o : Int) + s := by rw [IntKind.wrap_u64]; omega
  have o0 : (0 : Int) ≤ o := by omega
  clear h hw hx hfit hfit2 ho hbl hvb hvk hv
  go_enter Tryz.func166, Tryz.ntmps166
  go_wp2_with fail
  exact bodyPost_ret (v := .tuple #[.agg #[.slice Ab lb cb, .slice Ak lk ck, .bool fx], .int .i64 o, .bool true]) (by simp [results, Tryz.results166, go_sem, World.cell?_alloc_new]) rfl ⟨rfl, below_alloc (Below.refl _ _) _⟩
set_option maxRecDepth 100000 in
set_option maxHeartbeats 2000000 in
theorem c8_find_out (w : World) (g : Nat) (mv : Value) (L : List AR) (F : Nat → Prop) (at_ s : Int) (h : RepQ w g mv L F) (ha : 0 ≤ at_ ∧ at_ ≤ 18446744073709551615) (hs : 0 ≤ s ∧ s ≤ 1024) (hw : pWh (arM L) at_ s = none) :
    Calls Tryz.prog 166 #[.pointer (some ⟨g, 0, none⟩), .int .u64 at_, .int .i64 s] w (Gives (.tuple #[rgZ, .int .i64 0, .bool false]) w) := by
  have c0 := cell_alloc h.cell (.cells #[.slice none 0 0, .slice none 0 0, .bool false] 158)
  have HLK := h.look (w.alloc (.cells #[.slice none 0 0, .slice none 0 0, .bool false] 158)) (below_alloc (Below.refl _ _) _) (at_ / 4294967296) (by omega)
  have hand : bits .and .u64 at_ 4294967295 = at_ % 4294967296 := by
    have := and_low (n := at_) (k := 32) ha (by omega)
    simpa using this
  have hq : 0 ≤ at_ / 4294967296 ∧ at_ / 4294967296 ≤ 4294967295 := by omega
  have hz : rgZ = .agg #[.slice none 0 0, .slice none 0 0, .bool false] := rfl
  have hs' := hs
  obtain ⟨o, ho⟩ : ∃ o : Nat, at_ % 4294967296 = o := ⟨(at_ % 4294967296).toNat, by omega⟩
  have hon : o < 4294967296 := by omega
  have o0 : (0 : Int) ≤ o := by omega
  rw [ho] at hand
  cases hx : pIx (arM L) (at_ / 4294967296) with
  | none =>
    rw [rgF_none hx] at HLK
    dsimp only [Option.getD_none, Option.isSome_none] at HLK
    rw [hz] at HLK ⊢
    generalize hqq : at_ / 4294967296 = q at *
    clear h hw hx hz ho
    go_enter Tryz.func166, Tryz.ntmps166
    go_wp2_with fail
    exact bodyPost_ret (v := .tuple #[.agg #[.slice none 0 0, .slice none 0 0, .bool false], .int .i64 0, .bool false]) (by simp [results, Tryz.results166, go_sem, World.cell?_alloc_new]) rfl ⟨rfl, below_alloc (Below.refl _ _) _⟩
  | some k =>
    have hk := (pIx_some hx).1
    rw [arM_len] at hk
    have hok := h.ok k (by rw [arM_len]; exact hk)
    rw [arM_at] at hok
    obtain ⟨_, hbl, hb1024, _⟩ := hok
    rw [rgF_some hx] at HLK
    obtain ⟨Ab, cb, hvb, _, _⟩ := own_slice (h.own k hk).1
    obtain ⟨Ak, ck, hvk, _, _⟩ := own_slice (h.own k hk).2
    have hv : rgV (arAt L k) = .agg #[.slice Ab (arAt L k).a.b.length cb, .slice Ak (arAt L k).a.bl.length ck, .bool (arAt L k).a.fx] := by unfold rgV; rw [hvb, hvk]
    rw [hv] at HLK
    rw [hz]
    dsimp only [Option.getD_some, Option.isSome_some] at HLK
    have hno : ¬ ((o : Int) + s ≤ ((arAt L k).a.b.length : Int)) := fun hc => by
      unfold pWh at hw
      rw [hx] at hw
      simp only at hw
      rw [arM_at, ho, if_pos (by omega)] at hw
      cases hw
    generalize (arAt L k).a.fx = fx at *
    generalize (arAt L k).a.b.length = lb at *
    generalize (arAt L k).a.bl.length = lk at *
    have hsum : IntKind.u64.wrap ((o : Int) + s) = (o : Int) + s := by rw [IntKind.wrap_u64]; omega
    have hlt : (lb : Int) < (o : Int) + s := by omega
    generalize hqq : at_ / 4294967296 = q at *
    clear h hw hx hz ho hbl hvb hvk hv hno
    go_enter Tryz.func166, Tryz.ntmps166
    go_wp2_with fail
    exact bodyPost_ret (v := .tuple #[.agg #[.slice none 0 0, .slice none 0 0, .bool false], .int .i64 0, .bool false]) (by simp [results, Tryz.results166, go_sem, World.cell?_alloc_new]) rfl ⟨rfl, below_alloc (Below.refl _ _) _⟩
end Go.Proofs.YtlbhffdpklbhfaaGreat
namespace Go.Proofs.YtlbhffdpklbhfaaGreat
open Go.RowKit
set_option linter.unusedVariables false
set_option linter.unusedSimpArgs false
set_option maxRecDepth 100000 in
set_option maxHeartbeats 2000000 in
theorem c8_Read_no (w : World) (g : Nat) (at_ s : Int) (hs : s < 0 ∨ 1024 < s) :
    Calls Tryz.prog 162 #[.pointer (some ⟨g, 0, none⟩), .int .u64 at_, .int .i64 s] w (ByteW ([], 1) w) := by
  rcases hs with hs | hs
  · go_enter Tryz.func162, Tryz.ntmps162
    go_wp2_with fail
    go_ret2
    exact byteW_none 1 (Below.refl _ _)
  · have hs0 : (0 : Int) ≤ s := by omega
    go_enter Tryz.func162, Tryz.ntmps162
    go_wp2_with fail
    go_ret2
    exact byteW_none 1 (Below.refl _ _)
set_option maxRecDepth 100000 in
set_option maxHeartbeats 2000000 in
theorem c8_Read_out (w : World) (g : Nat) (mv : Value) (L : List AR) (F : Nat → Prop) (at_ s : Int) (h : RepQ w g mv L F) (ha : 0 ≤ at_ ∧ at_ ≤ 18446744073709551615) (hs : 0 ≤ s ∧ s ≤ 1024) (hw : pWh (arM L) at_ s = none) :
    Calls Tryz.prog 162 #[.pointer (some ⟨g, 0, none⟩), .int .u64 at_, .int .i64 s] w (ByteW ([], 80) w) := by
  have C := Lib.hid (c8_find_out w g mv L F at_ s h ha hs hw)
  rw [show rgZ = .agg #[.slice none 0 0, .slice none 0 0, .bool false] from rfl] at C
  clear hw h
  go_enter Tryz.func162, Tryz.ntmps162
  go_wp2_with fail
  refine (C.out).mono ?_
  rintro e w1 ⟨rfl, b1⟩
  have V := Lib.hid b1
  clear b1
  go_wp2_with fail
  go_ret2
  exact byteW_none 80 (below_alloc V.out _)
set_option maxRecDepth 100000 in
set_option maxHeartbeats 2000000 in
theorem c8_Read_in (w : World) (g : Nat) (mv : Value) (L : List AR) (F : Nat → Prop) (at_ s : Int) (h : RepQ w g mv L F) (ha : 0 ≤ at_ ∧ at_ ≤ 18446744073709551615) (hs : 0 ≤ s ∧ s ≤ 1024) (k o : Nat) (hw : pWh (arM L) at_ s = some (k, o)) (R : List Int × Int)
    (hR : (if blankB (pAt (arM L) k) o s.toNat then ([], 81) else (((pAt (arM L) k).b.drop o).take s.toNat, 0)) = R) :
    Calls Tryz.prog 162 #[.pointer (some ⟨g, 0, none⟩), .int .u64 at_, .int .i64 s] w (ByteW R w) := by
  have C := Lib.hid (c8_find_in w g mv L F at_ s h ha hs k o hw)
  obtain ⟨_, hk, _, hfit, _⟩ := pWh_some hw
  have hok := h.ok k hk
  rw [arM_len] at hk
  rw [arM_at] at hR hok hfit
  obtain ⟨hob, hbl, hb1024, _⟩ := hok
  have hfit2 := hfit hs.1
  obtain ⟨sn, rfl⟩ : ∃ sn : Nat, s = sn := ⟨s.toNat, by omega⟩
  have en : ((sn : Int)).toNat = sn := by omega
  rw [en] at hR hfit2
  have HR : Hid (∀ w', Below w.heap.size w w' → RepQ w' g mv L F) := Lib.hid fun w' b => h.after b
  obtain ⟨Ab, cb, hvb, hcb1, hcb2⟩ := own_slice (h.own k hk).1
  obtain ⟨Ak, ck, hvk, hck1, hck2⟩ := own_slice (h.own k hk).2
  have hv : rgV (arAt L k) = .agg #[.slice Ab (arAt L k).a.b.length cb, .slice Ak (arAt L k).a.bl.length ck, .bool (arAt L k).a.fx] := by unfold rgV; rw [hvb, hvk]
  rw [hv] at C
  clear h hw hfit en hv
  have HVB := Lib.hid hvb
  have HVK := Lib.hid hvk
  have HRR := Lib.hid hR
  have HBL := Lib.hid hbl
  have HO := Lib.hid hob
  clear hvb hvk hR hob
  rw [hbl] at hck1 HVK C
  clear hbl
  unfold maxLen at hcb2 hck2
  generalize hlen : (arAt L k).a.b.length = lb at *
  have HLEN := Lib.hid hlen
  clear hlen
  generalize (arAt L k).a.fx = fx at *
  have o0 : (0 : Int) ≤ o := by omega
  go_enter Tryz.func162, Tryz.ntmps162
  go_wp2_with fail
  refine (C.out).mono ?_
  rintro e w0 ⟨rfl, b1⟩
  have V := Lib.hid (below_alloc b1 (.cells #[.slice Ab lb cb, .slice Ak lb ck, .bool fx] 158))
  have BX : Hid (Blk w0.heap.size #[.slice Ab lb cb, .slice Ak lb ck, .bool fx] 158 (w0.alloc (.cells #[.slice Ab lb cb, .slice Ak lb ck, .bool fx] 158))) := Lib.hid (Blk.new w0 _ _ rfl)
  have h1 := HR.out _ V.out
  have OB := Lib.hid (h1.own k hk).1
  have OK := Lib.hid (h1.own k hk).2
  rw [HVB.out, HLEN.out] at OB
  rw [HVK.out, HBL.out] at OK
  clear b1 h1 C HR HVB HVK
  generalize hgr : w0.heap.size = gr at *
  generalize hw1 : w0.alloc (.cells #[.slice Ab lb cb, .slice Ak lb ck, .bool fx] 158) = w1 at *
  have x0 := BX.out.cell 0
  have x1 := BX.out.cell 1
  go_wp2_with fail
  go_loop [31] (fun v => ∃ j : Nat, v = .int .i64 j ∧ j ≤ sn ∧ Hid (∀ t, o ≤ t → t < o + j → (arAt L k).a.bl.getD t false = false)) (fun v => sn - (intOf v).toNat)
  case atStart => exact ⟨0, rfl, by omega, Lib.hid fun t h1 h2 => by omega⟩
  case round =>
    obtain ⟨j, rfl, hj, HT⟩ := hrel
    have hj0 : (0 : Int) ≤ j := by omega
    by_cases hlt : (j : Int) < sn
    · obtain ⟨gk, rfl, _, hgk⟩ := own_addr OK.out (by omega)
      have ck0 := OK.out.cellAt (o + j) (by omega)
      rw [boC_at _ (by rw [HBL.out]; omega)] at ck0
      cases hbit : (arAt L k).a.bl.getD (o + j) false
      · have HT2 : Hid (∀ t, o ≤ t → t < o + (j + 1) → (arAt L k).a.bl.getD t false = false) := Lib.hid fun t h1 h2 => by
          by_cases e : t = o + j
          · rw [e]; exact hbit
          · exact HT.out t h1 (by omega)
        rw [hbit] at ck0
        clear hbit
        go_wp2_with fail
        go_round
        case rel => exact ⟨j + 1, by go_num, by omega, HT2⟩
        case measure => simp [intOf]; omega
      · have HE : Hid (R = ([], 81)) := Lib.hid (by
          rw [← HRR.out]
          unfold blankB
          rw [blank_some (t := o + j) (by omega) (by omega) hbit, if_pos rfl])
        rw [hbit] at ck0
        clear hbit
        go_wp2_with fail
        go_ret2
        rw [HE.out]
        exact byteW_none 81 V.out
    · have hjs : j = sn := by omega
      have HE : Hid (R = (((arAt L k).a.b.drop o).take sn, 0)) := Lib.hid (by
        rw [← HRR.out]
        unfold blankB
        rw [blank_all.mpr (fun t h1 h2 => HT.out t h1 (by omega)), if_neg Bool.false_ne_true])
      have hge : (sn : Int) ≤ j := by omega
      clear HT hjs hj
      have OWN : Hid (∀ A n d, BytS w1 A (((arAt L k).a.b.drop o).take sn) → n = sn → Calls Tryz.prog 140 #[.slice A n d] w1 (fun e w' => ∃ A c, e = .returned (.slice A sn c) ∧ ByteW R w (.returned (.tuple #[.slice A sn c, .int .i64 0])) w')) := Lib.hid fun A n d hA hn => by
        subst hn
        have CL := cut_len (arAt L k).a.b o n (by rw [HLEN.out]; exact hfit2)
        refine (c8_own w1 A _ n d hA CL (by omega)).mono ?_
        rintro e w' ⟨ga, rfl, ho, hb⟩
        refine ⟨_, _, rfl, ?_⟩
        rw [HE.out]
        exact ⟨_, n, by rw [CL], own_bytS CL.symm ho, by rw [CL]; exact Nat.le_refl _, by unfold maxLen; omega, below_next' V.out hb⟩
      by_cases hz : sn = 0
      · subst hz
        have N0 : Hid (∀ A, BytS w1 A (((arAt L k).a.b.drop o).take 0)) := Lib.hid fun A => by rw [List.take_zero]; exact BytS.none_ _ _
        have hoc : (o : Int) ≤ cb := by omega
        cases Ab with
        | none =>
          go_wp2_with fail
          all_goals
            refine (OWN.out _ _ _ (N0.out _) rfl).mono ?_
            rintro e w2 ⟨A2, c2, rfl, bs⟩
            have BS := Lib.hid bs
            clear bs
            go_wp2_with fail
            go_ret2
            exact BS.out
        | some ab =>
          obtain ⟨gb, rfl⟩ := own_form OB.out
          go_wp2_with fail
          all_goals
            refine (OWN.out _ _ _ (N0.out _) rfl).mono ?_
            rintro e w2 ⟨A2, c2, rfl, bs⟩
            have BS := Lib.hid bs
            clear bs
            go_wp2_with fail
            go_ret2
            exact BS.out
      · obtain ⟨gb, rfl, _, hgb⟩ := own_addr OB.out (by omega)
        have hz0 : 0 < sn := by omega
        have hcbo : ¬ cb = o := by omega
        have NB : Hid (BytS w1 (some ⟨gb, o, none⟩) (((arAt L k).a.b.drop o).take sn)) := Lib.hid fun _ => ⟨gb, o, rfl, hgb, fun t ht => by
          rw [cut_len _ _ _ (by rw [HLEN.out]; exact hfit2)] at ht
          rw [OB.out.cellAt _ (by omega), byC_at _ (by rw [HLEN.out]; omega), cut_at _ _ _ _ (by rw [HLEN.out]; exact hfit2) ht]⟩
        go_wp2_with fail
        refine (OWN.out _ _ _ NB.out rfl).mono ?_
        rintro e w2 ⟨A2, c2, rfl, bs⟩
        have BS := Lib.hid bs
        clear bs
        go_wp2_with fail
        go_ret2
        exact BS.out
theorem c8_Read (w : World) (g : Nat) (M : PM) (F : Nat → Prop) (at_ s : Int) (h : RepP w g M F) (ha : 0 ≤ at_ ∧ at_ ≤ 18446744073709551615) :
    Calls Tryz.prog 162 #[.pointer (some ⟨g, 0, none⟩), .int .u64 at_, .int .i64 s] w (ByteW (pRead M at_ s) w) := by
  obtain ⟨mv, L, rfl, h⟩ := h
  by_cases hs : s < 0 ∨ 1024 < s
  · unfold pRead
    rw [if_pos hs]
    exact c8_Read_no w g at_ s hs
  · cases hw : pWh (arM L) at_ s with
    | none =>
      unfold pRead
      rw [if_neg hs, hw]
      exact c8_Read_out w g mv L F at_ s h ha (by omega) hw
    | some p =>
      obtain ⟨k, o⟩ := p
      refine c8_Read_in w g mv L F at_ s h ha (by omega) k o hw _ ?_
      unfold pRead
      rw [if_neg hs, hw]
end Go.Proofs.YtlbhffdpklbhfaaGreat
