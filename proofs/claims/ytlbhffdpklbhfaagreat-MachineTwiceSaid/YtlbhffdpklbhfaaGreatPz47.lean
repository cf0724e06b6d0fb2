/-
  Texts, one behind the other: Tab18.
  Conditions: those that each theorem states.
-/
import Derived.LoopTactic
import Derived.Deep.RegionHeld
import Derived.Deep.RegionHeld3
import Derived.Test.YtlbhffdpklbhfaaGreatPz46
namespace Go.Proofs.YtlbhffdpklbhfaaGreat
open Go.RowKit
set_option maxRecDepth 100000
set_option linter.unusedVariables false
set_option linter.unusedSimpArgs false
theorem ItR.lower {base base' : Nat} {w : World} {v : Value} {L : List Itm} (h : ItR base w v L) (hb : base' ≤ base) : ItR base' w v L :=
  ⟨own_base h.row (fun k hk => Nat.le_trans hb (h.row.lt k hk).1), h.byt, fun j hj g o => ⟨fun e => Nat.le_trans hb ((h.low j hj g o).1 e), fun e => Nat.le_trans hb ((h.low j hj g o).2 e)⟩, h.sep⟩
set_option maxHeartbeats 2000000 in
theorem q9_Items_no (w : World) (gt gm : Nat) (T : TT) (M : PM) (F : Nat → Prop) (i : Int) (h : RepU w gt gm T F) (hi : (decide (0 ≤ i) && decide (i < T.length)) = false) :
    Calls Tryz.prog 84 #[.pointer (some ⟨gt, 0, none⟩), .int .i64 i] w (ItemsW [] w) := by
  have HA := Lib.hid (q9_has w gt gm T F i h)
  rw [hi] at HA
  clear h hi
  go_enter Tryz.func84, Tryz.ntmps84
  go_wp2_with fail
  refine (HA.out).mono ?_
  rintro e w1 ⟨rfl, b1⟩
  have V := Lib.hid b1
  clear b1
  go_wp2_with fail
  go_ret
  exact ⟨none, 0, [], rfl, rfl, ItR.nil _ _, V.out⟩
section
variable {w : World} {ops : Array Oper} {rest : List Oper} {o : Oper} {a : Act} {Q : Exit → Act → World → Prop}
theorem wpList_next_slots (w : World) (hg : o.guard = none) (it : Operand) (hop : o.op = Op.next it false) (b r n : Nat) (D : DataW Value) (left : Lit → Bool) (cnt : Nat) (K : List TK) (hit : a.eval it = .pointer (some ⟨r, 0, none⟩)) (h : w.ranges Tryz.prog 9 rawElem b r n D left cnt)
    (HL : ∀ kl, left kl = true → ∃ y ∈ K, kl = kLit y.k) (HD : ∀ y ∈ K, ∀ z, D.atKey (kLit y.k) z = .held (.int .i64 (y.s : Int)))
    (hDone : (∀ kl, left kl = false) → wpList Tryz.prog ops Q rest (a.put o.dst (.tuple #[.bool false])) w)
    (hMore : ∀ (y : TK) (w' : World) (cnt' : Nat), y ∈ K → left (kLit y.k) = true → w'.ranges Tryz.prog 9 rawElem b r n D (fun z => left z && !z.sameKey (kLit y.k)) cnt' → cnt' < cnt → w.grownBy w' (some r) → w'.heap.size = w.heap.size →
      (Instr.entry (.pointer (some ⟨r, 0, none⟩))).run Tryz.prog w' = .ok (.tuple #[.string (strOfNums y.k), .int .i64 (y.s : Int)]) w' → wpList Tryz.prog ops Q rest (a.put o.dst (.tuple #[.bool true, .string (strOfNums y.k), .int .i64 (y.s : Int)])) w') :
    wpList Tryz.prog ops Q (o :: rest) a w :=
  wpList_next_ranges w hg it hop 9 strK rawElem Value.string (fun v : Value => v) (fun key kl hkey => by
      obtain ⟨s, e, _⟩ := WideMaps.string_of_keyOf Tryz.underlying9 hkey
      exact ⟨s, e⟩) (fun v y _ => ⟨v, rfl⟩) b r n D left cnt hit h (fun _ hl => hDone hl)
    (fun x c kl y w' cnt' hkey hlk hv hat hrg hlt hgr hsz hen => by
      obtain ⟨z, hz, rfl⟩ := HL kl hlk
      obtain ⟨s, e1, e2, _⟩ := WideMaps.string_of_keyOf Tryz.underlying9 hkey
      cases e1
      have hx : x = strOfNums z.k := by
        unfold kLit at e2
        rw [Lib.toList_data] at e2
        simp only [Lit.string.injEq] at e2
        cases x with
        | mk d =>
          cases hs : strOfNums z.k with
          | mk d2 =>
            rw [hs] at e2
            congr 1
            exact (Array.ext' e2).symm
      have h1 := hat (.held (.bool false))
      rw [HD z hz] at h1
      simp only [rawElem, Option.some.injEq] at hv
      rw [← hv] at h1
      simp only [DataW.held.injEq] at h1
      subst hx
      subst h1
      exact hMore z w' cnt' hz hlk hrg hlt hgr hsz hen)
end
def LeftIn (K : List TK) (left : Lit → Bool) : Prop := ∀ kl, left kl = true → ∃ y ∈ K, kl = kLit y.k
structure ItQ (w wn : World) (gt gm : Nat) (T : TT) (M : PM) (F G : Nat → Prop) (mb r n : Nat) (D : DataW Value) (left : Lit → Bool) (cnt : Nat) (u : World) : Prop where
  rep : RepD u gt gm T M F G
  rng : u.ranges Tryz.prog 9 rawElem mb r n D left cnt
  below : Below w.heap.size w u
  on : Below wn.heap.size wn u
theorem ItQ.after {w wn u u' : World} {gt gm : Nat} {T : TT} {M : PM} {F G : Nat → Prop} {mb r n : Nat} {D : DataW Value} {left : Lit → Bool} {cnt : Nat} (h : ItQ w wn gt gm T M F G mb r n D left cnt u) (b : Below u.heap.size u u') : ItQ w wn gt gm T M F G mb r n D left cnt u' :=
  ⟨h.rep.after b, ranges_same h.rng (b.block mb h.rng.owns.lt) (b.block r h.rng.lt), below_next' h.below b, below_next' h.on b⟩
set_option maxHeartbeats 8000000 in
theorem q9_Items_yes (w : World) (gt gm : Nat) (vl : Value) (L : List TR) (M : PM) (F G : Nat → Prop) (k : Nat) (h : RepD w gt gm (trM L) M F G) (hV : RepV w gt gm vl L F) (hk : k < L.length) (hL : L.length ≤ 1000) :
    Calls Tryz.prog 84 #[.pointer (some ⟨gt, 0, none⟩), .int .i64 (k : Int)] w (ItemsW ((trAt L k).m.L.map (itF M k)) w) := by
  have HA := Lib.hid (q9_has w gt gm (trM L) F (k : Int) h.maps)
  rw [trM_len, decide_eq_true (by omega : (0 : Int) ≤ (k : Int)), decide_eq_true (by omega : (k : Int) < (L.length : Int)), Bool.and_self] at HA
  obtain ⟨gl, cl, hvl, k1, k2, hg, -, -, -, -, e4, -⟩ := hV.at_ hk
  obtain ⟨c0, c1⟩ := hV.cells
  rw [hvl] at c1
  unfold maxLen at k2
  have hok := h.maps.ok k (by rw [trM_len]; exact hk)
  rw [trM_at] at hok
  obtain ⟨mb, hmb⟩ : ∃ mb, (trAt L k).v = .map (some mb) := by
    obtain ⟨vl2, L2, e, hV2, -, hnn⟩ := h.maps
    obtain ⟨mb, em⟩ := hV.mapV hk
    cases mb with
    | some b => exact ⟨b, em⟩
    | none =>
      exfalso
      have hLL : L2.length = L.length := by have := congrArg List.length e; simpa [trM] using this.symm
      obtain ⟨gl2, cl2, hvl2, -, -, -, -, -, -, -, e42, -⟩ := hV2.at_ (k := k) (by omega)
      have d1 := hV2.cells.2
      rw [hV.cells.2, hvl, hvl2] at d1
      have e5 : gl = gl2 := by
        injection d1 with d1
        injection d1 with d1 _ _
        injection d1 with d1
        injection d1
      subst e5
      rw [e4, em] at e42
      exact hnn k (by omega) (Option.some.inj e42).symm
  have hsl := hV.own k hk
  rw [hmb] at hsl e4
  have HOWN : Hid (∀ u, Below w.heap.size w u → ∃ D, u.ownsMap Tryz.prog 9 rawElem mb (trAt L k).m.L.length D ∧ (∀ kl, Maps.has D kl = true → ∃ y ∈ (trAt L k).m.L, kl = kLit y.k) ∧ (∀ y ∈ (trAt L k).m.L, Maps.has D (kLit y.k) = true) ∧ ∀ y ∈ (trAt L k).m.L, ∀ z, D.atKey (kLit y.k) z = .held (.int .i64 (y.s : Int))) := Lib.hid fun u b => by
    have hs : SlotR u (.map (some mb)) (trAt L k).m.L := hsl.same fun x hx => b.block x (hsl.lt hx)
    obtain ⟨D, ho, hm⟩ := hs.is
    obtain ⟨es, rfl, hp, hkk⟩ := ho.entries strK
    refine ⟨_, ho, fun kl hh => ?_, fun y hy => ?_, fun y hy z => ?_⟩
    · obtain ⟨p, hp1, hp2⟩ := List.any_eq_true.1 hh
      have e := WideAt.sameKey_eq hp2
      have h1 := (hm p.1 (hkk p hp1)).1
      rw [e, hh] at h1
      exact str_some h1.symm
    · rw [(hm (kLit y.k) trivial).1]
      exact str_mem hy
    · rw [(hm (kLit y.k) trivial).2 z, str_find (fun x hx => (hok.keys x hx).1) (hok.keys y hy).1]
      have hf : tFind (trAt L k).m.L y.k = some y.s := by
        unfold tFind
        have hr := hok.rise
        generalize (trAt L k).m.L = K at hy hr
        induction K with
        | nil => cases hy
        | cons x K ih =>
          obtain ⟨r1, r2⟩ := List.pairwise_cons.1 hr
          rw [List.find?_cons]
          rcases List.mem_cons.1 hy with e | e
          · subst e; simp
          · have : (x.k == y.k) = false := by
              rw [beq_eq_false_iff_ne]
              exact kLt_ne (r1 y e)
            rw [this]
            exact ih e r2
      rw [hf]
      rfl
  have HMB : Hid (mb < w.heap.size) := Lib.hid (hsl.lt rfl)
  have HH := Lib.hid h
  have HKOK := Lib.hid hok.kok
  have HKS : Hid (∀ y ∈ (trAt L k).m.L, y.s < 1024) := Lib.hid fun y hy => by have := (hok.keys y hy).2.2; have := hok.made; omega
  have HFEW : Hid ((trAt L k).m.L.length ≤ 100) := Lib.hid (by
    have h1 := hok.few
    have hgood := hok.good
    unfold Df.good at hgood
    simp only [Bool.and_eq_true, decide_eq_true_eq] at hgood
    have := hgood.2
    omega)
  have KK := Lib.hid (And.intro c0 (And.intro c1 e4))
  have k0 : (0 : Int) ≤ k := by omega
  have k3 : (k : Int) < L.length := by omega
  clear h hV hok hmb hsl hvl c0 c1 e4 hk
  generalize (trAt L k).m.L = K at *
  generalize hLn : L.length = Ln at *
  generalize hTL : trM L = T at *
  clear hLn hTL
  go_enter Tryz.func84, Tryz.ntmps84
  go_wp2_with fail
  refine (HA.out).mono ?_
  rintro e w1 ⟨rfl, b1⟩
  have V := Lib.hid b1
  have c1 := cell_on KK.out.2.1 V.out
  have e4 := cell_on KK.out.2.2 V.out
  obtain ⟨D, hown, hd1, hd2, hd3⟩ := HOWN.out w1 V.out
  have HD3 := Lib.hid hd3
  have HD1 := Lib.hid hd1
  have HD2 := Lib.hid hd2
  clear b1 HA HOWN hd1 hd2 hd3
  go_wp2_with (first | (at_range; refine wpList_range_own _ rfl (.tmp 25) 115 rfl 9 3 strK Tryz.underlying115 rawElem mb K.length D rfl hown ?_; intro w2 hrg2 hg2 hs2) | fail)
  go_frame
  generalize hr : w1.heap.size = r at *
  have B2 : Hid (Below w.heap.size w w2) := Lib.hid (V.out.trans ⟨hg2.os, hg2.tape, hg2.output, hg2.size, fun x hx => hg2.block x (by have := V.out.size; omega) (by simp)⟩)
  have hwr : w.heap.size ≤ r := by have := V.out.size; omega
  have HWR := Lib.hid hwr
  have RNG := Lib.hid hrg2
  have HS2 := Lib.hid hs2
  clear hrg2 hg2 hs2 hown hr c1 e4 V hwr
  go_loopw [5] (fun l wr => ∃ (left : Lit → Bool) (cnt : Nat) (X : List Itm), Hid (wr.ranges Tryz.prog 9 rawElem mb r K.length D left cnt) ∧ Hid (ItR (r + 1) wr l X) ∧ Hid (Got M k K left X) ∧ Hid (LeftIn K left) ∧ Hid (Below w.heap.size w wr) ∧ Hid (r + 1 ≤ wr.heap.size)) (fun l wr => wr.rangeLeft mb r)
  case atStart => exact ⟨_, _, [], RNG, Lib.hid (ItR.nil _ _), Lib.hid (got_start HD2.out), HD1, B2, Lib.hid (by have := HS2.out; omega)⟩
  case round =>
    obtain ⟨left, cnt, X, RG, IT, GT, LK, BW, SZ⟩ := hrel
    clear RNG B2 HD1 HD2 HS2
    obtain ⟨A, c, rfl, q1, q2⟩ := own_slice IT.out.row
    have OKX : Hid (∀ x ∈ X, OkB x.k) := Lib.hid fun x hx => by
      obtain ⟨y, hy, e, -⟩ := GT.out.mem x hx
      rw [show x.k = y.k from congrArg Prod.fst e]
      exact HKOK.out.byt y hy
    have LEX : Hid (X.length ≤ K.length) := Lib.hid (by
      have h1 := nodup_le (l := X.map (·.k)) (m := K.map (·.k)) GT.out.nodup (fun z hz => by
        obtain ⟨x, hx, rfl⟩ := List.mem_map.1 hz
        obtain ⟨y, hy, e, -⟩ := GT.out.mem x hx
        exact List.mem_map.2 ⟨y, hy, (congrArg Prod.fst e).symm⟩)
      simpa using h1)
    have QC := Lib.hid (And.intro q1 q2)
    clear q1 q2
    go_wp2_with (first | (at_next; refine wpList_next_slots _ rfl (.tmp 26) rfl mb r K.length D left cnt K rfl RG.out LK.out HD3.out ?_ ?_) | fail)
    · intro hlf
      have HLF := Lib.hid hlf
      have SO := Lib.hid (sort_items wr (r + 1) A X.length c X IT.out OKX.out (by have := LEX.out; have := HFEW.out; omega))
      clear hlf
      generalize hXl : X.length = nx at *
      have HXL := Lib.hid hXl
      clear hXl
      go_wp2_with fail
      refine (SO.out).mono ?_
      rintro e w5 ⟨rfl, X', hp, hs, hi, hb⟩
      have HI := Lib.hid hi
      have HB := Lib.hid hb
      have DN := Lib.hid (GT.out.done HKOK.out (fun y _ => HLF.out (kLit y.k)) hp hs)
      have HPL : Hid (X'.length = nx) := Lib.hid (by rw [hp.length_eq, HXL.out])
      clear hp hs hi hb SO
      go_wp2_with fail
      go_ret
      have hlen : (K.map (itF M k)).length = nx := by rw [← DN.out, itL, List.length_map]; exact HPL.out
      unfold ItemsW
      rw [hlen]
      refine ⟨A, c, X', rfl, DN.out, HI.out.lower (by have := HWR.out; omega), ?_⟩
      have h1 := HWR.out
      exact BW.out.trans (HB.out.mono (by omega))
    · intro y wn cnt' hy hly hrgn hcn hgn hsn hen
      have hbn : Below w.heap.size w wn := BW.out.trans ⟨hgn.os, hgn.tape, hgn.output, by omega, fun x hx => hgn.block x (by have := SZ.out; have := HWR.out; omega) (by have := HWR.out; intro e; cases e; omega)⟩
      have ITN : Hid (ItR (r + 1) wn (.slice A X.length c) X) := Lib.hid (IT.out.stay (by omega) fun g h1 h2 => hgn.block g h2 (by intro e; cases e; omega))
      have Q : Hid (ItQ w wn gt gm T M F G mb r K.length D (fun z => left z && !z.sameKey (kLit y.k)) cnt' wn) := Lib.hid ⟨HH.out.after hbn, hrgn, hbn, Below.refl _ _⟩
      have y0 := HKS.out y hy
      have hko := HKOK.out.byt y hy
      have SZN : Hid (r + 1 ≤ wn.heap.size) := Lib.hid (by have := SZ.out; omega)
      have CN : Hid (cnt' < cnt) := Lib.hid hcn
      have GTN : Hid (∀ x : Itm, (x.k, x.v) = itF M k y → Got M k K (fun z => left z && !z.sameKey (kLit y.k)) (X ++ [x])) := Lib.hid fun x hx => GT.out.next HKOK.out hy hly hx
      have LKN : Hid (LeftIn K (fun z => left z && !z.sameKey (kLit y.k))) := Lib.hid fun kl h => LK.out kl (by simp only [Bool.and_eq_true] at h; exact h.1)
      have HS : Hid (∀ u, ItQ w wn gt gm T M F G mb r K.length D (fun z => left z && !z.sameKey (kLit y.k)) cnt' u → u.cell? ⟨gt, 0, none⟩ = some (.pointer (some ⟨gm, 0, none⟩))) := Lib.hid fun u q => by
        obtain ⟨vl2, L2, -, hV2, -⟩ := q.rep.maps
        exact hV2.cells.1
      have AR : Hid (∀ u, Calls Tryz.prog 98 #[.int .i64 (k : Int), .int .i64 (y.s : Int)] u (Gives (.int .i64 (tArea k y.s)) u)) := Lib.hid fun u => q9_Area k y.s u (by omega) (by omega)
      have hAr : -9223372036854775808 ≤ tArea k y.s ∧ tArea k y.s ≤ 9223372036854775807 := by unfold tArea; omega
      have MA : Hid (∀ u, ItQ w wn gt gm T M F G mb r K.length D (fun z => left z && !z.sameKey (kLit y.k)) cnt' u → Calls Tryz.prog 135 #[.pointer (some ⟨gm, 0, none⟩), .int .i64 (tArea k y.s)] u (fun e u' => ∃ A3 c3, e = .returned (.tuple #[.slice A3 (pArea M (tArea k y.s)).1.length c3, .bool (pArea M (tArea k y.s)).2]) ∧ ItQ w wn gt gm T M F G mb r K.length D (fun z => left z && !z.sameKey (kLit y.k)) cnt' u' ∧ BytS u' A3 (pArea M (tArea k y.s)).1 ∧ ∀ g o, A3 = some ⟨g, o, none⟩ → wn.heap.size ≤ g)) := Lib.hid fun u q => by
        refine (c8_AreaN u gm M G (tArea k y.s) q.rep.mem hAr).mono ?_
        rintro e u' ⟨A3, c3, rfl, a1, a2, a3, a4, a5⟩
        exact ⟨A3, c3, rfl, q.after a4, a1, fun g o e => Nat.le_trans q.on.size (a5 g o e)⟩
      have EVL : Hid ((y.k, (pArea M (tArea k y.s)).1) = itF M k y) := Lib.hid rfl
      have HRG := RG
      have HNX : Hid (X.length ≤ 100) := Lib.hid (by have := LEX.out; have := HFEW.out; omega)
      clear hrgn hgn hbn hcn hsn hy hly GT IT LK BW SZ OKX LEX HH HD3 HKS HFEW HKOK hAr y0
      generalize hle : left = lf at *
      generalize (fun z => lf z && !z.sameKey (kLit y.k)) = left' at *
      generalize tArea k y.s = ar at *
      generalize (pArea M ar).1 = av at *
      generalize (pArea M ar).2 = ab at *
      generalize hyk : y.k = yk at *
      generalize y.s = ys at *
      generalize hXl : X.length = nx at *
      have HXL := Lib.hid hXl
      clear hXl hyk hle
      go_upto_region 7 with fail
      have QN := Q
      clear hen
      replace Q := Lib.hid (Q.out.after (Below.drew (Below.refl _ _)))
      refine wp_region_held_drew (S := fun w' => w'.cell? ⟨gt, 0, none⟩ = some (.pointer (some ⟨gm, 0, none⟩))) (by kernel_rfl) (HS.out _ Q.out) (fun hHeld => ?_)
      refine wpAnyH_take (i := 0) (oi := { dst := some 33, op := Op.move (Operand.tmp 0), type := _, pos := _, after := _, guard := none }) (v := ?_) rfl (by kernel_rfl) (by kernel_rfl) (by kernel_rfl) (fun _ _ _ h => h) (Or.inl ⟨by rfl, ?_⟩) (by first | exact hHeld | assumption) ?_
      rotate_left 1
      · intro w hSw; (try dsimp only at hSw); go_simp; try (with_reducible rfl)
      try simp only [Act.put, List.setIfInBounds_toArray, List.set_cons_zero, List.set_cons_succ]
      refine wpAnyH_take (i := 1) (oi := { dst := some 34, op := Op.nilCheck (Operand.tmp 33), type := _, pos := _, after := _, guard := none }) (v := ?_) rfl (by kernel_rfl) (by kernel_rfl) (by kernel_rfl) (fun _ _ _ h => h) (Or.inl ⟨by rfl, ?_⟩) (by first | exact hHeld | assumption) ?_
      rotate_left 1
      · intro w hSw; (try dsimp only at hSw); go_simp; try (with_reducible rfl)
      try simp only [Act.put, List.setIfInBounds_toArray, List.set_cons_zero, List.set_cons_succ]
      refine wpAnyH_take (i := 2) (oi := { dst := some 35, op := Op.fieldAddr 114 (Operand.tmp 34) 0, type := _, pos := _, after := _, guard := none }) (v := ?_) rfl (by kernel_rfl) (by kernel_rfl) (by kernel_rfl) (fun _ _ _ h => h) (Or.inl ⟨by rfl, ?_⟩) (by first | exact hHeld | assumption) ?_
      rotate_left 1
      · intro w hSw; (try dsimp only at hSw); go_simp; try (with_reducible rfl)
      try simp only [Act.put, List.setIfInBounds_toArray, List.set_cons_zero, List.set_cons_succ]
      refine wpAnyH_take (i := 3) (oi := { dst := some 36, op := Op.load 66 (Operand.tmp 35), type := _, pos := _, after := _, guard := none }) (v := ?_) rfl (by kernel_rfl) (by kernel_rfl) (by kernel_rfl) (fun _ _ _ h => h) (Or.inl ⟨by rfl, ?_⟩) (by first | exact hHeld | assumption) ?_
      rotate_left 1
      · intro w hSw; (try dsimp only at hSw); go_simp; try (with_reducible rfl)
      try simp only [Act.put, List.setIfInBounds_toArray, List.set_cons_zero, List.set_cons_succ]
      refine wpAnyH_take (i := 4) (oi := { dst := some 37, op := Op.move (Operand.tmp 1), type := _, pos := _, after := _, guard := none }) (v := ?_) rfl (by kernel_rfl) (by kernel_rfl) (by kernel_rfl) (fun _ _ _ h => h) (Or.inl ⟨by rfl, ?_⟩) (by first | exact hHeld | assumption) ?_
      rotate_left 1
      · intro w hSw; (try dsimp only at hSw); go_simp; try (with_reducible rfl)
      try simp only [Act.put, List.setIfInBounds_toArray, List.set_cons_zero, List.set_cons_succ]
      refine wpAnyH_take (i := 5) (oi := { dst := some 38, op := Op.move (Operand.tmp 7), type := _, pos := _, after := _, guard := none }) (v := ?_) rfl (by kernel_rfl) (by kernel_rfl) (by kernel_rfl) (fun _ _ _ h => h) (Or.inl ⟨by rfl, ?_⟩) (by first | exact hHeld | assumption) ?_
      rotate_left 1
      · intro w hSw; (try dsimp only at hSw); go_simp; try (with_reducible rfl)
      try simp only [Act.put, List.setIfInBounds_toArray, List.set_cons_zero, List.set_cons_succ]
      refine wpAnyH_ready (rs := [6]) (by kernel_rfl) (by simp) ?_
      refine AllReadyH.cons (o := { dst := some 39, op := Op.call { callee := Callee.value (Operand.func 98), args := #[Operand.tmp 37, Operand.tmp 38], argTypes := #[3, 3] }, type := _, pos := _, after := _, guard := none }) rfl (fun K hK => ?_) AllReadyH.nil
      · skip
        go_simp
        refine (AR.out _).mono ?_; rintro e u1 ⟨rfl, b1⟩
        replace Q := Lib.hid (Q.out.after b1)
        clear b1
        go_wp2_with fail
        refine hK.out _ _ (HS.out _ Q.out) (fun hHeld => ?_)
        clear hK K
        try simp only [Act.put, List.setIfInBounds_toArray, List.set_cons_zero, List.set_cons_succ]
        refine wpAnyH_ready (rs := [7]) (by kernel_rfl) (by simp) ?_
        refine AllReadyH.cons (o := { dst := some 40, op := Op.call { callee := Callee.value (Operand.func 135), args := #[Operand.tmp 36, Operand.tmp 39], argTypes := #[66, 3] }, type := _, pos := _, after := _, guard := none }) rfl (fun K hK => ?_) AllReadyH.nil
        · skip
          go_simp
          refine (MA.out _ Q.out).mono ?_; rintro e u3 ⟨A3, ca3, rfl, q3⟩
          have Q3 := Lib.hid q3
          clear q3 hHeld
          have hHeld := HS.out _ Q3.out.1
          go_wp2_with fail
          refine hK.out _ _ (HS.out _ Q3.out.1) (fun hHeld => ?_)
          clear hK K
          try simp only [Act.put, List.setIfInBounds_toArray, List.set_cons_zero, List.set_cons_succ]
          refine wpAnyH_take (i := 8) (oi := { dst := some 32, op := Op.move (Operand.tmp 40), type := _, pos := _, after := _, guard := none }) (v := ?_) rfl (by kernel_rfl) (by kernel_rfl) (by kernel_rfl) (fun _ _ _ h => h) (Or.inl ⟨by rfl, ?_⟩) (by first | exact hHeld | assumption) ?_
          rotate_left 1
          · intro w hSw; (try dsimp only at hSw); go_simp; try (with_reducible rfl)
          try simp only [Act.put, List.setIfInBounds_toArray, List.set_cons_zero, List.set_cons_succ]
          refine wpAnyH_take (i := 9) (oi := { dst := some 41, op := Op.extract (Operand.tmp 32) 0, type := _, pos := _, after := _, guard := none }) (v := ?_) rfl (by kernel_rfl) (by kernel_rfl) (by kernel_rfl) (fun _ _ _ h => h) (Or.inl ⟨by rfl, ?_⟩) (by first | exact hHeld | assumption) ?_
          rotate_left 1
          · intro w hSw; (try dsimp only at hSw); go_simp; try (with_reducible rfl)
          try simp only [Act.put, List.setIfInBounds_toArray, List.set_cons_zero, List.set_cons_succ]
          refine wpAnyH_take (i := 10) (oi := { dst := some 42, op := Op.extract (Operand.tmp 32) 1, type := _, pos := _, after := _, guard := none }) (v := ?_) rfl (by kernel_rfl) (by kernel_rfl) (by kernel_rfl) (fun _ _ _ h => h) (Or.inl ⟨by rfl, ?_⟩) (by first | exact hHeld | assumption) ?_
          rotate_left 1
          · intro w hSw; (try dsimp only at hSw); go_simp; try (with_reducible rfl)
          try simp only [Act.put, List.setIfInBounds_toArray, List.set_cons_zero, List.set_cons_succ]
          refine wpAnyH_take (i := 11) (oi := { dst := some 8, op := Op.assign (Operand.tmp 41), type := _, pos := _, after := _, guard := none }) (v := ?_) rfl (by kernel_rfl) (by kernel_rfl) (by kernel_rfl) (fun _ _ _ h => h) (Or.inl ⟨by rfl, ?_⟩) (by first | exact hHeld | assumption) ?_
          rotate_left 1
          · intro w hSw; (try dsimp only at hSw); go_simp; try (with_reducible rfl)
          try simp only [Act.put, List.setIfInBounds_toArray, List.set_cons_zero, List.set_cons_succ]
          refine wpAnyH_take (i := 12) (oi := { dst := some 9, op := Op.assign (Operand.tmp 42), type := _, pos := _, after := _, guard := none }) (v := ?_) rfl (by kernel_rfl) (by kernel_rfl) (by kernel_rfl) (fun _ _ _ h => h) (Or.inl ⟨by rfl, ?_⟩) (by first | exact hHeld | assumption) ?_
          rotate_left 1
          · intro w hSw; (try dsimp only at hSw); go_simp; try (with_reducible rfl)
          try simp only [Act.put, List.setIfInBounds_toArray, List.set_cons_zero, List.set_cons_succ]
          refine wpAnyH_done (by kernel_rfl) ?_ _
          clear hHeld HS AR MA
          obtain ⟨q4, hb3, hf3⟩ := Q3.out
          obtain ⟨cK, u4, hcv, ⟨hbk, hlt4⟩, b4⟩ := conv_bytes u3 yk hko
          have b5 := below_alloc (below_next' q4.on b4) (.cells #[.slice (some ⟨u3.heap.size, 0, none⟩) yk.length cK, .slice A3 av.length ca3] 84)
          have bal := below_alloc (Below.refl u4.heap.size u4) (.cells #[.slice (some ⟨u3.heap.size, 0, none⟩) yk.length cK, .slice A3 av.length ca3] 84)
          have hon := q4.on.size
          obtain ⟨v6, u6, hr, hd⟩ := ITN.out.append (ty := 82) b5 SZN.out ⟨yk, av, some ⟨u3.heap.size, 0, none⟩, cK, A3, ca3⟩ (hbk.after bal) ((hb3.after b4).after bal) (fun g o e => by cases e; exact hon) hf3 (Blk.new u4 _ _ rfl) (by have := HXL.out; have := HNX.out; omega)
          have HD := Lib.hid hd
          have hr' : (Builtin.append_ #[82, 82] 82 #[.slice A nx c, .slice (some ⟨u4.heap.size, 0, none⟩) 1 1]).run Tryz.prog (u4.alloc (.cells #[.slice (some ⟨u3.heap.size, 0, none⟩) yk.length cK, .slice A3 av.length ca3] 84)) = .ok v6 u6 := hr
          clear hd hr b4 b5 bal hbk hlt4 hb3 hf3 q4 Q3 Q hon
          go_wp2_with ((at_builtin; refine Lib.wpList_append_run _ rfl (.tmp 43) (.tmp 48) _ _ rfl _ _ rfl rfl _ _ hr' ?_))
          have RNG6 : u6.ranges Tryz.prog 9 rawElem mb r K.length D left' cnt' := by
            have hmb := HMB.out
            have hwr := HWR.out
            have hsz := SZN.out
            have hlow : ∀ g, g < r + 1 → (Value.slice A nx c).ownBlock ≠ some g := fun g hg e => by
              have := (ITN.out.row.lt g e).1
              omega
            exact ranges_same QN.out.rng (HD.out.keep mb (by omega) (hlow mb (by omega))) (HD.out.keep r (by omega) (hlow r (by omega)))
          have R6 := Lib.hid RNG6
          clear RNG6 hcv hr'
          go_round
          case rel => exact ⟨left', cnt', X ++ [⟨yk, av, some ⟨u3.heap.size, 0, none⟩, cK, A3, ca3⟩], R6, Lib.hid HD.out.rep, Lib.hid (GTN.out _ EVL.out), LKN, Lib.hid (QN.out.below.trans (HD.out.below.mono (by have := HWR.out; omega))), Lib.hid (by have := HD.out.below.size; have := SZN.out; omega)⟩
          case measure => rw [R6.out.left_eq, HRG.out.left_eq]; exact CN.out
theorem q9_Items (w : World) (gt gm : Nat) (T : TT) (M : PM) (F G : Nat → Prop) (i : Int) (h : RepD w gt gm T M F G) (hT : T.length ≤ 1000) :
    Calls Tryz.prog 84 #[.pointer (some ⟨gt, 0, none⟩), .int .i64 i] w (ItemsW (tItems T M i) w) := by
  unfold tItems
  by_cases hi : 0 ≤ i ∧ i < T.length
  · rw [if_pos hi]
    obtain ⟨k, rfl⟩ : ∃ k : Nat, i = k := ⟨i.toNat, by omega⟩
    obtain ⟨vl, L, rfl, h', -⟩ := id h.maps
    rw [trM_len] at hi hT
    rw [Int.toNat_natCast, trM_at]
    exact q9_Items_yes w gt gm vl L M F G k h h' (by omega) hT
  · rw [if_neg hi]
    exact q9_Items_no w gt gm T M F i h.maps (by simp; omega)
end Go.Proofs.YtlbhffdpklbhfaaGreat
