/-
  The statement TableKeeps: for whatever map, and acts, the law returns true, and its arguments read as they did.
  Conditions: none beyond the row's own.
-/
import Derived.Test.YtempkpfcjonaaaaKpZ1
import Derived.LoopTactic
import Derived.Deep.RegionHeld
import Derived.Deep.RegionHeld3
import Derived.Test.YtempkpfcjonaaaaRef08m
import Derived.Lib.AppendZerosOnto
import Derived.Laws.OwnMore
import Derived.Deep.AppendLies
import Derived.Test.YtempkpfcjonaaaaStepApp
import Derived.Deep.DeepCutAuto
import Derived.BigRegion

/-
  Layer 9, the program's Items.
  Conditions: the numbers fit their kinds; few maps.
-/
namespace Go.Proofs.Ytempkpfcjonaaaa
open Go.RowKit
set_option maxRecDepth 100000
set_option linter.unusedVariables false
set_option linter.unusedSimpArgs false

theorem ItR.lower {base base' : Nat} {w : World} {v : Value} {L : List Itm} (h : ItR base w v L) (hb : base' ≤ base) : ItR base' w v L :=
  ⟨own_base h.row (fun k hk => Nat.le_trans hb (h.row.lt k hk).1), h.byt, fun j hj g o => ⟨fun e => Nat.le_trans hb ((h.low j hj g o).1 e), fun e => Nat.le_trans hb ((h.low j hj g o).2 e)⟩, h.sep⟩

set_option maxHeartbeats 2000000 in
theorem q9_Items_no (w : World) (gt gm : Nat) (T : TT) (M : PM) (F : Nat → Prop) (i : Int) (h : RepU w gt gm T F) (hi : (decide (0 ≤ i) && decide (i < T.length)) = false) :
    Calls Try.prog 17 #[.pointer (some ⟨gt, 0, none⟩), .int .i64 i] w (ItemsW [] w) := by
  have HA := Lib.hid (q9_has w gt gm T F i h)
  rw [hi] at HA
  clear h hi
  go_enter Try.func17, Try.ntmps17
  go_wp2_with fail
  refine (HA.out).mono ?_
  rintro e w1 ⟨rfl, b1⟩
  have V := Lib.hid b1
  clear b1
  go_wp2_with fail
  go_ret
  exact ⟨none, 0, [], rfl, rfl, ItR.nil _ _, V.out⟩

section
variable {w : World} {ops : Array Oper} {rest : List Oper} {o : Oper} {a : Act} {Q : Exit → Act → World → Prop}
/-- One more of a map's slots comes, or none. -/
theorem wpList_next_slots (w : World) (hg : o.guard = none) (it : Operand) (hop : o.op = Op.next it false) (b r n : Nat) (D : DataW Value) (left : Lit → Bool) (cnt : Nat) (K : List TK) (hit : a.eval it = .pointer (some ⟨r, 0, none⟩)) (h : w.ranges Try.prog 9 rawElem b r n D left cnt)
    (HL : ∀ kl, left kl = true → ∃ y ∈ K, kl = kLit y.k) (HD : ∀ y ∈ K, ∀ z, D.atKey (kLit y.k) z = .held (.int .i64 (y.s : Int)))
    (hDone : (∀ kl, left kl = false) → wpList Try.prog ops Q rest (a.put o.dst (.tuple #[.bool false])) w)
    (hMore : ∀ (y : TK) (w' : World) (cnt' : Nat), y ∈ K → left (kLit y.k) = true → w'.ranges Try.prog 9 rawElem b r n D (fun z => left z && !z.sameKey (kLit y.k)) cnt' → cnt' < cnt → w.grownBy w' (some r) → w'.heap.size = w.heap.size →
      (Instr.entry (.pointer (some ⟨r, 0, none⟩))).run Try.prog w' = .ok (.tuple #[.string (strOfNums y.k), .int .i64 (y.s : Int)]) w' → wpList Try.prog ops Q rest (a.put o.dst (.tuple #[.bool true, .string (strOfNums y.k), .int .i64 (y.s : Int)])) w') :
    wpList Try.prog ops Q (o :: rest) a w :=
  wpList_next_ranges w hg it hop 9 strK rawElem Value.string (fun v : Value => v) (fun key kl hkey => by
      obtain ⟨s, e, _⟩ := WideMaps.string_of_keyOf Try.underlying9 hkey
      exact ⟨s, e⟩) (fun v y _ => ⟨v, rfl⟩) b r n D left cnt hit h (fun _ hl => hDone hl)
    (fun x c kl y w' cnt' hkey hlk hv hat hrg hlt hgr hsz hen => by
      obtain ⟨z, hz, rfl⟩ := HL kl hlk
      obtain ⟨s, e1, e2, _⟩ := WideMaps.string_of_keyOf Try.underlying9 hkey
      cases e1
      have hx : x = strOfNums z.k := by
        unfold kLit at e2
        rw [Lib.toList_data] at e2
        simp only [Lit.string.injEq] at e2
        cases x with
        | mk d =>
          cases hs : strOfNums z.k with
          | mk d2 =>
            rw [hs] at e2
            congr 1
            exact (Array.ext' e2).symm
      have h1 := hat (.held (.bool false))
      rw [HD z hz] at h1
      simp only [rawElem, Option.some.injEq] at hv
      rw [← hv] at h1
      simp only [DataW.held.injEq] at h1
      subst hx
      subst h1
      exact hMore z w' cnt' hz hlk hrg hlt hgr hsz hen)
end
/-- What is to come is of K. -/
def LeftIn (K : List TK) (left : Lit → Bool) : Prop := ∀ kl, left kl = true → ∃ y ∈ K, kl = kLit y.k
/-- While a map's items are gathered. -/
structure ItQ (w wn : World) (gt gm : Nat) (T : TT) (M : PM) (F G : Nat → Prop) (mb r n : Nat) (D : DataW Value) (left : Lit → Bool) (cnt : Nat) (u : World) : Prop where
  rep : RepD u gt gm T M F G
  rng : u.ranges Try.prog 9 rawElem mb r n D left cnt
  below : Below w.heap.size w u
  on : Below wn.heap.size wn u
theorem ItQ.after {w wn u u' : World} {gt gm : Nat} {T : TT} {M : PM} {F G : Nat → Prop} {mb r n : Nat} {D : DataW Value} {left : Lit → Bool} {cnt : Nat} (h : ItQ w wn gt gm T M F G mb r n D left cnt u) (b : Below u.heap.size u u') : ItQ w wn gt gm T M F G mb r n D left cnt u' :=
  ⟨h.rep.after b, ranges_same h.rng (b.block mb h.rng.owns.lt) (b.block r h.rng.lt), below_next' h.below b, below_next' h.on b⟩

set_option maxHeartbeats 8000000 in
theorem q9_Items_yes (w : World) (gt gm : Nat) (vl : Value) (L : List TR) (M : PM) (F G : Nat → Prop) (k : Nat) (h : RepD w gt gm (trM L) M F G) (hV : RepV w gt gm vl L F) (hk : k < L.length) (hL : L.length ≤ 1000) :
    Calls Try.prog 17 #[.pointer (some ⟨gt, 0, none⟩), .int .i64 (k : Int)] w (ItemsW ((trAt L k).m.L.map (itF M k)) w) := by
  have HA := Lib.hid (q9_has w gt gm (trM L) F (k : Int) h.maps)
  rw [trM_len, decide_eq_true (by omega : (0 : Int) ≤ (k : Int)), decide_eq_true (by omega : (k : Int) < (L.length : Int)), Bool.and_self] at HA
  obtain ⟨gl, cl, hvl, k1, k2, hg, -, -, -, -, e4, -⟩ := hV.at_ hk
  obtain ⟨c0, c1⟩ := hV.cells
  rw [hvl] at c1
  unfold maxLen at k2
  have hok := h.maps.ok k (by rw [trM_len]; exact hk)
  rw [trM_at] at hok
  obtain ⟨mb, hmb⟩ : ∃ mb, (trAt L k).v = .map (some mb) := by
    obtain ⟨vl2, L2, e, hV2, -, hnn⟩ := h.maps
    obtain ⟨mb, em⟩ := hV.mapV hk
    cases mb with
    | some b => exact ⟨b, em⟩
    | none =>
      exfalso
      have hLL : L2.length = L.length := by have := congrArg List.length e; simpa [trM] using this.symm
      obtain ⟨gl2, cl2, hvl2, -, -, -, -, -, -, -, e42, -⟩ := hV2.at_ (k := k) (by omega)
      have d1 := hV2.cells.2
      rw [hV.cells.2, hvl, hvl2] at d1
      have e5 : gl = gl2 := by
        injection d1 with d1
        injection d1 with d1 _ _
        injection d1 with d1
        injection d1
      subst e5
      rw [e4, em] at e42
      exact hnn k (by omega) (Option.some.inj e42).symm
  have hsl := hV.own k hk
  rw [hmb] at hsl e4
  have HOWN : Hid (∀ u, Below w.heap.size w u → ∃ D, u.ownsMap Try.prog 9 rawElem mb (trAt L k).m.L.length D ∧ (∀ kl, Maps.has D kl = true → ∃ y ∈ (trAt L k).m.L, kl = kLit y.k) ∧ (∀ y ∈ (trAt L k).m.L, Maps.has D (kLit y.k) = true) ∧ ∀ y ∈ (trAt L k).m.L, ∀ z, D.atKey (kLit y.k) z = .held (.int .i64 (y.s : Int))) := Lib.hid fun u b => by
    have hs : SlotR u (.map (some mb)) (trAt L k).m.L := hsl.same fun x hx => b.block x (hsl.lt hx)
    obtain ⟨D, ho, hm⟩ := hs.is
    obtain ⟨es, rfl, hp, hkk⟩ := ho.entries strK
    refine ⟨_, ho, fun kl hh => ?_, fun y hy => ?_, fun y hy z => ?_⟩
    · obtain ⟨p, hp1, hp2⟩ := List.any_eq_true.1 hh
      have e := WideAt.sameKey_eq hp2
      have h1 := (hm p.1 (hkk p hp1)).1
      rw [e, hh] at h1
      exact str_some h1.symm
    · rw [(hm (kLit y.k) trivial).1]
      exact str_mem hy
    · rw [(hm (kLit y.k) trivial).2 z, str_find (fun x hx => (hok.keys x hx).1) (hok.keys y hy).1]
      have hf : tFind (trAt L k).m.L y.k = some y.s := by
        unfold tFind
        have hr := hok.rise
        generalize (trAt L k).m.L = K at hy hr
        induction K with
        | nil => cases hy
        | cons x K ih =>
          obtain ⟨r1, r2⟩ := List.pairwise_cons.1 hr
          rw [List.find?_cons]
          rcases List.mem_cons.1 hy with e | e
          · subst e; simp
          · have : (x.k == y.k) = false := by
              rw [beq_eq_false_iff_ne]
              exact kLt_ne (r1 y e)
            rw [this]
            exact ih e r2
      rw [hf]
      rfl
  have HMB : Hid (mb < w.heap.size) := Lib.hid (hsl.lt rfl)
  have HH := Lib.hid h
  have HKOK := Lib.hid hok.kok
  have HKS : Hid (∀ y ∈ (trAt L k).m.L, y.s < 1024) := Lib.hid fun y hy => by have := (hok.keys y hy).2.2; have := hok.made; omega
  have HFEW : Hid ((trAt L k).m.L.length ≤ 100) := Lib.hid (by
    have h1 := hok.few
    have hgood := hok.good
    unfold Df.good at hgood
    simp only [Bool.and_eq_true, decide_eq_true_eq] at hgood
    have := hgood.2
    omega)
  have KK := Lib.hid (And.intro c0 (And.intro c1 e4))
  have k0 : (0 : Int) ≤ k := by omega
  have k3 : (k : Int) < L.length := by omega
  clear h hV hok hmb hsl hvl c0 c1 e4 hk
  generalize (trAt L k).m.L = K at *
  generalize hLn : L.length = Ln at *
  generalize hTL : trM L = T at *
  clear hLn hTL
  go_enter Try.func17, Try.ntmps17
  go_wp2_with fail
  refine (HA.out).mono ?_
  rintro e w1 ⟨rfl, b1⟩
  have V := Lib.hid b1
  have c1 := cell_on KK.out.2.1 V.out
  have e4 := cell_on KK.out.2.2 V.out
  obtain ⟨D, hown, hd1, hd2, hd3⟩ := HOWN.out w1 V.out
  have HD3 := Lib.hid hd3
  have HD1 := Lib.hid hd1
  have HD2 := Lib.hid hd2
  clear b1 HA HOWN hd1 hd2 hd3
  go_wp2_with (first | (at_range; refine wpList_range_own _ rfl (.tmp 25) 76 rfl 9 3 strK Try.underlying76 rawElem mb K.length D rfl hown ?_; intro w2 hrg2 hg2 hs2) | fail)
  go_frame
  generalize hr : w1.heap.size = r at *
  have B2 : Hid (Below w.heap.size w w2) := Lib.hid (V.out.trans ⟨hg2.os, hg2.tape, hg2.output, hg2.size, fun x hx => hg2.block x (by have := V.out.size; omega) (by simp)⟩)
  have hwr : w.heap.size ≤ r := by have := V.out.size; omega
  have HWR := Lib.hid hwr
  have RNG := Lib.hid hrg2
  have HS2 := Lib.hid hs2
  clear hrg2 hg2 hs2 hown hr c1 e4 V hwr
  go_loopw [5] (fun l wr => ∃ (left : Lit → Bool) (cnt : Nat) (X : List Itm), Hid (wr.ranges Try.prog 9 rawElem mb r K.length D left cnt) ∧ Hid (ItR (r + 1) wr l X) ∧ Hid (Got M k K left X) ∧ Hid (LeftIn K left) ∧ Hid (Below w.heap.size w wr) ∧ Hid (r + 1 ≤ wr.heap.size)) (fun l wr => wr.rangeLeft mb r)
  case atStart => exact ⟨_, _, [], RNG, Lib.hid (ItR.nil _ _), Lib.hid (got_start HD2.out), HD1, B2, Lib.hid (by have := HS2.out; omega)⟩
  case round =>
    obtain ⟨left, cnt, X, RG, IT, GT, LK, BW, SZ⟩ := hrel
    clear RNG B2 HD1 HD2 HS2
    obtain ⟨A, c, rfl, q1, q2⟩ := own_slice IT.out.row
    have OKX : Hid (∀ x ∈ X, OkB x.k) := Lib.hid fun x hx => by
      obtain ⟨y, hy, e, -⟩ := GT.out.mem x hx
      rw [show x.k = y.k from congrArg Prod.fst e]
      exact HKOK.out.byt y hy
    have LEX : Hid (X.length ≤ K.length) := Lib.hid (by
      have h1 := nodup_le (l := X.map (·.k)) (m := K.map (·.k)) GT.out.nodup (fun z hz => by
        obtain ⟨x, hx, rfl⟩ := List.mem_map.1 hz
        obtain ⟨y, hy, e, -⟩ := GT.out.mem x hx
        exact List.mem_map.2 ⟨y, hy, (congrArg Prod.fst e).symm⟩)
      simpa using h1)
    have QC := Lib.hid (And.intro q1 q2)
    clear q1 q2
    go_wp2_with (first | (at_next; refine wpList_next_slots _ rfl (.tmp 26) rfl mb r K.length D left cnt K rfl RG.out LK.out HD3.out ?_ ?_) | fail)
    · intro hlf
      have HLF := Lib.hid hlf
      have SO := Lib.hid (sort_items wr (r + 1) A X.length c X IT.out OKX.out (by have := LEX.out; have := HFEW.out; omega))
      clear hlf
      generalize hXl : X.length = nx at *
      have HXL := Lib.hid hXl
      clear hXl
      go_wp2_with fail
      refine (SO.out).mono ?_
      rintro e w5 ⟨rfl, X', hp, hs, hi, hb⟩
      have HI := Lib.hid hi
      have HB := Lib.hid hb
      have DN := Lib.hid (GT.out.done HKOK.out (fun y _ => HLF.out (kLit y.k)) hp hs)
      have HPL : Hid (X'.length = nx) := Lib.hid (by rw [hp.length_eq, HXL.out])
      clear hp hs hi hb SO
      go_wp2_with fail
      go_ret
      have hlen : (K.map (itF M k)).length = nx := by rw [← DN.out, itL, List.length_map]; exact HPL.out
      unfold ItemsW
      rw [hlen]
      refine ⟨A, c, X', rfl, DN.out, HI.out.lower (by have := HWR.out; omega), ?_⟩
      have h1 := HWR.out
      exact BW.out.trans (HB.out.mono (by omega))
    · intro y wn cnt' hy hly hrgn hcn hgn hsn hen
      have hbn : Below w.heap.size w wn := BW.out.trans ⟨hgn.os, hgn.tape, hgn.output, by omega, fun x hx => hgn.block x (by have := SZ.out; have := HWR.out; omega) (by have := HWR.out; intro e; cases e; omega)⟩
      have ITN : Hid (ItR (r + 1) wn (.slice A X.length c) X) := Lib.hid (IT.out.stay (by omega) fun g h1 h2 => hgn.block g h2 (by intro e; cases e; omega))
      have Q : Hid (ItQ w wn gt gm T M F G mb r K.length D (fun z => left z && !z.sameKey (kLit y.k)) cnt' wn) := Lib.hid ⟨HH.out.after hbn, hrgn, hbn, Below.refl _ _⟩
      have y0 := HKS.out y hy
      have hko := HKOK.out.byt y hy
      have SZN : Hid (r + 1 ≤ wn.heap.size) := Lib.hid (by have := SZ.out; omega)
      have CN : Hid (cnt' < cnt) := Lib.hid hcn
      have GTN : Hid (∀ x : Itm, (x.k, x.v) = itF M k y → Got M k K (fun z => left z && !z.sameKey (kLit y.k)) (X ++ [x])) := Lib.hid fun x hx => GT.out.next HKOK.out hy hly hx
      have LKN : Hid (LeftIn K (fun z => left z && !z.sameKey (kLit y.k))) := Lib.hid fun kl h => LK.out kl (by simp only [Bool.and_eq_true] at h; exact h.1)
      have HS : Hid (∀ u, ItQ w wn gt gm T M F G mb r K.length D (fun z => left z && !z.sameKey (kLit y.k)) cnt' u → u.cell? ⟨gt, 0, none⟩ = some (.pointer (some ⟨gm, 0, none⟩))) := Lib.hid fun u q => by
        obtain ⟨vl2, L2, -, hV2, -⟩ := q.rep.maps
        exact hV2.cells.1
      have AR : Hid (∀ u, Calls Try.prog 20 #[.int .i64 (k : Int), .int .i64 (y.s : Int)] u (Gives (.int .i64 (tArea k y.s)) u)) := Lib.hid fun u => q9_Area k y.s u (by omega) (by omega)
      have hAr : -9223372036854775808 ≤ tArea k y.s ∧ tArea k y.s ≤ 9223372036854775807 := by unfold tArea; omega
      have MA : Hid (∀ u, ItQ w wn gt gm T M F G mb r K.length D (fun z => left z && !z.sameKey (kLit y.k)) cnt' u → Calls Try.prog 19 #[.pointer (some ⟨gm, 0, none⟩), .int .i64 (tArea k y.s)] u (fun e u' => ∃ A3 c3, e = .returned (.tuple #[.slice A3 (pArea M (tArea k y.s)).1.length c3, .bool (pArea M (tArea k y.s)).2]) ∧ ItQ w wn gt gm T M F G mb r K.length D (fun z => left z && !z.sameKey (kLit y.k)) cnt' u' ∧ BytS u' A3 (pArea M (tArea k y.s)).1 ∧ ∀ g o, A3 = some ⟨g, o, none⟩ → wn.heap.size ≤ g)) := Lib.hid fun u q => by
        refine (c8_AreaN u gm M G (tArea k y.s) q.rep.mem hAr).mono ?_
        rintro e u' ⟨A3, c3, rfl, a1, a2, a3, a4, a5⟩
        exact ⟨A3, c3, rfl, q.after a4, a1, fun g o e => Nat.le_trans q.on.size (a5 g o e)⟩
      have EVL : Hid ((y.k, (pArea M (tArea k y.s)).1) = itF M k y) := Lib.hid rfl
      have HRG := RG
      have HNX : Hid (X.length ≤ 100) := Lib.hid (by have := LEX.out; have := HFEW.out; omega)
      clear hrgn hgn hbn hcn hsn hy hly GT IT LK BW SZ OKX LEX HH HD3 HKS HFEW HKOK hAr y0
      generalize hle : left = lf at *
      generalize (fun z => lf z && !z.sameKey (kLit y.k)) = left' at *
      generalize tArea k y.s = ar at *
      generalize (pArea M ar).1 = av at *
      generalize (pArea M ar).2 = ab at *
      generalize hyk : y.k = yk at *
      generalize y.s = ys at *
      generalize hXl : X.length = nx at *
      have HXL := Lib.hid hXl
      clear hXl hyk hle
      go_upto_region 7 with fail
      have QN := Q
      clear hen
      replace Q := Lib.hid (Q.out.after (Below.drew (Below.refl _ _)))
      refine wp_region_held_drew (S := fun w' => w'.cell? ⟨gt, 0, none⟩ = some (.pointer (some ⟨gm, 0, none⟩))) (by kernel_rfl) (HS.out _ Q.out) (fun hHeld => ?_)
      refine wpAnyH_take (i := 0) (oi := { dst := some 33, op := Op.move (Operand.tmp 0), type := 31, pos := "table.go:120", after := #[], guard := none }) (v := ?_) rfl (by kernel_rfl) (by kernel_rfl) (by kernel_rfl) (fun _ _ _ h => h) (Or.inl ⟨by rfl, ?_⟩) (by first | exact hHeld | assumption) ?_
      rotate_left 1
      · intro w hSw; (try dsimp only at hSw); go_simp; try (with_reducible rfl)
      try simp only [Act.put, List.setIfInBounds_toArray, List.set_cons_zero, List.set_cons_succ]
      refine wpAnyH_take (i := 1) (oi := { dst := some 34, op := Op.nilCheck (Operand.tmp 33), type := 0, pos := "table.go:120", after := #[{ on := 0, ground := Ground.data }], guard := none }) (v := ?_) rfl (by kernel_rfl) (by kernel_rfl) (by kernel_rfl) (fun _ _ _ h => h) (Or.inl ⟨by rfl, ?_⟩) (by first | exact hHeld | assumption) ?_
      rotate_left 1
      · intro w hSw; (try dsimp only at hSw); go_simp; try (with_reducible rfl)
      try simp only [Act.put, List.setIfInBounds_toArray, List.set_cons_zero, List.set_cons_succ]
      refine wpAnyH_take (i := 2) (oi := { dst := some 35, op := Op.fieldAddr 75 (Operand.tmp 34) 0, type := 0, pos := "table.go:120", after := #[{ on := 1, ground := Ground.data }], guard := none }) (v := ?_) rfl (by kernel_rfl) (by kernel_rfl) (by kernel_rfl) (fun _ _ _ h => h) (Or.inl ⟨by rfl, ?_⟩) (by first | exact hHeld | assumption) ?_
      rotate_left 1
      · intro w hSw; (try dsimp only at hSw); go_simp; try (with_reducible rfl)
      try simp only [Act.put, List.setIfInBounds_toArray, List.set_cons_zero, List.set_cons_succ]
      refine wpAnyH_take (i := 3) (oi := { dst := some 36, op := Op.load 25 (Operand.tmp 35), type := 25, pos := "table.go:120", after := #[{ on := 2, ground := Ground.data }], guard := none }) (v := ?_) rfl (by kernel_rfl) (by kernel_rfl) (by kernel_rfl) (fun _ _ _ h => h) (Or.inl ⟨by rfl, ?_⟩) (by first | exact hHeld | assumption) ?_
      rotate_left 1
      · intro w hSw; (try dsimp only at hSw); go_simp; try (with_reducible rfl)
      try simp only [Act.put, List.setIfInBounds_toArray, List.set_cons_zero, List.set_cons_succ]
      refine wpAnyH_take (i := 4) (oi := { dst := some 37, op := Op.move (Operand.tmp 1), type := 3, pos := "table.go:120", after := #[], guard := none }) (v := ?_) rfl (by kernel_rfl) (by kernel_rfl) (by kernel_rfl) (fun _ _ _ h => h) (Or.inl ⟨by rfl, ?_⟩) (by first | exact hHeld | assumption) ?_
      rotate_left 1
      · intro w hSw; (try dsimp only at hSw); go_simp; try (with_reducible rfl)
      try simp only [Act.put, List.setIfInBounds_toArray, List.set_cons_zero, List.set_cons_succ]
      refine wpAnyH_take (i := 5) (oi := { dst := some 38, op := Op.move (Operand.tmp 7), type := 3, pos := "table.go:120", after := #[], guard := none }) (v := ?_) rfl (by kernel_rfl) (by kernel_rfl) (by kernel_rfl) (fun _ _ _ h => h) (Or.inl ⟨by rfl, ?_⟩) (by first | exact hHeld | assumption) ?_
      rotate_left 1
      · intro w hSw; (try dsimp only at hSw); go_simp; try (with_reducible rfl)
      try simp only [Act.put, List.setIfInBounds_toArray, List.set_cons_zero, List.set_cons_succ]
      refine wpAnyH_ready (rs := [6]) (by kernel_rfl) (by simp) ?_
      refine AllReadyH.cons (o := { dst := some 39, op := Op.call { callee := Callee.value (Operand.func 20), args := #[Operand.tmp 37, Operand.tmp 38], argTypes := #[3, 3] }, type := 3, pos := "table.go:120", after := #[{ on := 4, ground := Ground.data }, { on := 5, ground := Ground.data }], guard := none }) rfl (fun K hK => ?_) AllReadyH.nil
      · skip
        go_simp
        refine (AR.out _).mono ?_; rintro e u1 ⟨rfl, b1⟩
        replace Q := Lib.hid (Q.out.after b1)
        clear b1
        go_wp2_with fail
        refine hK.out _ _ (HS.out _ Q.out) (fun hHeld => ?_)
        clear hK K
        try simp only [Act.put, List.setIfInBounds_toArray, List.set_cons_zero, List.set_cons_succ]
        refine wpAnyH_ready (rs := [7]) (by kernel_rfl) (by simp) ?_
        refine AllReadyH.cons (o := { dst := some 40, op := Op.call { callee := Callee.value (Operand.func 19), args := #[Operand.tmp 36, Operand.tmp 39], argTypes := #[25, 3] }, type := 48, pos := "table.go:120", after := #[{ on := 3, ground := Ground.data }, { on := 6, ground := Ground.data }, { on := 6, ground := Ground.chain }], guard := none }) rfl (fun K hK => ?_) AllReadyH.nil
        · skip
          go_simp
          refine (MA.out _ Q.out).mono ?_; rintro e u3 ⟨A3, ca3, rfl, q3⟩
          have Q3 := Lib.hid q3
          clear q3 hHeld
          have hHeld := HS.out _ Q3.out.1
          go_wp2_with fail
          refine hK.out _ _ (HS.out _ Q3.out.1) (fun hHeld => ?_)
          clear hK K
          try simp only [Act.put, List.setIfInBounds_toArray, List.set_cons_zero, List.set_cons_succ]
          refine wpAnyH_take (i := 8) (oi := { dst := some 32, op := Op.move (Operand.tmp 40), type := 48, pos := "table.go:120", after := #[{ on := 7, ground := Ground.data }], guard := none }) (v := ?_) rfl (by kernel_rfl) (by kernel_rfl) (by kernel_rfl) (fun _ _ _ h => h) (Or.inl ⟨by rfl, ?_⟩) (by first | exact hHeld | assumption) ?_
          rotate_left 1
          · intro w hSw; (try dsimp only at hSw); go_simp; try (with_reducible rfl)
          try simp only [Act.put, List.setIfInBounds_toArray, List.set_cons_zero, List.set_cons_succ]
          refine wpAnyH_take (i := 9) (oi := { dst := some 41, op := Op.extract (Operand.tmp 32) 0, type := 40, pos := "table.go:120", after := #[{ on := 8, ground := Ground.data }], guard := none }) (v := ?_) rfl (by kernel_rfl) (by kernel_rfl) (by kernel_rfl) (fun _ _ _ h => h) (Or.inl ⟨by rfl, ?_⟩) (by first | exact hHeld | assumption) ?_
          rotate_left 1
          · intro w hSw; (try dsimp only at hSw); go_simp; try (with_reducible rfl)
          try simp only [Act.put, List.setIfInBounds_toArray, List.set_cons_zero, List.set_cons_succ]
          refine wpAnyH_take (i := 10) (oi := { dst := some 42, op := Op.extract (Operand.tmp 32) 1, type := 4, pos := "table.go:120", after := #[{ on := 8, ground := Ground.data }, { on := 11, ground := Ground.gcOnly Departure.lateStores }], guard := none }) (v := ?_) rfl (by kernel_rfl) (by kernel_rfl) (by kernel_rfl) (fun _ _ _ h => h) (Or.inl ⟨by rfl, ?_⟩) (by first | exact hHeld | assumption) ?_
          rotate_left 1
          · intro w hSw; (try dsimp only at hSw); go_simp; try (with_reducible rfl)
          try simp only [Act.put, List.setIfInBounds_toArray, List.set_cons_zero, List.set_cons_succ]
          refine wpAnyH_take (i := 11) (oi := { dst := some 8, op := Op.assign (Operand.tmp 41), type := 40, pos := "table.go:120", after := #[{ on := 9, ground := Ground.data }, { on := 7, ground := Ground.chain }, { on := 0, ground := Ground.phase }, { on := 1, ground := Ground.phase }, { on := 2, ground := Ground.phase }, { on := 3, ground := Ground.phase }, { on := 4, ground := Ground.phase }, { on := 5, ground := Ground.phase }, { on := 6, ground := Ground.phase }, { on := 7, ground := Ground.phase }, { on := 8, ground := Ground.phase }, { on := 9, ground := Ground.phase }, { on := 10, ground := Ground.textOnly Departure.lateStores }], guard := none }) (v := ?_) rfl (by kernel_rfl) (by kernel_rfl) (by kernel_rfl) (fun _ _ _ h => h) (Or.inl ⟨by rfl, ?_⟩) (by first | exact hHeld | assumption) ?_
          rotate_left 1
          · intro w hSw; (try dsimp only at hSw); go_simp; try (with_reducible rfl)
          try simp only [Act.put, List.setIfInBounds_toArray, List.set_cons_zero, List.set_cons_succ]
          refine wpAnyH_take (i := 12) (oi := { dst := some 9, op := Op.assign (Operand.tmp 42), type := 4, pos := "table.go:120", after := #[{ on := 10, ground := Ground.data }, { on := 11, ground := Ground.chain }, { on := 0, ground := Ground.phase }, { on := 1, ground := Ground.phase }, { on := 2, ground := Ground.phase }, { on := 3, ground := Ground.phase }, { on := 4, ground := Ground.phase }, { on := 5, ground := Ground.phase }, { on := 6, ground := Ground.phase }, { on := 7, ground := Ground.phase }, { on := 8, ground := Ground.phase }, { on := 9, ground := Ground.phase }, { on := 10, ground := Ground.phase }, { on := 11, ground := Ground.phase }], guard := none }) (v := ?_) rfl (by kernel_rfl) (by kernel_rfl) (by kernel_rfl) (fun _ _ _ h => h) (Or.inl ⟨by rfl, ?_⟩) (by first | exact hHeld | assumption) ?_
          rotate_left 1
          · intro w hSw; (try dsimp only at hSw); go_simp; try (with_reducible rfl)
          try simp only [Act.put, List.setIfInBounds_toArray, List.set_cons_zero, List.set_cons_succ]
          refine wpAnyH_done (by kernel_rfl) ?_ _
          clear hHeld HS AR MA
          obtain ⟨q4, hb3, hf3⟩ := Q3.out
          obtain ⟨cK, u4, hcv, ⟨hbk, hlt4⟩, b4⟩ := conv_bytes u3 yk hko
          have b5 := below_alloc (below_next' q4.on b4) (.cells #[.slice (some ⟨u3.heap.size, 0, none⟩) yk.length cK, .slice A3 av.length ca3] 60)
          have bal := below_alloc (Below.refl u4.heap.size u4) (.cells #[.slice (some ⟨u3.heap.size, 0, none⟩) yk.length cK, .slice A3 av.length ca3] 60)
          have hon := q4.on.size
          obtain ⟨v6, u6, hr, hd⟩ := ITN.out.append (ty := 46) b5 SZN.out ⟨yk, av, some ⟨u3.heap.size, 0, none⟩, cK, A3, ca3⟩ (hbk.after bal) ((hb3.after b4).after bal) (fun g o e => by cases e; exact hon) hf3 (Blk.new u4 _ _ rfl) (by have := HXL.out; have := HNX.out; omega)
          have HD := Lib.hid hd
          have hr' : (Builtin.append_ #[46, 46] 46 #[.slice A nx c, .slice (some ⟨u4.heap.size, 0, none⟩) 1 1]).run Try.prog (u4.alloc (.cells #[.slice (some ⟨u3.heap.size, 0, none⟩) yk.length cK, .slice A3 av.length ca3] 60)) = .ok v6 u6 := hr
          clear hd hr b4 b5 bal hbk hlt4 hb3 hf3 q4 Q3 Q hon
          go_wp2_with ((at_builtin; refine Lib.wpList_append_run _ rfl (.tmp 43) (.tmp 48) _ _ rfl _ _ rfl rfl _ _ hr' ?_))
          have RNG6 : u6.ranges Try.prog 9 rawElem mb r K.length D left' cnt' := by
            have hmb := HMB.out
            have hwr := HWR.out
            have hsz := SZN.out
            have hlow : ∀ g, g < r + 1 → (Value.slice A nx c).ownBlock ≠ some g := fun g hg e => by
              have := (ITN.out.row.lt g e).1
              omega
            exact ranges_same QN.out.rng (HD.out.keep mb (by omega) (hlow mb (by omega))) (HD.out.keep r (by omega) (hlow r (by omega)))
          have R6 := Lib.hid RNG6
          clear RNG6 hcv hr'
          go_round
          case rel => exact ⟨left', cnt', X ++ [⟨yk, av, some ⟨u3.heap.size, 0, none⟩, cK, A3, ca3⟩], R6, Lib.hid HD.out.rep, Lib.hid (GTN.out _ EVL.out), LKN, Lib.hid (QN.out.below.trans (HD.out.below.mono (by have := HWR.out; omega))), Lib.hid (by have := HD.out.below.size; have := SZN.out; omega)⟩
          case measure => rw [R6.out.left_eq, HRG.out.left_eq]; exact CN.out

theorem q9_Items (w : World) (gt gm : Nat) (T : TT) (M : PM) (F G : Nat → Prop) (i : Int) (h : RepD w gt gm T M F G) (hT : T.length ≤ 1000) :
    Calls Try.prog 17 #[.pointer (some ⟨gt, 0, none⟩), .int .i64 i] w (ItemsW (tItems T M i) w) := by
  unfold tItems
  by_cases hi : 0 ≤ i ∧ i < T.length
  · rw [if_pos hi]
    obtain ⟨k, rfl⟩ : ∃ k : Nat, i = k := ⟨i.toNat, by omega⟩
    obtain ⟨vl, L, rfl, h', -⟩ := id h.maps
    rw [trM_len] at hi hT
    rw [Int.toNat_natCast, trM_at]
    exact q9_Items_yes w gt gm vl L M F G k h h' (by omega) hT
  · rw [if_neg hi]
    exact q9_Items_no w gt gm T M F i h.maps (by simp; omega)

end Go.Proofs.Ytempkpfcjonaaaa


/-
  Layer 9: what a law made itself: systems of blocks (memory, maps), two beside one another in one world, and bytes that stay.
  Conditions: none.
-/
namespace Go.Proofs.Ytempkpfcjonaaaa
open Go.RowKit
set_option maxRecDepth 100000
set_option linter.unusedVariables false
set_option linter.unusedSimpArgs false

/-- What lies in blocks of its own. -/
structure Sys where
  R : World → (Nat → Prop) → Prop
  keep : ∀ {w w' : World} {F : Nat → Prop}, R w F → (∀ x, F x → w'.heap[x]? = w.heap[x]?) → R w' F
  lt : ∀ {w : World} {F : Nat → Prop} {x : Nat}, R w F → F x → x < w.heap.size
def sysO : Sys := ⟨fun _ F => ∀ x, ¬ F x, fun h _ => h, fun h c => absurd c (h _)⟩
def sysM (g : Nat) (M : PM) : Sys := ⟨fun w F => RepP w g M F, fun h hs => by
  obtain ⟨vl, L, e, h⟩ := h
  exact ⟨vl, L, e, h.keep hs⟩, fun h c => h.lt c⟩
def sysT (gt gm : Nat) (T : TT) (M : PM) : Sys := ⟨fun w H => ∃ F G, RepD w gt gm T M F G ∧ ∀ x, H x ↔ F x ∨ G x, fun h hs => by
  obtain ⟨F, G, ⟨⟨vl, L, e, h1, h2⟩, ⟨vl2, L2, e2, h3⟩, h4⟩, hH⟩ := h
  exact ⟨F, G, ⟨⟨vl, L, e, h1.keep fun x hx => hs x ((hH x).2 (.inl hx)), h2⟩, ⟨vl2, L2, e2, h3.keep fun x hx => hs x ((hH x).2 (.inr hx))⟩, h4⟩, hH⟩, fun h c => by
  obtain ⟨F, G, h, hH⟩ := h
  rcases (hH _).1 c with c | c
  · exact h.maps.lt c
  · exact h.mem.lt c⟩
/-- A system has become another one, and one answer is told. -/
def OpS (A : Sys) (F : Nat → Prop) (v : Value) (w : World) (e : Ending) (w' : World) : Prop :=
  e = .returned v ∧ ∃ F', A.R w' F' ∧ Turn F w w' ∧ ∀ x, F' x → F x ∨ w.heap.size ≤ x
structure Law (w0 : World) (A B : Sys) (l : List (Option Addr × List Int)) (w : World) : Prop where
  below : Below w0.heap.size w0 w
  rep : ∃ F G, A.R w F ∧ B.R w G ∧ (∀ x, F x → ¬ G x) ∧ (∀ x, F x ∨ G x → w0.heap.size ≤ x) ∧ ∀ p ∈ l, Keep (fun x => F x ∨ G x) w p.1 p.2
theorem law_start (w : World) : Law w sysO sysO [] w := ⟨Below.refl _ _, fun _ => False, fun _ => False, fun _ h => h, fun _ h => h, fun _ h => h.elim, fun _ h => h.elim id id |>.elim, fun p hp => by cases hp⟩
section
variable {w0 w u : World} {A B A' B' : Sys} {l : List (Option Addr × List Int)}
theorem Law.after (h : Law w0 A B l w) (b : Below w.heap.size w u) : Law w0 A B l u := by
  obtain ⟨hb, F, G, hA, hB, hd, hn, hk⟩ := h
  exact ⟨below_next' hb b, F, G, A.keep hA (fun x hx => b.block x (A.lt hA hx)), B.keep hB (fun x hx => b.block x (B.lt hB hx)), hd, hn, fun p hp => (hk p hp).on (Turn.of_below b) (fun x hx => .inl hx)⟩
theorem Law.byt (h : Law w0 A B l w) {C : Option Addr} {b : List Int} (hm : (C, b) ∈ l) : BytS w C b := by
  obtain ⟨hb, F, G, hA, hB, hd, hn, hk⟩ := h
  exact (hk _ hm).at_
theorem Law.drop (h : Law w0 A B l w) {l' : List (Option Addr × List Int)} (hs : ∀ p ∈ l', p ∈ l) : Law w0 A B l' w := by
  obtain ⟨hb, F, G, hA, hB, hd, hn, hk⟩ := h
  exact ⟨hb, F, G, hA, hB, hd, hn, fun p hp => hk p (hs p hp)⟩
/-- Bytes more that stay: the caller's, or new ones. -/
theorem Law.push (h : Law w0 A B l w) (b : Below w.heap.size w u) {C : Option Addr} {x : List Int} (hb : BytS u C x) (hs : ∀ g o, 0 < x.length → C = some ⟨g, o, none⟩ → g < w0.heap.size ∨ w.heap.size ≤ g) : Law w0 A B ((C, x) :: l) u := by
  obtain ⟨hb', F, G, hA, hB, hd, hn, hk⟩ := h
  refine ⟨below_next' hb' b, F, G, A.keep hA (fun x hx => b.block x (A.lt hA hx)), B.keep hB (fun x hx => b.block x (B.lt hB hx)), hd, hn, fun p hp => ?_⟩
  rcases List.mem_cons.1 hp with rfl | hp
  · intro v t hl
    obtain ⟨g, o, e, hg, hc⟩ := hb hl
    have hng : ¬ (F g ∨ G g) := fun c => by
      have h1 := hn g c
      rcases hs g o hl e with c2 | c2
      · omega
      · rcases c with c | c
        · have := A.lt hA c; omega
        · have := B.lt hB c; omega
    exact ⟨g, o, e, Nat.lt_of_lt_of_le hg t.size, fun k hk => (World.cell?_of_block (a := ⟨g, o + k, none⟩) (t.block g hg hng)).trans (hc k hk)⟩
  · exact (hk p hp).on (Turn.of_below b) (fun x hx => .inl hx)
/-- The first system's turn. -/
theorem Law.one {f : FuncId} {args : Array Value} {v : Value} (h : Law w0 A B l w) (H : ∀ F, A.R w F → (∀ p ∈ l, Keep F w p.1 p.2) → (∀ x, F x → w0.heap.size ≤ x) → Calls Try.prog f args w (OpS A' F v w)) :
    Calls Try.prog f args w (fun e w' => e = .returned v ∧ Law w0 A' B l w') := by
  obtain ⟨hb, F, G, hA, hB, hd, hn, hk⟩ := h
  refine (H F hA (fun p hp u t => hk p hp u (t.mono fun x hx => .inl (.inl hx))) (fun x hx => hn x (.inl hx))).mono ?_
  rintro e w' ⟨he, F', hA', t, hf⟩
  have hsz := hb.size
  refine ⟨he, Turn.on hb t hsz (fun x hx => hn x (.inl hx)), F', G, hA', B.keep hB (fun x hx => t.block x (B.lt hB hx) (fun c => hd x c hx)), fun x hx hG => ?_, fun x hx => ?_, fun p hp => ?_⟩
  · rcases hf x hx with c | c
    · exact hd x c hG
    · have := B.lt hB hG; omega
  · rcases hx with hx | hx
    · rcases hf x hx with c | c
      · exact hn x (.inl c)
      · omega
    · exact hn x (.inr hx)
  · refine (hk p hp).on (t.mono fun x hx => .inl (.inl hx)) (fun x hx => ?_)
    rcases hx with hx | hx
    · exact (hf x hx).imp .inl id
    · exact .inl (.inr hx)
theorem Law.swap (h : Law w0 A B l w) : Law w0 B A l w := by
  obtain ⟨hb, F, G, hA, hB, hd, hn, hk⟩ := h
  exact ⟨hb, G, F, hB, hA, fun x hG hF => hd x hF hG, fun x hx => hn x hx.symm, fun p hp => (hk p hp).on (Turn.refl _ _) (fun x hx => .inl hx.symm)⟩
theorem Law.two {f : FuncId} {args : Array Value} {v : Value} (h : Law w0 A B l w) (H : ∀ F, B.R w F → (∀ p ∈ l, Keep F w p.1 p.2) → (∀ x, F x → w0.heap.size ≤ x) → Calls Try.prog f args w (OpS B' F v w)) :
    Calls Try.prog f args w (fun e w' => e = .returned v ∧ Law w0 A B' l w') :=
  (h.swap.one H).mono fun e w' ⟨he, hl⟩ => ⟨he, hl.swap⟩
end
/-! The program's calls. -/
section
variable {w0 w : World} {B : Sys} {l : List (Option Addr × List Int)} {gt gm : Nat} {T : TT} {M : PM}
theorem opT_put {r : TP} {F G H : Nat → Prop} {e : Ending} {w' : World} (hH : ∀ x, H x ↔ F x ∨ G x) (h : PutQ gt gm F G r w e w') : OpS (sysT gt gm r.T r.M) H (.tuple #[.int .u64 r.n, .int .i64 r.e]) w e w' := by
  obtain ⟨he, F', G', h1, h2, h3, h4⟩ := h
  refine ⟨he, fun x => F' x ∨ G' x, ⟨F', G', h1, fun x => Iff.rfl⟩, h2.mono (fun x hx => .inl ((hH x).2 hx)), fun x hx => ?_⟩
  rcases hx with c | c
  · exact (h3 x c).imp (fun d => (hH x).2 (.inl d)) id
  · exact (h4 x c).imp (fun d => (hH x).2 (.inr d)) id
theorem lt_Put (i : Int) (key val : List Int) (C D : Option Addr) (n d m c : Nat) (fl : Int) (h : Law w0 (sysT gt gm T M) B l w) (hT1 : T.length ≤ 1000) (hk : (C, key) ∈ l) (hok : OkB key) (hn : key.length = n) (hnd : n ≤ d) (hdm : d ≤ maxLen) (hv : (D, val) ∈ l) (hov : OkB val) (hvn : val.length = m) (hmc : m ≤ c) (hcm : c ≤ maxLen) (hfl : 0 ≤ fl ∧ fl ≤ 18446744073709551615) (hM : M.length ≤ 100000) :
    Calls Try.prog 25 #[.pointer (some ⟨gt, 0, none⟩), .int .i64 i, .slice C n d, .slice D m c, .int .u64 fl] w (fun e w' => e = .returned (.tuple #[.int .u64 (tPut T M i key val fl).n, .int .i64 (tPut T M i key val fl).e]) ∧ Law w0 (sysT gt gm (tPut T M i key val fl).T (tPut T M i key val fl).M) B l w') :=
  h.one fun H hR hK hlow => by
    obtain ⟨F, G, hD, hH⟩ := hR
    have kk : ∀ {C : Option Addr} {x : List Int}, (C, x) ∈ l → Keep (fun x => F x ∨ G x) w C x := fun hm u t => hK _ hm u (t.mono fun x hx => .inl ((hH x).2 hx))
    exact (q9_Put w gt gm T M F G i key val C D n d m c fl hD hT1 (kk hk) hok hn hnd hdm (kk hv) hov hvn hmc hcm hfl hM).mono fun e w' hw => opT_put hH hw
theorem lt_Drop (i : Int) (key : List Int) (C : Option Addr) (n d : Nat) (h : Law w0 (sysT gt gm T M) B l w) (hT1 : T.length ≤ 1000) (hk : (C, key) ∈ l) (hok : OkB key) (hn : key.length = n) (hnd : n ≤ d) (hdm : d ≤ maxLen) :
    Calls Try.prog 23 #[.pointer (some ⟨gt, 0, none⟩), .int .i64 i, .slice C n d] w (fun e w' => e = .returned (.tuple #[.int .u64 (tDrop T i key).2.1, .int .i64 (tDrop T i key).2.2]) ∧ Law w0 (sysT gt gm (tDrop T i key).1 M) B l w') :=
  h.one fun H hR hK hlow => by
    obtain ⟨F, G, hD, hH⟩ := hR
    refine (q9_Drop w gt gm T F i key C n d hD.maps hT1 (hK _ hk).at_ hok hn hnd hdm).mono ?_
    rintro e w' ⟨he, F', h1, h2, h3⟩
    refine ⟨he, fun x => F' x ∨ G x, ⟨F', G, ⟨h1, ?_, fun x hx hG => ?_⟩, fun x => Iff.rfl⟩, h2.mono (fun x hx => .inl ((hH x).2 (.inl hx))), fun x hx => ?_⟩
    · obtain ⟨vl2, L2, e2, h4⟩ := hD.mem
      exact ⟨vl2, L2, e2, h4.keep fun x hx => h2.block x (h4.lt hx) (fun c => hD.apart x c hx)⟩
    · rcases h3 x hx with c | c
      · exact hD.apart x c hG
      · have := hD.mem.lt hG; omega
    · rcases hx with c | c
      · exact (h3 x c).imp (fun d => (hH x).2 (.inl d)) id
      · exact .inl ((hH x).2 (.inr c))
theorem lt_Look (i : Int) (key : List Int) (C : Option Addr) (n d : Nat) (h : Law w0 (sysT gt gm T M) B l w) (hT1 : T.length ≤ 1000) (hk : (C, key) ∈ l) (hok : OkB key) (hn : key.length = n) (hnd : n ≤ d) (hdm : d ≤ maxLen) :
    Calls Try.prog 24 #[.pointer (some ⟨gt, 0, none⟩), .int .i64 i, .slice C n d] w (Gives (.tuple #[.int .u64 (tLook T i key).1, .int .i64 (tLook T i key).2]) w) := by
  have hb := h.byt hk
  obtain ⟨_, H, _, ⟨F, G, hD, _⟩, _⟩ := h
  exact q9_Look w gt gm T F i key C n d hD.maps hT1 hb hok hn hnd hdm
theorem lt_Items (i : Int) (h : Law w0 (sysT gt gm T M) B l w) (hT1 : T.length ≤ 1000) :
    Calls Try.prog 17 #[.pointer (some ⟨gt, 0, none⟩), .int .i64 i] w (ItemsW (tItems T M i) w) := by
  obtain ⟨_, H, _, ⟨F, G, hD, _⟩, _⟩ := h
  exact q9_Items w gt gm T M F G i hD hT1
theorem lt_Store (at_ s n : Int) (h : Law w0 (sysT gt gm T M) B l w) (ha : 0 ≤ at_ ∧ at_ ≤ 18446744073709551615) (hn : 0 ≤ n ∧ n ≤ 18446744073709551615) :
    Calls Try.prog 29 #[.pointer (some ⟨gm, 0, none⟩), .int .u64 at_, .int .i64 s, .int .u64 n] w (fun e w' => e = .returned (.int .i64 (pStore M at_ s n).2) ∧ Law w0 (sysT gt gm T (pStore M at_ s n).1) B l w') :=
  h.one fun H hR hK hlow => by
    obtain ⟨F, G, hD, hH⟩ := hR
    refine (c8_Store w gm M G at_ s n hD.mem ha hn).mono ?_
    rintro e w' ⟨he, G', h1, h2, h3⟩
    refine ⟨he, fun x => F x ∨ G' x, ⟨F, G', ⟨hD.maps.turn h2 (fun x hF hG => hD.apart x hF hG), h1, fun x hx hG => ?_⟩, fun x => Iff.rfl⟩, h2.mono (fun x hx => .inl ((hH x).2 (.inr hx))), fun x hx => ?_⟩
    · rcases h3 x hG with c | c
      · exact hD.apart x hx c
      · have := hD.maps.lt hx; omega
    · rcases hx with c | c
      · exact .inl ((hH x).2 (.inl c))
      · exact (h3 x c).imp (fun d => (hH x).2 (.inr d)) id
theorem lt_Load (at_ s : Int) (h : Law w0 (sysT gt gm T M) B l w) (ha : 0 ≤ at_ ∧ at_ ≤ 18446744073709551615) :
    Calls Try.prog 28 #[.pointer (some ⟨gm, 0, none⟩), .int .u64 at_, .int .i64 s] w (Gives (.tuple #[.int .u64 (pLoad M at_ s).1, .int .i64 (pLoad M at_ s).2]) w) := by
  obtain ⟨_, H, _, ⟨F, G, hD, _⟩, _⟩ := h
  exact c8_Load w gm M G at_ s hD.mem ha
theorem lt_Area (i : Int) (h : Law w0 (sysT gt gm T M) B l w) (hi : -9223372036854775808 ≤ i ∧ i ≤ 9223372036854775807) :
    Calls Try.prog 19 #[.pointer (some ⟨gm, 0, none⟩), .int .i64 i] w
      (fun e w' => ∃ A c, e = .returned (.tuple #[.slice A (pArea M i).1.length c, .bool (pArea M i).2]) ∧ BytS w' A (pArea M i).1 ∧ (pArea M i).1.length ≤ c ∧ c ≤ maxLen ∧ Below w.heap.size w w' ∧ ∀ g o, A = some ⟨g, o, none⟩ → w.heap.size ≤ g) := by
  obtain ⟨_, H, _, ⟨F, G, hD, _⟩, _⟩ := h
  exact c8_AreaN w gm M G i hD.mem hi
theorem Law.okT (h : Law w0 (sysT gt gm T M) B l w) : TFull T ∧ PMok M := by
  obtain ⟨_, H, _, ⟨F, G, hD, _⟩, _⟩ := h
  obtain ⟨vl, L, rfl, _, h2, _⟩ := hD.maps
  exact ⟨h2, hD.mem.ok⟩
/-- Memory, new. -/
theorem lt_Mem (h : Law w0 sysO B l w) : Calls Try.prog 9 #[] w (fun e w' => ∃ g, e = .returned (.pointer (some ⟨g, 0, none⟩)) ∧ Law w0 (sysM g []) B l w') :=
  (c8_New w).mono fun e w' ⟨g, F, he, h1, h2, h3⟩ => by
    refine ⟨g, he, ?_⟩
    have h' := h.after h2
    obtain ⟨hb, F0, G, hA, hB, hd, hn, hk⟩ := h
    have hB' : B.R w' G := B.keep hB (fun x hx => h2.block x (B.lt hB hx))
    have hsz := hb.size
    refine ⟨below_next' hb h2, F, G, h1, hB', fun x hx hG => ?_, fun x hx => ?_, fun p hp => ?_⟩
    · have := h3 x hx; have := B.lt hB hG; omega
    · rcases hx with c | c
      · have := h3 x c; omega
      · exact hn x (.inr c)
    · refine (hk p hp).on (Turn.of_below h2) (fun x hx => ?_)
      rcases hx with c | c
      · exact .inr (h3 x c)
      · exact .inl (.inr c)
/-- Maps, new. -/
theorem lt_New (D : List Df) (C : Option Addr) (n c : Nat) {u : World} (h : Law w0 (sysM gm M) B l w) (b : Below w.heap.size w u) (hl : DefS u C D) (hs : ∀ g o, C = some ⟨g, o, none⟩ → g < w0.heap.size ∨ w.heap.size ≤ g) (hn : D.length = n) (hc : n ≤ c) (hcm : c ≤ maxLen) (hM : M.length ≤ 40000) :
    Calls Try.prog 10 #[.pointer (some ⟨gm, 0, none⟩), .slice C n c] u (fun e w' => match (tNew M D).2 with
      | none => e = .returned (.tuple #[.pointer none, .int .i64 1]) ∧ Law w0 (sysM gm (tNew M D).1) B l w'
      | some T => ∃ gt, e = .returned (.tuple #[.pointer (some ⟨gt, 0, none⟩), .int .i64 0]) ∧ Law w0 (sysT gt gm T (tNew M D).1) B l w') := by
  have h' := h.after b
  obtain ⟨hb0, F0, G0, hA0, hB0, hd0, hn0, hk0⟩ := h
  obtain ⟨hb, F, G, hA, hB, hd, hn', hk⟩ := h'
  have hlt0 : ∀ x, F0 x → x < w.heap.size := fun x hx => RepP.lt hA0 hx
  have hA1 : RepP u gm M F0 := (sysM gm M).keep hA0 (fun x hx => b.block x (hlt0 x hx))
  have hB1 : B.R u G0 := B.keep hB0 (fun x hx => b.block x (B.lt hB0 hx))
  have hsz := hb.size
  have hwu := b.size
  refine (q9_New u gm M F0 D C n c hA1 (fun v t hp => ?_) hn hc hcm hM).mono ?_
  · obtain ⟨g, o, e, hg, hcc⟩ := hl hp
    have hng : ¬ F0 g := fun c => by
      rcases hs g o e with c2 | c2
      · have := hn0 g (.inl c); omega
      · have := hlt0 g c; omega
    have q : ∀ p, v.cell? ⟨g, p, none⟩ = u.cell? ⟨g, p, none⟩ := fun p => World.cell?_of_block (a := ⟨g, p, none⟩) (t.block g hg hng)
    exact ⟨g, o, e, Nat.lt_of_lt_of_le hg t.size, fun k hk => by rw [q, q, q, q]; exact hcc k hk⟩
  · rintro e w' ⟨G', t, hf, hm⟩
    have common : ∀ (A' : Sys) (F' : Nat → Prop), A'.R w' F' → (∀ x, F' x → F0 x ∨ u.heap.size ≤ x) → Law w0 A' B l w' := fun A' F' hA' hf' => by
      refine ⟨Turn.on hb t hsz (fun x hx => hn0 x (.inl hx)), F', G0, hA', B.keep hB1 (fun x hx => t.block x (B.lt hB1 hx) (fun c => hd0 x c hx)), fun x hx hG => ?_, fun x hx => ?_, fun p hp => ?_⟩
      · rcases hf' x hx with c | c
        · exact hd0 x c hG
        · have := B.lt hB1 hG; omega
      · rcases hx with hx | hx
        · rcases hf' x hx with c | c
          · exact hn0 x (.inl c)
          · omega
        · exact hn0 x (.inr hx)
      · refine ((hk0 p hp).on (Turn.of_below b) (fun x hx => .inl hx)).on (t.mono fun x hx => .inl (.inl hx)) (fun x hx => ?_)
        rcases hx with hx | hx
        · exact (hf' x hx).imp .inl id
        · exact .inl (.inr hx)
    cases hr : (tNew M D).2 with
    | none =>
      rw [hr] at hm
      exact ⟨hm.1, common (sysM gm _) G' hm.2 hf⟩
    | some T =>
      rw [hr] at hm
      obtain ⟨gt, F', he, hD, hnew⟩ := hm
      exact ⟨gt, he, common (sysT gt gm T _) (fun x => F' x ∨ G' x) ⟨F', G', hD, fun x => Iff.rfl⟩ (fun x hx => hx.elim (fun c => .inr (hnew x c)) (hf x))⟩
end

end Go.Proofs.Ytempkpfcjonaaaa


/-
  Layer 9: the statements' own shown: the document's examples.
  Conditions: none.
-/
namespace Go.Proofs.Ytempkpfcjonaaaa
open Go.RowKit
set_option maxRecDepth 100000
set_option linter.unusedVariables false
set_option linter.unusedSimpArgs false

theorem byt_new (u : World) (b : List Int) {g : Nat} (hg : g = u.heap.size) : BytS (u.alloc (.cells (byC b).toArray 5)) (some ⟨g, 0, none⟩) b := fun hl => by
  have hB : Blk g (byC b).toArray 5 (u.alloc (.cells (byC b).toArray 5)) := Blk.new u _ _ hg
  exact ⟨g, 0, rfl, hB.lt, fun k hk => by rw [hB.cell, Nat.zero_add, List.getElem?_toArray, byC_at _ hk]⟩
theorem l9_val (n : Int) (w : World) : Calls Try.prog 27 #[.int .u8 n] w (fun e w' => e = .returned (.slice (some ⟨w.heap.size, 0, none⟩) 8 8) ∧ BytS w' (some ⟨w.heap.size, 0, none⟩) (List.replicate 8 n) ∧ Below w.heap.size w w') := by
  have HB := Lib.hid (byt_new w (List.replicate 8 n) rfl)
  go_enter Try.func27, Try.ntmps27
  go_wp2_with fail
  go_ret
  exact ⟨rfl, HB.out, below_alloc (Below.refl _ _) _⟩
/-- One byte, laid. -/
theorem Law.lay {w0 w : World} {A B : Sys} {l : List (Option Addr × List Int)} (h : Law w0 A B l w) (b : List Int) : Law w0 A B ((some ⟨w.heap.size, 0, none⟩, b) :: l) (w.alloc (.cells (byC b).toArray 5)) :=
  h.push (below_alloc (Below.refl _ _) _) (byt_new w b rfl) (fun g o _ e => by cases e; exact .inr (Nat.le_refl _))
/-- Rows of bytes more that stay. -/
theorem Law.pushes {w0 w u : World} {A B : Sys} {l : List (Option Addr × List Int)} (h : Law w0 A B l w) (b : Below w.heap.size w u) (l2 : List (Option Addr × List Int)) (H : ∀ p ∈ l2, BytS u p.1 p.2 ∧ ∀ g o, 0 < p.2.length → p.1 = some ⟨g, o, none⟩ → g < w0.heap.size ∨ w.heap.size ≤ g) : Law w0 A B (l2 ++ l) u := by
  have h' := h.after b
  obtain ⟨hb1, F1, G1, hA1, hB1, hd1, hn1, hk1⟩ := h'
  obtain ⟨hb', F, G, hA, hB, hd, hn, hk⟩ := h
  refine ⟨hb1, F, G, A.keep hA (fun x hx => b.block x (A.lt hA hx)), B.keep hB (fun x hx => b.block x (B.lt hB hx)), hd, hn, fun p hp => ?_⟩
  rcases List.mem_append.1 hp with hp | hp
  · intro v t hl
    obtain ⟨g, o, e, hg, hc⟩ := (H p hp).1 hl
    have hng : ¬ (F g ∨ G g) := fun c => by
      have h1 := hn g c
      rcases (H p hp).2 g o hl e with c2 | c2
      · omega
      · rcases c with c | c
        · have := A.lt hA c; omega
        · have := B.lt hB c; omega
    exact ⟨g, o, e, Nat.lt_of_lt_of_le hg t.size, fun k hk => (World.cell?_of_block (a := ⟨g, o + k, none⟩) (t.block g hg hng)).trans (hc k hk)⟩
  · exact (hk p hp).on (Turn.of_below b) (fun x hx => .inl hx)
theorem okB_one {x : Int} (h : 0 ≤ x ∧ x ≤ 255) : OkB [x] := fun k hk => by
  have : k = 0 := by simpa using hk
  subst this
  exact h
theorem okB_rep {x : Int} (n : Nat) (h : 0 ≤ x ∧ x ≤ 255) : OkB (List.replicate n x) := fun k hk => by
  unfold bAt
  rw [List.length_replicate] at hk
  rw [List.getD_eq_getElem?_getD, List.getElem?_replicate, if_pos hk]
  exact h

def shD : Df := ⟨true, 1, 8, 1⟩
def shV : List Int := List.replicate 8 1
def shM : PM := [⟨4096, shV, List.replicate 8 false, false⟩]
def shT0 : TT := [⟨shD, [], 0⟩]
def shT1 : TT := [⟨shD, [⟨[5], 0⟩], 1⟩]
def shT2 : TT := [⟨shD, [], 1⟩]
theorem defS_one {u : World} {g : Nat} {h : Bool} {k v m : Int} (hb : Blk g #[.bool h, .int .i64 k, .int .i64 v, .int .i64 m] 53 u) : DefS u (some ⟨g, 0, none⟩) [⟨h, k, v, m⟩] := fun _ => ⟨g, 0, rfl, hb.lt, fun j hj => by
  have : j = 0 := by simpa using hj
  subst this
  exact ⟨hb.cell 0, hb.cell 1, hb.cell 2, hb.cell 3⟩⟩

set_option maxHeartbeats 4000000 in
theorem l9_shown (w : World) : Calls Try.prog 8 #[] w (Gives (.bool true) w) := by
  have N := Lib.hid (lt_Mem (law_start w))
  have VA := Lib.hid (l9_val 1)
  have NW := Lib.hid fun (u u' : World) (g : Nat) (h : Law w (sysM g []) sysO [] u) (b : Below u.heap.size u u') (C : Option Addr) (hl : DefS u' C [shD]) hs => lt_New [shD] C 1 1 h b hl hs rfl (Nat.le_refl _) (by unfold maxLen; omega) (by simp)
  rw [show tNew [] [shD] = ([], some shT0) by kernel_rfl] at NW
  dsimp only at NW
  have P1 := Lib.hid fun (u : World) (gt g : Nat) C D l (h : Law w (sysT gt g shT0 []) sysO l u) hk hv => lt_Put 0 [5] shV C D 1 1 8 8 0 h (by decide) hk (okB_one (by omega)) rfl (Nat.le_refl _) (by unfold maxLen; omega) hv (okB_rep 8 (by omega)) rfl (Nat.le_refl _) (by unfold maxLen; omega) (by omega) (by simp)
  rw [show tPut shT0 [] 0 [5] shV 0 = ⟨shT1, shM, 0, 0⟩ by kernel_rfl] at P1
  have P2 := Lib.hid fun (u : World) (gt g : Nat) C D l (h : Law w (sysT gt g shT1 shM) sysO l u) hk hv => lt_Put 0 [6] shV C D 1 1 8 8 0 h (by decide) hk (okB_one (by omega)) rfl (Nat.le_refl _) (by unfold maxLen; omega) hv (okB_rep 8 (by omega)) rfl (Nat.le_refl _) (by unfold maxLen; omega) (by omega) (by decide)
  rw [show tPut shT1 shM 0 [6] shV 0 = ⟨shT1, shM, 18446744073709551609, 0⟩ by kernel_rfl] at P2
  have L1 := Lib.hid fun (u : World) (gt g : Nat) C l (h : Law w (sysT gt g shT1 shM) sysO l u) hk => lt_Look 0 [6] C 1 1 h (by decide) hk (okB_one (by omega)) rfl (Nat.le_refl _) (by unfold maxLen; omega)
  rw [show tLook shT1 0 [6] = (0, 0) by kernel_rfl] at L1
  have D1 := Lib.hid fun (u : World) (gt g : Nat) C l (h : Law w (sysT gt g shT1 shM) sysO l u) hk => lt_Drop 0 [5] C 1 1 h (by decide) hk (okB_one (by omega)) rfl (Nat.le_refl _) (by unfold maxLen; omega)
  rw [show tDrop shT1 0 [5] = (shT2, 0, 0) by kernel_rfl] at D1
  have D2 := Lib.hid fun (u : World) (gt g : Nat) C l (h : Law w (sysT gt g shT2 shM) sysO l u) hk => lt_Drop 0 [5] C 1 1 h (by decide) hk (okB_one (by omega)) rfl (Nat.le_refl _) (by unfold maxLen; omega)
  rw [show tDrop shT2 0 [5] = (shT2, 18446744073709551614, 0) by kernel_rfl] at D2
  dsimp only at P1 P2 L1 D1 D2
  go_enter Try.func8, Try.ntmps8
  go_wp2_with fail
  refine (N.out).mono ?_
  rintro e w1 ⟨g, rfl, q1⟩
  have N2 := Lib.hid (NW.out w1 _ g q1 (below_alloc (Below.refl _ _) (.cells #[.bool true, .int .i64 1, .int .i64 8, .int .i64 1] 53)) (some ⟨w1.heap.size, 0, none⟩) (defS_one (Blk.new w1 _ _ rfl)) (fun g o e => by cases e; exact .inr (Nat.le_refl _)))
  clear q1 N NW
  go_wp2_with fail
  refine (N2.out).mono ?_
  rintro e w2 ⟨gt, rfl, q⟩
  have Q := Lib.hid (q.lay [5])
  clear q N2
  go_wp2_with fail
  refine (VA.out _).mono ?_
  rintro e w3 ⟨rfl, hb, b⟩
  replace Q := Lib.hid (Q.out.push b hb (fun g o _ e => by cases e; exact .inr (Nat.le_refl _)))
  clear hb b
  go_wp2_with fail
  refine (P1.out _ _ _ _ _ _ Q.out (by simp) (by simp [shV])).mono ?_
  rintro e w4 ⟨rfl, q⟩
  replace Q := Lib.hid ((q.drop (l' := []) (fun p hp => by cases hp)).lay [6])
  clear q P1
  go_wp2_with fail
  refine (VA.out _).mono ?_
  rintro e w5 ⟨rfl, hb, b⟩
  replace Q := Lib.hid (Q.out.push b hb (fun g o _ e => by cases e; exact .inr (Nat.le_refl _)))
  clear hb b
  go_wp2_with fail
  refine (P2.out _ _ _ _ _ _ Q.out (by simp) (by simp [shV])).mono ?_
  rintro e w6 ⟨rfl, q⟩
  replace Q := Lib.hid ((q.drop (l' := []) (fun p hp => by cases hp)).lay [6])
  clear q P2
  go_wp2_with fail
  refine (L1.out _ _ _ _ _ Q.out (by simp)).mono ?_
  rintro e w7 ⟨rfl, b⟩
  replace Q := Lib.hid (((Q.out.after b).drop (l' := []) (fun p hp => by cases hp)).lay [5])
  clear b L1
  go_wp2_with fail
  refine (D1.out _ _ _ _ _ Q.out (by simp)).mono ?_
  rintro e w8 ⟨rfl, q⟩
  replace Q := Lib.hid ((q.drop (l' := []) (fun p hp => by cases hp)).lay [5])
  clear q D1
  go_wp2_with fail
  refine (D2.out _ _ _ _ _ Q.out (by simp)).mono ?_
  rintro e w9 ⟨rfl, q⟩
  replace Q := Lib.hid q
  clear q D2
  go_wp2_with fail
  go_ret
  exact ⟨rfl, Q.out.below⟩

end Go.Proofs.Ytempkpfcjonaaaa


/-
  Layer 9: rows and blocks of a law's own beside a system; keys with two bytes more.
  Conditions: none.
-/
namespace Go.Proofs.Ytempkpfcjonaaaa
open Go.RowKit
set_option maxRecDepth 100000
set_option linter.unusedVariables false
set_option linter.unusedSimpArgs false

/-- A row of cells of its own. -/
def sysR (base : Nat) (e : TypeId) (size : Nat) (v : Value) (n : Nat) (xs : List Value) : Sys := ⟨fun w F => w.ownsRow base e size v n xs ∧ ∀ x, F x ↔ v.ownBlock = some x,
  fun h hs => ⟨own_same h.1 (fun k hk => hs k ((h.2 k).2 hk)), h.2⟩, fun h c => own_lt h.1 ((h.2 _).1 c)⟩
theorem Law.row {w0 w u : World} {A : Sys} {l : List (Option Addr × List Int)} {e : TypeId} {size n : Nat} {v : Value} {xs : List Value} (h : Law w0 A sysO l w) (b : Below w.heap.size w u) (ho : u.ownsRow w.heap.size e size v n xs) : Law w0 A (sysR w.heap.size e size v n xs) l u := by
  obtain ⟨hb, F, G, hA, hB, hd, hn, hk⟩ := h
  have hlow : ∀ x, v.ownBlock = some x → w.heap.size ≤ x := fun x hx => (ho.lt x hx).1
  refine ⟨below_next' hb b, F, fun x => v.ownBlock = some x, A.keep hA (fun x hx => b.block x (A.lt hA hx)), ⟨ho, fun x => Iff.rfl⟩, fun x hx hG => ?_, fun x hx => ?_, fun p hp => ?_⟩
  · have := A.lt hA hx; have := hlow x hG; omega
  · rcases hx with c | c
    · exact hn x (.inl c)
    · have := hlow x c; have := hb.size; omega
  · refine (hk p hp).on (Turn.of_below b) (fun x hx => ?_)
    rcases hx with c | c
    · exact .inl (.inl c)
    · exact .inr (hlow x c)
theorem Law.rowOf {w0 w : World} {A : Sys} {l : List (Option Addr × List Int)} {base : Nat} {e : TypeId} {size n : Nat} {v : Value} {xs : List Value} (h : Law w0 A (sysR base e size v n xs) l w) : w.ownsRow base e size v n xs := by
  obtain ⟨_, _, _, _, hB, _⟩ := h
  exact hB.1
theorem Law.size {w0 w : World} {A B : Sys} {l : List (Option Addr × List Int)} (h : Law w0 A B l w) : w0.heap.size ≤ w.heap.size := h.below.size

/-- A system, and one block more that stays. -/
def sysK (B : Sys) (k : Nat) (cs : Array Value) (t : TypeId) : Sys := ⟨fun w F => Blk k cs t w ∧ ∃ F1, B.R w F1 ∧ ∀ x, F x ↔ F1 x ∨ x = k,
  fun h hs => ⟨Blk.same h.1 (by obtain ⟨_, F1, _, h3⟩ := h; exact hs k ((h3 k).2 (.inr rfl))), by
    obtain ⟨_, F1, h2, h3⟩ := h
    exact ⟨F1, B.keep h2 (fun x hx => hs x ((h3 x).2 (.inl hx))), h3⟩⟩, fun h c => by
    obtain ⟨h1, F1, h2, h3⟩ := h
    rcases (h3 _).1 c with c | rfl
    · exact B.lt h2 c
    · exact h1.lt⟩
theorem Law.hold {w0 w u : World} {A B : Sys} {l : List (Option Addr × List Int)} {k : Nat} {cs : Array Value} {t : TypeId} (h : Law w0 A B l w) (b : Below w.heap.size w u) (ho : Blk k cs t u) (hk : w.heap.size ≤ k) : Law w0 A (sysK B k cs t) l u := by
  obtain ⟨hb, F, G, hA, hB, hd, hn, hl⟩ := h
  refine ⟨below_next' hb b, F, fun x => G x ∨ x = k, A.keep hA (fun x hx => b.block x (A.lt hA hx)), ⟨ho, G, B.keep hB (fun x hx => b.block x (B.lt hB hx)), fun x => Iff.rfl⟩, fun x hx hG => ?_, fun x hx => ?_, fun p hp => ?_⟩
  · rcases hG with c | c
    · exact hd x hx c
    · have := A.lt hA hx; omega
  · rcases hx with c | c | c
    · exact hn x (.inl c)
    · exact hn x (.inr c)
    · have := hb.size; omega
  · refine (hl p hp).on (Turn.of_below b) (fun x hx => ?_)
    rcases hx with c | c | c
    · exact .inl (.inl c)
    · exact .inl (.inr c)
    · exact .inr (by omega)
theorem Law.held {w0 w : World} {A B : Sys} {l : List (Option Addr × List Int)} {k : Nat} {cs : Array Value} {t : TypeId} (h : Law w0 A (sysK B k cs t) l w) : Blk k cs t w := by
  obtain ⟨_, _, _, _, hB, _⟩ := h
  exact hB.1
theorem Law.free {w0 w : World} {A B : Sys} {l : List (Option Addr × List Int)} {k : Nat} {cs : Array Value} {t : TypeId} (h : Law w0 A (sysK B k cs t) l w) : Law w0 A B l w := by
  obtain ⟨hb, F, G, hA, ⟨_, G1, hB, hG⟩, hd, hn, hl⟩ := h
  refine ⟨hb, F, G1, hA, hB, fun x hx c => hd x hx ((hG x).2 (.inl c)), fun x hx => hn x (hx.imp id fun c => (hG x).2 (.inl c)), fun p hp => (hl p hp).on (Turn.refl _ _) (fun x hx => .inl (hx.imp id fun c => (hG x).2 (.inl c)))⟩

/-- Bytes, padded by two zeros: 'append(append([]byte{}, k...), 0, 0)'. -/
theorem pad_two (u : World) (B : Option Addr) (n d : Nat) (k : List Int) (hB : BytS u B k) (hn : n = k.length) (hs : n ≤ 80) :
    ∃ v1 w2 g c w3, (Builtin.append_ #[40, 40] 40 #[.slice (some ⟨u.heap.size, 0, none⟩) 0 0, .slice B n d]).run Try.prog (u.alloc (.cells #[] 5)) = .ok v1 w2 ∧
      (Builtin.append_ #[40, 40] 40 #[v1, .slice (some ⟨w2.heap.size, 0, none⟩) 2 2]).run Try.prog (w2.alloc (.cells #[.int .u8 0, .int .u8 0] 5)) = .ok (.slice (some ⟨g, 0, none⟩) (n + 2) c) w3 ∧
      w3.ownsRow u.heap.size 5 1 (.slice (some ⟨g, 0, none⟩) (n + 2) c) (n + 2) (byC (k ++ [0, 0])) ∧ Below u.heap.size u w3 ∧ n + 2 ≤ c ∧ c ≤ maxLen ∧ u.heap.size ≤ g := by
  obtain ⟨i0, hi0, hz, h1, h2⟩ := info_parts (show (Try.prog.info? 5).map (fun i => (i.zero, i.size, i.bytes)) = some (some (.int .u8 0), 1, 1) by kernel_rfl)
  have OWN0 := World.ownsRow_made (base := u.heap.size) (e := 5) (size := 1) u #[] 0 (Nat.le_refl _) (Nat.zero_le _) rfl
  have V0 : Below u.heap.size u (u.alloc (.cells #[] 5)) := below_alloc (Below.refl _ _) _
  obtain ⟨v1, w2, hr1, ho1, hg1⟩ := copy_bytes (u.alloc (.cells #[] 5)) u.heap.size u.heap.size B n d k 40 OWN0 (hB.after V0) hn (by omega) (by simp)
  have V2 : Below u.heap.size u w2 := V0.grown hg1 V0.size (fun k hk => by cases hk; exact Nat.le_refl _)
  have hnew : ∀ j x, (byC [0, 0])[j]? = some x → (w2.alloc (.cells #[.int .u8 0, .int .u8 0] 5)).cell? ((⟨w2.heap.size, 0, none⟩ : Addr).add j) = some x := by
    have q := World.news_of_block (w := w2.alloc (.cells #[.int .u8 0, .int .u8 0] 5)) (t := 5) (fr := (0, 0)) (heap_alloc_new w2 (.cells #[.int .u8 0, .int .u8 0] 5))
    exact q
  have V3 : Below u.heap.size u (w2.alloc (.cells #[.int .u8 0, .int .u8 0] 5)) := below_alloc V2 _
  have ho1' := ho1.alloc (.cells #[.int .u8 0, .int .u8 0] 5)
  obtain ⟨v2, w3, hr2, ho2, hg2, _⟩ := run_append_own (P := Try.prog) (w2.alloc (.cells #[.int .u8 0, .int .u8 0] 5)) u.heap.size 40 40 5 i0 (.int .u8 0) 1 1 Try.underlying40 hi0 hz h1 h2 rfl (by omega) v1 n (byC k) ho1' ⟨w2.heap.size, 0, none⟩ 2 2 (byC [0, 0]) rfl hnew (byC_one [0, 0]) (by unfold maxLen; omega) (by omega) V3.size
  rw [← byC_app] at ho2
  obtain ⟨A, c, rfl, hc1, hc2⟩ := own_slice ho2
  obtain ⟨g, rfl, hg, _⟩ := own_addr ho2 (by omega)
  exact ⟨v1, w2, g, c, w3, hr1, hr2, ho2, below_own V3 ho1' V3.size hg2, hc1, hc2, hg⟩
theorem pad_key (k : List Int) (hk : OkB k) : ∃ a b rest, k ++ [0, 0] = a :: b :: rest ∧ (0 ≤ a ∧ a ≤ 255) ∧ (0 ≤ b ∧ b ≤ 255) := by
  match k, hk with
  | [], _ => exact ⟨0, 0, [], rfl, by omega, by omega⟩
  | [x], h => exact ⟨x, 0, [0], rfl, h 0 (by simp), by omega⟩
  | x :: y :: r, h => exact ⟨x, y, r ++ [0, 0], rfl, h 0 (by simp), h 1 (by simp)⟩
/-- The first two of a padded row, the first one turned. -/
theorem pad_set {w : World} {g n c base : Nat} {a b y : Int} {rest : List Int} (h : w.ownsRow base 5 1 (.slice (some ⟨g, 0, none⟩) n c) n (byC (a :: b :: rest))) (hn : 2 ≤ n) :
    w.cell? ⟨g, 0, none⟩ = some (.int .u8 a) ∧ w.frozen? ⟨g, 0, none⟩ = false ∧ BytS (w.setCell ⟨g, 0, none⟩ (.int .u8 y)) (some ⟨g, 0, none⟩) [y, b] := by
  have c0 := h.cellAt 0 (by omega)
  have c1 := h.cellAt 1 (by omega)
  refine ⟨c0, h.frozenAt 0, fun _ => ?_⟩
  have s := (h.stored 0 (.int .u8 y)).1
  obtain ⟨g', e, _, hg⟩ := own_addr s (by omega)
  have eg : g = g' := by simpa using e
  subst eg
  refine ⟨g, 0, rfl, hg, fun j hj => ?_⟩
  have sj := s.cellAt j (by simp at hj; omega)
  rw [Nat.zero_add, sj]
  match j, hj with
  | 0, _ => rfl
  | 1, _ => rfl
theorem okB_two {x y : Int} (hx : 0 ≤ x ∧ x ≤ 255) (hy : 0 ≤ y ∧ y ≤ 255) : OkB [x, y] := fun k hk => by
  match k, hk with
  | 0, _ => exact hx
  | 1, _ => exact hy

theorem iAt_mem {l : List It} {k : Nat} (h : k < l.length) : iAt l k ∈ l := by
  unfold iAt
  rw [List.getD_eq_getElem?_getD, List.getElem?_eq_getElem h]
  exact List.getElem_mem h
theorem mem_iAt {l : List It} {p : It} (h : p ∈ l) : ∃ k, k < l.length ∧ p = iAt l k := by
  obtain ⟨k, hk, e⟩ := List.getElem_of_mem h
  refine ⟨k, hk, ?_⟩
  unfold iAt
  rw [List.getD_eq_getElem?_getD, List.getElem?_eq_getElem hk]
  exact e.symm
theorem and_one (y : Int) (h : 0 ≤ y ∧ y ≤ 255) : 0 ≤ bits BinOp.and IntKind.u8 y 1 ∧ bits BinOp.and IntKind.u8 y 1 ≤ 1 := by
  obtain ⟨k, rfl⟩ : ∃ k : Nat, y = k := ⟨y.toNat, by omega⟩
  have h2 : k < 256 := by omega
  have all : ∀ k : Fin 256, 0 ≤ bits BinOp.and IntKind.u8 ((k.val : Nat) : Int) 1 ∧ bits BinOp.and IntKind.u8 ((k.val : Nat) : Int) 1 ≤ 1 := by decide +kernel
  exact all ⟨k, h2⟩

end Go.Proofs.Ytempkpfcjonaaaa


/-
  Layer 9: two systems and rows of the law's own, all in one world.
  Conditions: none.
-/
namespace Go.Proofs.Ytempkpfcjonaaaa
open Go.RowKit
set_option maxRecDepth 100000
set_option linter.unusedVariables false
set_option linter.unusedSimpArgs false

/-- Two systems beside one another. -/
def sysP (X Y : Sys) : Sys := ⟨fun w F => ∃ F1 F2, X.R w F1 ∧ Y.R w F2 ∧ (∀ x, F1 x → ¬ F2 x) ∧ ∀ x, F x ↔ F1 x ∨ F2 x,
  fun h hs => by
    obtain ⟨F1, F2, h1, h2, h3, h4⟩ := h
    exact ⟨F1, F2, X.keep h1 (fun x hx => hs x ((h4 x).2 (.inl hx))), Y.keep h2 (fun x hx => hs x ((h4 x).2 (.inr hx))), h3, h4⟩, fun h c => by
    obtain ⟨F1, F2, h1, h2, h3, h4⟩ := h
    rcases (h4 _).1 c with c | c
    · exact X.lt h1 c
    · exact Y.lt h2 c⟩
section
variable {w0 w u : World} {A X X' Y : Sys} {l : List (Option Addr × List Int)}
/-- The second slot's first system's turn. -/
theorem Law.fst {f : FuncId} {args : Array Value} {v : Value} (h : Law w0 A (sysP X Y) l w) (H : ∀ F, X.R w F → (∀ p ∈ l, Keep F w p.1 p.2) → (∀ x, F x → w0.heap.size ≤ x) → Calls Try.prog f args w (OpS X' F v w)) :
    Calls Try.prog f args w (fun e w' => e = .returned v ∧ Law w0 A (sysP X' Y) l w') :=
  h.two fun F hR hK hlow => by
    obtain ⟨F1, F2, h1, h2, h3, h4⟩ := hR
    refine (H F1 h1 (fun p hp u t => hK p hp u (t.mono fun x hx => .inl ((h4 x).2 (.inl hx)))) (fun x hx => hlow x ((h4 x).2 (.inl hx)))).mono ?_
    rintro e w' ⟨he, F', hX', t, hf⟩
    refine ⟨he, fun x => F' x ∨ F2 x, ⟨F', F2, hX', Y.keep h2 (fun x hx => t.block x (Y.lt h2 hx) (fun c => h3 x c hx)), fun x hx c => ?_, fun x => Iff.rfl⟩, t.mono (fun x hx => .inl ((h4 x).2 (.inl hx))), fun x hx => ?_⟩
    · rcases hf x hx with d | d
      · exact h3 x d c
      · have := Y.lt h2 c; omega
    · rcases hx with c | c
      · exact (hf x c).imp (fun d => (h4 x).2 (.inl d)) id
      · exact .inl ((h4 x).2 (.inr c))
/-- A row of the law's own, new, beside the second system. -/
theorem Law.rowP {e : TypeId} {size n : Nat} {v : Value} {xs : List Value} (h : Law w0 A X l w) (b : Below w.heap.size w u) (ho : u.ownsRow w.heap.size e size v n xs) : Law w0 A (sysP X (sysR w.heap.size e size v n xs)) l u := by
  obtain ⟨hb, F, G, hA, hB, hd, hn, hk⟩ := h
  have hlow : ∀ x, v.ownBlock = some x → w.heap.size ≤ x := fun x hx => (ho.lt x hx).1
  refine ⟨below_next' hb b, F, fun x => G x ∨ v.ownBlock = some x, A.keep hA (fun x hx => b.block x (A.lt hA hx)), ⟨G, fun x => v.ownBlock = some x, X.keep hB (fun x hx => b.block x (X.lt hB hx)), ⟨ho, fun x => Iff.rfl⟩, fun x hx c => ?_, fun x => Iff.rfl⟩, fun x hx hG => ?_, fun x hx => ?_, fun p hp => ?_⟩
  · have := X.lt hB hx; have := hlow x c; omega
  · rcases hG with c | c
    · exact hd x hx c
    · have := A.lt hA hx; have := hlow x c; omega
  · rcases hx with c | c | c
    · exact hn x (.inl c)
    · exact hn x (.inr c)
    · have := hlow x c; have := hb.size; omega
  · refine (hk p hp).on (Turn.of_below b) (fun x hx => ?_)
    rcases hx with c | c | c
    · exact .inl (.inl c)
    · exact .inl (.inr c)
    · exact .inr (hlow x c)
theorem Law.rowPOf {base : Nat} {e : TypeId} {size n : Nat} {v : Value} {xs : List Value} (h : Law w0 A (sysP X (sysR base e size v n xs)) l w) : w.ownsRow base e size v n xs := by
  obtain ⟨_, _, _, _, ⟨_, _, _, h2, _⟩, _⟩ := h
  exact h2.1
/-- One block more, new, beside the rows. -/
theorem Law.holdP {k : Nat} {cs : Array Value} {t : TypeId} (h : Law w0 A (sysP X Y) l w) (b : Below w.heap.size w u) (ho : Blk k cs t u) (hk : w.heap.size ≤ k) : Law w0 A (sysP X (sysK Y k cs t)) l u := by
  obtain ⟨hb, F, G, hA, ⟨F1, F2, h1, h2, h3, h4⟩, hd, hn, hl⟩ := h
  have g4 : ∀ x, G x ∨ x = k ↔ F1 x ∨ (F2 x ∨ x = k) := fun x => by rw [h4 x, or_assoc]
  refine ⟨below_next' hb b, F, fun x => G x ∨ x = k, A.keep hA (fun x hx => b.block x (A.lt hA hx)), ⟨F1, fun x => F2 x ∨ x = k, X.keep h1 (fun x hx => b.block x (X.lt h1 hx)), ⟨ho, F2, Y.keep h2 (fun x hx => b.block x (Y.lt h2 hx)), fun x => Iff.rfl⟩, fun x hx c => ?_, g4⟩, fun x hx hG => ?_, fun x hx => ?_, fun p hp => ?_⟩
  · rcases c with c | c
    · exact h3 x hx c
    · have := X.lt h1 hx; omega
  · rcases hG with c | c
    · exact hd x hx c
    · have := A.lt hA hx; omega
  · rcases hx with c | c | c
    · exact hn x (.inl c)
    · exact hn x (.inr c)
    · have := hb.size; omega
  · refine (hl p hp).on (Turn.of_below b) (fun x hx => ?_)
    rcases hx with c | c | c
    · exact .inl (.inl c)
    · exact .inl (.inr c)
    · exact .inr (by omega)
theorem Law.heldP {k : Nat} {cs : Array Value} {t : TypeId} (h : Law w0 A (sysP X (sysK Y k cs t)) l w) : Blk k cs t w := by
  obtain ⟨_, _, _, _, ⟨_, _, _, h2, _⟩, _⟩ := h
  exact h2.1
theorem Law.freeP {k : Nat} {cs : Array Value} {t : TypeId} (h : Law w0 A (sysP X (sysK Y k cs t)) l w) : Law w0 A (sysP X Y) l w := by
  obtain ⟨hb, F, G, hA, ⟨F1, F2, h1, ⟨_, G1, hY, hG⟩, h3, h4⟩, hd, hn, hl⟩ := h
  have sub : ∀ x, F1 x ∨ G1 x → G x := fun x hx => (h4 x).2 (hx.imp id fun c => (hG x).2 (.inl c))
  exact ⟨hb, F, fun x => F1 x ∨ G1 x, hA, ⟨F1, G1, h1, hY, fun x hx c => h3 x hx ((hG x).2 (.inl c)), fun x => Iff.rfl⟩, fun x hx c => hd x hx (sub x c), fun x hx => hn x (hx.imp id (sub x)), fun p hp => (hl p hp).on (Turn.refl _ _) (fun x hx => .inl (hx.imp id (sub x)))⟩
end
section
variable {w0 w : World} {A Y : Sys} {l : List (Option Addr × List Int)} {gt gm : Nat} {T : TT} {M : PM}
theorem lp_Put (i : Int) (key val : List Int) (C D : Option Addr) (n d m c : Nat) (fl : Int) (h : Law w0 A (sysP (sysT gt gm T M) Y) l w) (hT1 : T.length ≤ 1000) (hk : (C, key) ∈ l) (hok : OkB key) (hn : key.length = n) (hnd : n ≤ d) (hdm : d ≤ maxLen) (hv : (D, val) ∈ l) (hov : OkB val) (hvn : val.length = m) (hmc : m ≤ c) (hcm : c ≤ maxLen) (hfl : 0 ≤ fl ∧ fl ≤ 18446744073709551615) (hM : M.length ≤ 100000) :
    Calls Try.prog 25 #[.pointer (some ⟨gt, 0, none⟩), .int .i64 i, .slice C n d, .slice D m c, .int .u64 fl] w (fun e w' => e = .returned (.tuple #[.int .u64 (tPut T M i key val fl).n, .int .i64 (tPut T M i key val fl).e]) ∧ Law w0 A (sysP (sysT gt gm (tPut T M i key val fl).T (tPut T M i key val fl).M) Y) l w') :=
  h.fst fun H hR hK hlow => by
    obtain ⟨F, G, hD, hH⟩ := hR
    have kk : ∀ {C : Option Addr} {x : List Int}, (C, x) ∈ l → Keep (fun x => F x ∨ G x) w C x := fun hm u t => hK _ hm u (t.mono fun x hx => .inl ((hH x).2 hx))
    exact (q9_Put w gt gm T M F G i key val C D n d m c fl hD hT1 (kk hk) hok hn hnd hdm (kk hv) hov hvn hmc hcm hfl hM).mono fun e w' hw => opT_put hH hw
theorem lp_Drop (i : Int) (key : List Int) (C : Option Addr) (n d : Nat) (h : Law w0 A (sysP (sysT gt gm T M) Y) l w) (hT1 : T.length ≤ 1000) (hk : (C, key) ∈ l) (hok : OkB key) (hn : key.length = n) (hnd : n ≤ d) (hdm : d ≤ maxLen) :
    Calls Try.prog 23 #[.pointer (some ⟨gt, 0, none⟩), .int .i64 i, .slice C n d] w (fun e w' => e = .returned (.tuple #[.int .u64 (tDrop T i key).2.1, .int .i64 (tDrop T i key).2.2]) ∧ Law w0 A (sysP (sysT gt gm (tDrop T i key).1 M) Y) l w') :=
  h.fst fun H hR hK hlow => by
    obtain ⟨F, G, hD, hH⟩ := hR
    refine (q9_Drop w gt gm T F i key C n d hD.maps hT1 (hK _ hk).at_ hok hn hnd hdm).mono ?_
    rintro e w' ⟨he, F', h1, h2, h3⟩
    refine ⟨he, fun x => F' x ∨ G x, ⟨F', G, ⟨h1, ?_, fun x hx hG => ?_⟩, fun x => Iff.rfl⟩, h2.mono (fun x hx => .inl ((hH x).2 (.inl hx))), fun x hx => ?_⟩
    · obtain ⟨vl2, L2, e2, h4⟩ := hD.mem
      exact ⟨vl2, L2, e2, h4.keep fun x hx => h2.block x (h4.lt hx) (fun c => hD.apart x c hx)⟩
    · rcases h3 x hx with c | c
      · exact hD.apart x c hG
      · have := hD.mem.lt hG; omega
    · rcases hx with c | c
      · exact (h3 x c).imp (fun d => (hH x).2 (.inl d)) id
      · exact .inl ((hH x).2 (.inr c))
theorem lp_Items (i : Int) (h : Law w0 A (sysP (sysT gt gm T M) Y) l w) (hT1 : T.length ≤ 1000) :
    Calls Try.prog 17 #[.pointer (some ⟨gt, 0, none⟩), .int .i64 i] w (ItemsW (tItems T M i) w) := by
  obtain ⟨_, _, H, _, ⟨_, _, ⟨F, G, hD, _⟩, _⟩, _⟩ := h
  exact q9_Items w gt gm T M F G i hD hT1
theorem Law.okP (h : Law w0 A (sysP (sysT gt gm T M) Y) l w) : TFull T ∧ PMok M := by
  obtain ⟨_, _, H, _, ⟨_, _, ⟨F, G, hD, _⟩, _⟩, _⟩ := h
  obtain ⟨vl, L, rfl, _, h2, _⟩ := hD.maps
  exact ⟨h2, hD.mem.ok⟩
end

end Go.Proofs.Ytempkpfcjonaaaa


/-
  Layer 9: items that are told, and what is given, as laws hand them on.
  Conditions: none.
-/
namespace Go.Proofs.Ytempkpfcjonaaaa
open Go.RowKit
set_option maxRecDepth 100000
set_option linter.unusedVariables false
set_option linter.unusedSimpArgs false

theorem items_okI {T : TT} {M : PM} {i : Int} (hT : TOk T) (hM : PMok M) : OkI (tItems T M i) := by
  have all : ∀ p ∈ tItems T M i, OkB p.1 ∧ OkB p.2 := fun p hp => by
    unfold tItems at hp
    split at hp
    · rename_i hi
      obtain ⟨y, hy, rfl⟩ := List.mem_map.1 hp
      refine ⟨((hT i.toNat (by omega)).keys y hy).1, ?_⟩
      dsimp only
      unfold pArea
      cases hx : pIx M (tArea i y.s) with
      | none => exact fun k hk => absurd hk (by simp)
      | some k => exact (hM k (pIx_some hx).1).1
    · cases hp
  exact fun k hk => all _ (iAt_mem hk)
theorem itemsW_ok {l : List It} {w w' : World} {e : Ending} (h : ItemsW l w e w') : ∃ A c, e = .returned (.slice A l.length c) ∧ ItemS w' A l ∧ l.length ≤ c ∧ c ≤ maxLen ∧ Below w.heap.size w w' := by
  obtain ⟨A, c, X, he, hX, hR, b⟩ := h
  obtain ⟨_, _, e1, h1, h2⟩ := own_slice hR.row
  injection e1 with ea eb ec
  subst ec
  have hx : X.length = l.length := by rw [← hX]; simp [itL]
  exact ⟨A, c, he, (by rw [← hX]; exact hR.items.2), (by omega), h2, b⟩
theorem defS_ap {u : World} {g : Nat} (hb : Blk g #[.bool true, .int .i64 1, .int .i64 8, .int .i64 3, .bool true, .int .i64 1, .int .i64 8, .int .i64 3, .bool false, .int .i64 4, .int .i64 8, .int .i64 2] 53 u) : DefS u (some ⟨g, 0, none⟩) aD := fun _ => ⟨g, 0, rfl, hb.lt, fun j hj => by
  have h3 : j < 3 := hj
  match j, h3 with
  | 0, _ => exact ⟨hb.cell 0, hb.cell 1, hb.cell 2, hb.cell 3⟩
  | 1, _ => exact ⟨hb.cell 4, hb.cell 5, hb.cell 6, hb.cell 7⟩
  | 2, _ => exact ⟨hb.cell 8, hb.cell 9, hb.cell 10, hb.cell 11⟩⟩
theorem byt_low {w : World} {C : Option Addr} {b : List Int} (h : BytS w C b) : ∀ g o, 0 < b.length → C = some ⟨g, o, none⟩ → g < w.heap.size := fun g o hl e => by
  obtain ⟨g', o', e', hg, _⟩ := h hl
  rw [e] at e'
  injection e' with e'
  injection e' with e1
  omega

end Go.Proofs.Ytempkpfcjonaaaa


/-
  Zeros appended to a row that the call made itself: 'append(s, make([]T, k)...)'. No program is named here.
  Conditions: elements of one cell and one byte; the row is not empty; few elements.
-/
namespace Go.Proofs.Ytempkpfcjonaaaa
open Go
set_option linter.unusedVariables false
set_option linter.unusedSimpArgs false

theorem zero_cells (x : Value) (k : Nat) : Builtin.zeroCells #[x] k = (List.replicate k x).toArray := by
  apply Array.ext'
  apply List.ext_getElem?
  intro j
  by_cases hj : j < k
  · simp [Builtin.zeroCells, hj, Nat.mod_one]
  · rw [List.getElem?_eq_none (by simp [Builtin.zeroCells]; omega), List.getElem?_eq_none (by simp; omega)]
theorem zeros_room {P : Program} (w : World) (t tn ty e : TypeId) (i : TypeInfo) (z x : Value) (kq kn : IntKind) (ht : P.underlying t = some (.slice e)) (htn : P.underlying tn = some (.int kn)) (hi : P.info? e = some i) (hz : i.zero = some z)
    (hsize : i.size = 1) (hby : i.bytes = 1) (hzc : z.cells = #[x]) (hx : x.oneCell' = true)
    (g n cap : Nat) (cur : Array Value) (hg : w.heap[g]? = some (.cells cur e (0, 0))) (k : Nat) (h0 : 0 < k) (hk : k ≤ 100000) (hroom : n + k ≤ cap) (hfit : n + k ≤ cur.size) :
    (Builtin.append_ #[t, tn] ty #[.slice (some ⟨g, 0, none⟩) n cap, .int kq k]).run P w =
      .ok (.slice (some ⟨g, 0, none⟩) (n + k) cap) (w.setRow g (cur.toList.take n ++ List.replicate k x ++ cur.toList.drop (n + k)).toArray) := by
  have hst := run_storeCells_at P g n e (List.replicate k x) 0 cur w hg (by simpa using hfit) (fun v hv => by rw [List.eq_of_mem_replicate hv]; exact hx)
  simp only [Nat.add_zero, List.length_replicate] at hst
  have hk0 : k ≠ 0 := by omega
  have hw : IntKind.i64.wrap (k : Int) = k := by rw [IntKind.wrap_i64]; omega
  have h48i : ¬ (281474976710656 < (k : Int)) := by omega
  have hneg : ¬ ((k : Int) < 0) := by omega
  simp [Builtin.append_, run_underlying ht, run_underlying htn, sizeOf, typeInfo, zeroValue, hi, hz, asInt, asIntOf, hw, hneg, hk0, h48i, hsize, hby, hroom, hzc, zero_cells, Addr.add_lit, hst]
theorem zeros_own {P : Program} (w : World) (base : Nat) (t tn ty e : TypeId) (i : TypeInfo) (z x : Value) (kq kn : IntKind) (ht : P.underlying t = some (.slice e)) (htn : P.underlying tn = some (.int kn)) (hi : P.info? e = some i) (hz : i.zero = some z)
    (hsize : i.size = 1) (hby : i.bytes = 1) (hzc : z.cells = #[x]) (hx : x.oneCell' = true)
    (v : Value) (n : Nat) (xs : List Value) (hown : w.ownsRow base e 1 v n xs) (hn : 0 < n) (k : Nat) (h0 : 0 < k) (hk : n + k ≤ 100000) (hbase : base ≤ w.heap.size) :
    ∃ v' w', (Builtin.append_ #[t, tn] ty #[v, .int kq k]).run P w = .ok v' w' ∧ w'.ownsRow base e 1 v' (n + k) (xs ++ List.replicate k x) ∧ w.grownBy w' v.ownBlock := by
  have hlen : (xs ++ List.replicate k x).length = (n + k) * 1 := by rw [List.length_append, hown.1, List.length_replicate]; omega
  rcases hown.2 with ⟨rfl, rfl⟩ | ⟨g, cap, cur, rfl, hbg, hg, hnc, hcm, hcs, htake⟩
  · omega
  · by_cases hroom : n + k ≤ cap
    · have hr := zeros_room (P := P) w t tn ty e i z x kq kn ht htn hi hz hsize hby hzc hx g n cap cur hg k h0 (by omega) hroom (by omega)
      refine ⟨_, _, hr, ⟨hlen, .inr ⟨g, cap, _, rfl, hbg, setRow_heap w g cur _ e _ hg, hroom, hcm, ?_, ?_⟩⟩, ⟨rfl, rfl, rfl, by simp, fun k _ hk => setRow_other w g k _ (fun e => hk (by simp [Value.ownBlock, e]))⟩⟩
      · simp only [List.size_toArray, List.length_append, List.length_take, List.length_drop, Array.length_toList, List.length_replicate]
        omega
      · rw [Nat.mul_one] at htake
        rw [htake, ← hlen]
        exact List.take_left
    · have holds : ∀ j u, xs[j]? = some u → w.cell? ((⟨g, 0, none⟩ : Addr).add j) = some u := hown.cells (g := g) rfl
      have hold : (Builtin.firstCells i.size n (.slice (some ⟨g, 0, none⟩) n cap)).run P w.drew = .ok xs.toArray w.drew :=
        run_firstCells_some w.drew i.size n ⟨g, 0, none⟩ n cap xs (by rw [hsize]; exact hown.1) (by simpa using holds)
      have hr := Lib.run_append_grow_zeros (P := P) w t tn ty e i z kq kn ht htn hi hz (some ⟨g, 0, none⟩) n cap xs hold k h0 (by omega) (by omega) (by omega) (by rw [hby]; omega) (growslice_fits (by omega) (by rw [hby]; omega))
      rw [hzc, zero_cells, zero_cells] at hr
      have hge := grownCap_ge w (n + k) cap e
      have hcm' : grownCap w (n + k) cap e ≤ maxLen := grownCap_le_maxLen w (n + k) cap e (by unfold maxLen; omega)
      refine ⟨_, _, hr, ⟨hlen, .inr ⟨w.heap.size, _, _, rfl, hbase, heap_alloc_new w.drew _, hge, hcm', ?_, ?_⟩⟩, ⟨rfl, rfl, rfl, by simp, fun k hk _ => by first | exact heap_alloc_old w.drew _ k hk | exact heap_alloc_old _ _ hk | exact heap_alloc_old hk⟩⟩
      · simp only [Array.size_append, List.size_toArray, List.length_replicate, hown.1]
        omega
      · simp only [Array.toList_append]
        rw [← hlen]
        exact List.take_left

end Go.Proofs.Ytempkpfcjonaaaa


/-
  TableKeeps: a map of the language beside a system of the program's; keys filled up by zeros; the arguments.
  Conditions: few bytes.
-/
namespace Go.Proofs.Ytempkpfcjonaaaa
open Go Go.RowKit
open Go.Maps (Keyed)
set_option maxRecDepth 100000
set_option linter.unusedVariables false
set_option linter.unusedSimpArgs false

theorem blk_four {g : Nat} {a b c d : Value} {t : TypeId} {w : World} (h : Blk g #[a, b, c, d] t w) :
    (w.cell? ⟨g, 0, none⟩ = some a ∧ w.cell? ⟨g, 1, none⟩ = some b ∧ w.cell? ⟨g, 2, none⟩ = some c ∧ w.cell? ⟨g, 3, none⟩ = some d) ∧
    (w.frozen? ⟨g, 0, none⟩ = false ∧ w.frozen? ⟨g, 1, none⟩ = false ∧ w.frozen? ⟨g, 2, none⟩ = false ∧ w.frozen? ⟨g, 3, none⟩ = false) :=
  ⟨⟨Blk.cell h 0, Blk.cell h 1, Blk.cell h 2, Blk.cell h 3⟩, Blk.free h 0, Blk.free h 1, Blk.free h 2, Blk.free h 3⟩
/-- A map of strings of the law's own. -/
def sysMp (b n : Nat) (m : Lit → Option Value) : Sys := ⟨fun w F => MapIs Try.prog 9 w b n m ∧ ∀ x, F x ↔ x = b,
  fun h hs => ⟨h.1.same (hs b ((h.2 b).2 rfl)), h.2⟩, fun h c => by
    have e := (h.2 _).1 c
    subst e
    exact h.1.lt⟩
section
variable {w0 w w' : World} {A B B' X Y : Sys} {l : List (Option Addr × List Int)} {b n n' : Nat} {m m' : Lit → Option Value}
theorem Law.turnB (h : Law w0 A B l w) (H : ∀ G, B.R w G → ∃ G', B'.R w' G' ∧ Turn G w w' ∧ ∀ x, G' x → G x ∨ w.heap.size ≤ x) : Law w0 A B' l w' := by
  obtain ⟨hb, F, G, hA, hB, hd, hn, hk⟩ := h
  obtain ⟨G', hB', t, hf⟩ := H G hB
  have hsz := hb.size
  refine ⟨Turn.on hb t hsz (fun x hx => hn x (.inr hx)), F, G', A.keep hA (fun x hx => t.block x (A.lt hA hx) (fun c => hd x hx c)), hB', fun x hx hG => ?_, fun x hx => ?_, fun p hp => ?_⟩
  · rcases hf x hG with c | c
    · exact hd x hx c
    · have := A.lt hA hx; omega
  · rcases hx with hx | hx
    · exact hn x (.inl hx)
    · rcases hf x hx with c | c
      · exact hn x (.inr c)
      · omega
  · refine (hk p hp).on (t.mono fun x hx => .inl (.inr hx)) (fun x hx => ?_)
    rcases hx with hx | hx
    · exact .inl (.inl hx)
    · exact (hf x hx).imp .inr id
theorem Law.mapNew (h : Law w0 A sysO l w) : Law w0 A (sysMp w.heap.size 0 (fun _ => none)) l (w.alloc (.map #[] 0)) := by
  have hb := below_alloc (Below.refl w.heap.size w) (.map #[] 0)
  refine h.turnB fun G hG => ⟨fun x => x = w.heap.size, ⟨mapIs_made w _ _, fun x => Iff.rfl⟩, Turn.of_below hb, fun x hx => .inr (by rw [hx]; exact Nat.le_refl _)⟩
theorem Law.mapIs (h : Law w0 A (sysP (sysMp b n m) Y) l w) : MapIs Try.prog 9 w b n m := by
  obtain ⟨_, _, _, _, ⟨F1, F2, h1, _⟩, _⟩ := h
  exact h1.1
theorem Law.mapTurn (h : Law w0 A (sysP (sysMp b n m) Y) l w) (hm : MapIs Try.prog 9 w' b n' m') (hg : w.grownBy w' (some b)) : Law w0 A (sysP (sysMp b n' m') Y) l w' := by
  refine h.turnB fun G hG => ?_
  obtain ⟨F1, F2, h1, h2, h3, h4⟩ := hG
  have t : Turn (fun x => x = b) w w' := (Turn.refl _ w).grown hg (fun k hk => .inl (by cases hk; rfl))
  refine ⟨fun x => x = b ∨ F2 x, ⟨fun x => x = b, F2, ⟨hm, fun x => Iff.rfl⟩, Y.keep h2 (fun x hx => t.block x (Y.lt h2 hx) (fun c => h3 x ((h1.2 x).2 c) hx)), fun x hx c => h3 x ((h1.2 x).2 hx) c, fun x => Iff.rfl⟩, t.mono (fun x hx => .inl ((h4 x).2 (.inl ((h1.2 x).2 hx)))), fun x hx => .inl ?_⟩
  rcases hx with hx | hx
  · exact (h4 x).2 (.inl ((h1.2 x).2 hx))
  · exact (h4 x).2 (.inr hx)
theorem Law.mapMono (h : Law w0 A (sysP (sysMp b n m) Y) l w) (hn : n ≤ n') (e : ∀ kl, m' kl = m kl) : Law w0 A (sysP (sysMp b n' m') Y) l w :=
  h.mapTurn ((h.mapIs.mono hn).eq (fun kl _ => e kl)) (World.grownBy.refl w _)
end
theorem valZ : ∀ w : World, (zeroValue 9).run Try.prog w = .ok (.string ByteArray.empty) w := fun w => rfl

theorem zeros_own' {P : Program} (w : World) (base : Nat) (t tn ty e : TypeId) (i : TypeInfo) (z x : Value) (kq kn : IntKind) (ht : P.underlying t = some (.slice e)) (htn : P.underlying tn = some (.int kn)) (hi : P.info? e = some i) (hz : i.zero = some z)
    (hsize : i.size = 1) (hby : i.bytes = 1) (hzc : z.cells = #[x]) (hx : x.oneCell' = true)
    (v : Value) (n : Nat) (xs : List Value) (hown : w.ownsRow base e 1 v n xs) (hn : v ≠ .slice none 0 0) (k : Nat) (h0 : 0 < k) (hk : n + k ≤ 100000) (hbase : base ≤ w.heap.size) :
    ∃ v' w', (Builtin.append_ #[t, tn] ty #[v, .int kq k]).run P w = .ok v' w' ∧ w'.ownsRow base e 1 v' (n + k) (xs ++ List.replicate k x) ∧ w.grownBy w' v.ownBlock := by
  have hlen : (xs ++ List.replicate k x).length = (n + k) * 1 := by rw [List.length_append, hown.1, List.length_replicate]; omega
  rcases hown.2 with ⟨rfl, rfl⟩ | ⟨g, cap, cur, rfl, hbg, hg, hnc, hcm, hcs, htake⟩
  · exact absurd rfl hn
  · by_cases hroom : n + k ≤ cap
    · have hr := zeros_room (P := P) w t tn ty e i z x kq kn ht htn hi hz hsize hby hzc hx g n cap cur hg k h0 (by omega) hroom (by omega)
      refine ⟨_, _, hr, ⟨hlen, .inr ⟨g, cap, _, rfl, hbg, setRow_heap w g cur _ e _ hg, hroom, hcm, ?_, ?_⟩⟩, ⟨rfl, rfl, rfl, by simp, fun k _ hk => setRow_other w g k _ (fun e => hk (by simp [Value.ownBlock, e]))⟩⟩
      · simp only [List.size_toArray, List.length_append, List.length_take, List.length_drop, Array.length_toList, List.length_replicate]
        omega
      · rw [Nat.mul_one] at htake
        rw [htake, ← hlen]
        exact List.take_left
    · have holds : ∀ j u, xs[j]? = some u → w.cell? ((⟨g, 0, none⟩ : Addr).add j) = some u := hown.cells (g := g) rfl
      have hold : (Builtin.firstCells i.size n (.slice (some ⟨g, 0, none⟩) n cap)).run P w.drew = .ok xs.toArray w.drew :=
        run_firstCells_some w.drew i.size n ⟨g, 0, none⟩ n cap xs (by rw [hsize]; exact hown.1) (by simpa using holds)
      have hr := Lib.run_append_grow_zeros (P := P) w t tn ty e i z kq kn ht htn hi hz (some ⟨g, 0, none⟩) n cap xs hold k h0 (by omega) (by omega) (by omega) (by rw [hby]; omega) (growslice_fits (by omega) (by rw [hby]; omega))
      rw [hzc, zero_cells, zero_cells] at hr
      have hge := grownCap_ge w (n + k) cap e
      have hcm' : grownCap w (n + k) cap e ≤ maxLen := grownCap_le_maxLen w (n + k) cap e (by unfold maxLen; omega)
      refine ⟨_, _, hr, ⟨hlen, .inr ⟨w.heap.size, _, _, rfl, hbase, heap_alloc_new w.drew _, hge, hcm', ?_, ?_⟩⟩, ⟨rfl, rfl, rfl, by simp, fun k hk _ => by first | exact heap_alloc_old w.drew _ k hk | exact heap_alloc_old _ _ hk | exact heap_alloc_old hk⟩⟩
      · simp only [Array.size_append, List.size_toArray, List.length_replicate, hown.1]
        omega
      · simp only [Array.toList_append]
        rw [← hlen]
        exact List.take_left

/-- Bytes, filled up by zeros: 'append(append([]byte{}, k...), make([]byte, z)...)'. -/
theorem pad_z (u : World) (B : Option Addr) (n d z : Nat) (k : List Int) (hB : BytS u B k) (hn : n = k.length) (hs : n ≤ 80) (hz0 : 0 < z) (hz1 : z ≤ 100) :
    ∃ v1 w2 g c w3, (Builtin.append_ #[40, 40] 40 #[.slice (some ⟨u.heap.size, 0, none⟩) 0 0, .slice B n d]).run Try.prog (u.alloc (.cells #[] 5)) = .ok v1 w2 ∧
      (Builtin.append_ #[40, 3] 40 #[v1, .int .i64 (z : Int)]).run Try.prog w2 = .ok (.slice (some ⟨g, 0, none⟩) (n + z) c) w3 ∧
      w3.ownsRow u.heap.size 5 1 (.slice (some ⟨g, 0, none⟩) (n + z) c) (n + z) (byC (k ++ List.replicate z 0)) ∧ Below u.heap.size u w2 ∧ Below u.heap.size u w3 ∧ n + z ≤ c ∧ c ≤ maxLen := by
  obtain ⟨i0, hi0, hz, h1, h2⟩ := info_parts (show (Try.prog.info? 5).map (fun i => (i.zero, i.size, i.bytes)) = some (some (.int .u8 0), 1, 1) by kernel_rfl)
  have OWN0 := World.ownsRow_made (base := u.heap.size) (e := 5) (size := 1) u #[] 0 (Nat.le_refl _) (Nat.zero_le _) rfl
  have V0 : Below u.heap.size u (u.alloc (.cells #[] 5)) := below_alloc (Below.refl _ _) _
  by_cases hk : n = 0
  · have ek : k = [] := List.eq_nil_of_length_eq_zero (by omega)
    subst ek
    have hr1 := append_none' (P := Try.prog) (u.alloc (.cells #[] 5)) 40 40 5 i0 Try.underlying40 hi0 u.heap.size B n d hk
    obtain ⟨v2, w3, hr2, ho2, hg2⟩ := zeros_own' (P := Try.prog) (u.alloc (.cells #[] 5)) u.heap.size 40 3 40 5 i0 (.int .u8 0) (.int .u8 0) .i64 .i64 Try.underlying40 Try.underlying3 hi0 hz h1 h2 rfl rfl _ 0 [] OWN0 (by simp) z hz0 (by omega) V0.size
    rw [← byC_zeros, List.nil_append, Nat.zero_add] at ho2
    subst hk
    obtain ⟨A, c, rfl, hc1, hc2⟩ := own_slice ho2
    obtain ⟨g, rfl, hg, _⟩ := own_addr ho2 (by omega)
    exact ⟨_, _, g, c, w3, hr1, by rw [Nat.zero_add]; exact hr2, by rw [Nat.zero_add, List.nil_append]; exact ho2, V0, below_own V0 OWN0 V0.size hg2, by omega, hc2⟩
  · obtain ⟨v1, w2, hr1, ho1, hg1⟩ := copy_bytes (u.alloc (.cells #[] 5)) u.heap.size u.heap.size B n d k 40 OWN0 (hB.after V0) hn (by omega) (by simp)
    have V2 : Below u.heap.size u w2 := V0.grown hg1 V0.size (fun k hk => by cases hk; exact Nat.le_refl _)
    obtain ⟨v2, w3, hr2, ho2, hg2⟩ := zeros_own' (P := Try.prog) w2 u.heap.size 40 3 40 5 i0 (.int .u8 0) (.int .u8 0) .i64 .i64 Try.underlying40 Try.underlying3 hi0 hz h1 h2 rfl rfl v1 n (byC k) ho1 (fun e => by
      subst e
      rcases ho1.2 with ⟨_, h⟩ | ⟨g, cap, cur, e, _⟩
      · omega
      · injection e with e; cases e) z hz0 (by omega) V2.size
    rw [← byC_zeros, ← byC_app] at ho2
    obtain ⟨A, c, rfl, hc1, hc2⟩ := own_slice ho2
    obtain ⟨g, rfl, hg, _⟩ := own_addr ho2 (by omega)
    exact ⟨v1, w2, g, c, w3, hr1, hr2, ho2, V2, below_own V2 ho1 V2.size hg2, hc1, hc2⟩
/-- '[]byte(s)', with its room. -/
theorem conv_bytes2 (u : World) (k : List Int) (hk : OkB k) {n : Nat} (hn : k.length = n) (hl : n ≤ 100000) :
    ∃ c w', (convert 9 40 (.string (strOfNums k))).run Try.prog u = .ok (.slice (some ⟨u.heap.size, 0, none⟩) n c) w' ∧ BytS w' (some ⟨u.heap.size, 0, none⟩) k ∧ Below u.heap.size u w' ∧ n ≤ c ∧ c ≤ maxLen := by
  subst hn
  obtain ⟨c, w', hr, ⟨hb, _⟩, bel⟩ := conv_bytes u k hk
  have hr2 := Lib.run_convert_string_bytes (P := Try.prog) u 9 40 5 (strOfNums k) Try.underlying9 Try.underlying40 Try.underlying5
  rw [str_size] at hr2
  have hc : c = grownCap u k.length 0 5 := by
    rw [hr] at hr2
    injection hr2 with h1 h2
    injection h1
  refine ⟨c, w', hr, hb, bel, by rw [hc]; exact grownCap_ge u k.length 0 _, by rw [hc]; exact grownCap_le_maxLen u k.length 0 _ (by unfold maxLen; omega)⟩
/-- The items are what the map of the language holds, by rising keys. -/
theorem keep_items {k m : Int} {T : TT} {M : PM} {n : Nat} {L : List TK} (h : Kp k m T M n L) (hT : TOk T) (hm : m ≤ 16) (hk : k ≤ 16) : (tItems T M 0).length = L.length ∧ L.length ≤ 16 ∧ (∀ j, j < L.length → (iAt (tItems T M 0) j).1.length ≤ 16) ∧
    ∀ j, j < L.length → strV M L (kLit (iAt (tItems T M 0) j).1) = some (.string (strOfNums (iAt (tItems T M 0) j).2)) ∧ (0 < j → kLt (iAt (tItems T M 0) (j - 1)).1 (iAt (tItems T M 0) j).1 = true) := by
  obtain ⟨hK, -⟩ := h.byt hT
  obtain ⟨⟨made, rfl, _⟩, _⟩ := h
  have hfew := (hT 0 (by simp)).few
  simp only [mt, List.getD_cons_zero] at hfew
  have e : tItems [(⟨kD k m, L, made⟩ : TM)] M 0 = L.map (fun x => (x.k, (pArea M (tArea 0 x.s)).1)) := by
    unfold tItems
    rw [if_pos (by simp)]
    rfl
  rw [e]
  have at_ : ∀ j (hj : j < L.length), iAt (L.map (fun x => (x.k, (pArea M (tArea 0 x.s)).1))) j = (L[j].k, (pArea M (tArea 0 L[j].s)).1) := fun j hj => by
    unfold iAt
    rw [List.getD_eq_getElem?_getD, List.getElem?_map, List.getElem?_eq_getElem hj]
    rfl
  have hkeys := (hT 0 (by simp)).keys
  simp only [mt, List.getD_cons_zero, kD] at hkeys
  refine ⟨by simp, by simp only [kD] at hfew; omega, fun j hj => ?_, fun j hj => ⟨?_, fun h0 => ?_⟩⟩
  · rw [at_ j hj]
    have := (hkeys _ (List.getElem_mem hj)).2.1
    simp only
    omega
  · rw [at_ j hj]
    simp only
    rw [strV_find hK.byt (hK.byt _ (List.getElem_mem hj))]
    cases hf : L.find? (fun x => x.k == L[j].k) with
    | none =>
      rw [List.find?_eq_none] at hf
      have := hf L[j] (List.getElem_mem hj)
      simp at this
    | some z =>
      have hz := List.mem_of_find?_eq_some hf
      have hzk := List.find?_some hf
      simp only [beq_iff_eq] at hzk
      have hzj : z = L[j] := by
        obtain ⟨i, hi, rfl⟩ := List.getElem_of_mem hz
        rcases Nat.lt_trichotomy i j with c | c | c
        · have := List.pairwise_iff_getElem.1 hK.rise i j hi hj c
          exact absurd hzk (kLt_ne this)
        · subst c; rfl
        · have := List.pairwise_iff_getElem.1 hK.rise j i hj hi c
          exact absurd hzk.symm (kLt_ne this)
      rw [hzj]
      rfl
  · rw [at_ j hj, at_ (j - 1) (by omega)]
    exact List.pairwise_iff_getElem.1 hK.rise (j - 1) j (by omega) hj (by omega)
/-- The key that is made of bytes. -/
def padK (k : List Int) (z n : Nat) : List Int := (k ++ List.replicate z 0).take n
theorem padK_len (k : List Int) {z n : Nat} (h : n ≤ z) : (padK k z n).length = n := by
  unfold padK
  rw [List.length_take, List.length_append, List.length_replicate]
  omega
theorem padK_ok {k : List Int} (h : OkB k) (z n : Nat) : OkB (padK k z n) := by
  have : OkB (k ++ List.replicate z 0) := okB_app h (okB_zeros z)
  intro j hj
  unfold padK at *
  rw [List.length_take] at hj
  have e : bAt ((k ++ List.replicate z 0).take n) j = bAt (k ++ List.replicate z 0) j := by
    unfold bAt
    rw [List.getD_eq_getElem?_getD, List.getD_eq_getElem?_getD, List.getElem?_take, if_pos (by omega)]
  rw [e]
  exact this j (by omega)
theorem padK_str {w : World} {A : Option Addr} {k : List Int} {z n c : Nat} (h : BytS w A (k ++ List.replicate z 0)) (hn : n ≤ z) : (convert 40 9 (.slice A n c)).run Try.prog w = .ok (.string (strOfNums (padK k z n))) w := by
  have e := padK_len k hn
  have hb : BytS w A (padK k z n) := fun hl => by
    obtain ⟨g, o, ea, hg, hc⟩ := h (by rw [List.length_append, List.length_replicate]; omega)
    refine ⟨g, o, ea, hg, fun j hj => ?_⟩
    rw [hc j (by rw [List.length_append, List.length_replicate]; omega)]
    unfold padK bAt
    rw [List.getD_eq_getElem?_getD, List.getD_eq_getElem?_getD, List.getElem?_take, if_pos (by omega)]
  have := str_bytS hb c
  rwa [e] at this

end Go.Proofs.Ytempkpfcjonaaaa


/-
  TableKeeps: two regions of the law, in lemmas of their own, whatever the other slots hold.
  Conditions: none.
-/
namespace Go.Proofs.Ytempkpfcjonaaaa
open Go.RowKit
set_option maxRecDepth 100000
set_option linter.unusedVariables false
set_option linter.unusedSimpArgs false

set_option maxHeartbeats 2000000 in
theorem keeps_r3 {w wA : World} {ρ kn mn : Nat} {K' : Act → World → Prop} {t0 t1 t3 t4 t5 t6 t7 t8 t9 t10 t11 t12 t13 t14 t15 t16 t17 t18 t19 t20 t21 t22 t23 t24 t25 t26 t27 t28 t29 t30 t31 t32 t33 t34 t35 t36 t37 t38 t39 t40 t41 t42 t43 t44 t45 t46 t47 t48 t49 t50 t51 t52 t53 t54 t55 t56 t57 t58 t59 t60 t61 t62 t63 t64 t65 t66 t67 t68 t69 t70 t71 t72 t73 t74 t75 t76 t77 t78 t79 t80 t81 t82 t83 t84 t85 t86 t87 t88 t89 t90 t91 t92 t93 t94 t95 t96 t97 t98 t99 t100 t101 t102 t103 t104 t105 t106 t107 t108 t109 t110 t111 t112 t113 t114 t115 t116 t117 t118 t119 t120 t121 t122 t123 t124 t125 t126 t127 t128 t129 t130 t131 t132 t133 t134 t135 t136 t137 t138 t139 t140 t141 t142 t143 t144 t145 t146 t147 t148 t149 t150 t151 t152 t153 t154 t155 t156 t157 t158 t159 t160 t161 t162 t163 t164 t165 t166 t167 t168 t169 t170 t171 t172 t173 t174 t175 t176 t177 t178 t179 t180 t181 t182 t183 t184 t185 t186 t187 t188 t189 t190 t191 t192 t193 t194 t195 t196 t197 t198 t199 t200 t201 t202 t203 t204 t205 t206 t207 t208 t209 t210 t211 t212 t213 t214 t215 t216 t217 t218 t219 t220 t221 t222 t223 t224 t225 t226 t227 t228 t229 t230 t231 t232 t233 t234 t235 t236 t237 t238 t239 t240 t241 t242 t243 : Value}
    (hρ : w.heap.size = ρ) (MEM : Hid (∀ u, Calls Try.prog 9 #[] u (fun e w' => ∃ g, e = .returned (.pointer (some ⟨g, 0, none⟩)) ∧ Law u (sysM g []) sysO [] w')))
    (NW : Hid (∀ (w0 u u' : World) (g : Nat) (C : Option Addr), Law w0 (sysM g []) sysO [] u → Below u.heap.size u u' → DefS u' C [⟨true, kn, 8, mn⟩] → (∀ g o, C = some ⟨g, o, none⟩ → g < w0.heap.size ∨ u.heap.size ≤ g) → Calls Try.prog 10 #[.pointer (some ⟨g, 0, none⟩), .slice C 1 1] u' (fun e w' => ∃ gt, e = .returned (.tuple #[.pointer (some ⟨gt, 0, none⟩), .int .i64 0]) ∧ Law w0 (sysT gt g [⟨⟨true, kn, 8, mn⟩, [], 0⟩] []) sysO [] w')))
    (BD : Hid (Blk ρ #[.bool true, .int .i64 (kn : Int), .int .i64 8, .int .i64 (mn : Int)] 53 wA)) (VD : Hid (Below ρ w wA))
    (hK : ∀ (gt g : Nat) (w0 wx : World) (v44 v45 v46 v47 v48 v49 v50 : Value), Hid (Law w0 (sysT gt g [⟨⟨true, kn, 8, mn⟩, [], 0⟩] []) sysO [] wx) → Hid (Below ρ w w0) → Hid (Blk ρ #[.bool true, .int .i64 (kn : Int), .int .i64 8, .int .i64 (mn : Int)] 53 w0) → K' { tmps := (t0 :: t1 :: .pointer (some ⟨ρ, 0, none⟩) :: t3 :: t4 :: t5 :: .pointer (some ⟨gt, 0, none⟩) :: .int .i64 0 :: t8 :: t9 :: t10 :: t11 :: t12 :: t13 :: t14 :: t15 :: t16 :: t17 :: t18 :: t19 :: t20 :: t21 :: t22 :: t23 :: t24 :: t25 :: t26 :: t27 :: t28 :: t29 :: t30 :: t31 :: t32 :: t33 :: t34 :: t35 :: t36 :: t37 :: t38 :: t39 :: t40 :: t41 :: t42 :: t43 :: v44 :: v45 :: v46 :: v47 :: v48 :: v49 :: v50 :: t51 :: t52 :: t53 :: t54 :: t55 :: t56 :: t57 :: t58 :: t59 :: t60 :: t61 :: t62 :: t63 :: t64 :: t65 :: t66 :: t67 :: t68 :: t69 :: t70 :: t71 :: t72 :: t73 :: t74 :: t75 :: t76 :: t77 :: t78 :: t79 :: t80 :: t81 :: t82 :: t83 :: t84 :: t85 :: t86 :: t87 :: t88 :: t89 :: t90 :: t91 :: t92 :: t93 :: t94 :: t95 :: t96 :: t97 :: t98 :: t99 :: t100 :: t101 :: t102 :: t103 :: t104 :: t105 :: t106 :: t107 :: t108 :: t109 :: t110 :: t111 :: t112 :: t113 :: t114 :: t115 :: t116 :: t117 :: t118 :: t119 :: t120 :: t121 :: t122 :: t123 :: t124 :: t125 :: t126 :: t127 :: t128 :: t129 :: t130 :: t131 :: t132 :: t133 :: t134 :: t135 :: t136 :: t137 :: t138 :: t139 :: t140 :: t141 :: t142 :: t143 :: t144 :: t145 :: t146 :: t147 :: t148 :: t149 :: t150 :: t151 :: t152 :: t153 :: t154 :: t155 :: t156 :: t157 :: t158 :: t159 :: t160 :: t161 :: t162 :: t163 :: t164 :: t165 :: t166 :: t167 :: t168 :: t169 :: t170 :: t171 :: t172 :: t173 :: t174 :: t175 :: t176 :: t177 :: t178 :: t179 :: t180 :: t181 :: t182 :: t183 :: t184 :: t185 :: t186 :: t187 :: t188 :: t189 :: t190 :: t191 :: t192 :: t193 :: t194 :: t195 :: t196 :: t197 :: t198 :: t199 :: t200 :: t201 :: t202 :: t203 :: t204 :: t205 :: t206 :: t207 :: t208 :: t209 :: t210 :: t211 :: t212 :: t213 :: t214 :: t215 :: t216 :: t217 :: t218 :: t219 :: t220 :: t221 :: t222 :: t223 :: t224 :: t225 :: t226 :: t227 :: t228 :: t229 :: t230 :: t231 :: t232 :: t233 :: t234 :: t235 :: t236 :: t237 :: t238 :: t239 :: t240 :: t241 :: t242 :: t243 :: []).toArray, defers := [] } wx) :
    Code.wp Try.prog (Code.region 3 ({ dst := some 45, op := Op.call { callee := Callee.value (Operand.func 9), args := #[], argTypes := #[] }, type := 25, pos := "law.go:104", after := #[], guard := none } :: { dst := some 46, op := Op.load 53 (Operand.tmp 2), type := 53, pos := "law.go:104", after := #[], guard := none } :: { dst := some 47, op := Op.buildSlice 22 1 #[(0, Operand.tmp 46)], type := 22, pos := "law.go:104", after := #[{ on := 1, ground := Ground.data }], guard := none } :: { dst := some 48, op := Op.call { callee := Callee.value (Operand.func 10), args := #[Operand.tmp 45, Operand.tmp 47], argTypes := #[25, 22] }, type := 33, pos := "law.go:104", after := #[{ on := 0, ground := Ground.data }, { on := 2, ground := Ground.data }, { on := 0, ground := Ground.chain }], guard := none } :: { dst := some 44, op := Op.move (Operand.tmp 48), type := 33, pos := "law.go:104", after := #[{ on := 3, ground := Ground.data }], guard := none } :: { dst := some 49, op := Op.extract (Operand.tmp 44) 0, type := 31, pos := "law.go:104", after := #[{ on := 4, ground := Ground.data }], guard := none } :: { dst := some 50, op := Op.extract (Operand.tmp 44) 1, type := 32, pos := "law.go:104", after := #[{ on := 4, ground := Ground.data }, { on := 7, ground := Ground.gcOnly Departure.lateStores }], guard := none } :: { dst := some 6, op := Op.assign (Operand.tmp 49), type := 31, pos := "law.go:104", after := #[{ on := 5, ground := Ground.data }, { on := 3, ground := Ground.chain }, { on := 0, ground := Ground.phase }, { on := 1, ground := Ground.phase }, { on := 2, ground := Ground.phase }, { on := 3, ground := Ground.phase }, { on := 4, ground := Ground.phase }, { on := 5, ground := Ground.phase }, { on := 6, ground := Ground.textOnly Departure.lateStores }], guard := none } :: { dst := some 7, op := Op.assign (Operand.tmp 50), type := 32, pos := "law.go:104", after := #[{ on := 6, ground := Ground.data }, { on := 7, ground := Ground.chain }, { on := 0, ground := Ground.phase }, { on := 1, ground := Ground.phase }, { on := 2, ground := Ground.phase }, { on := 3, ground := Ground.phase }, { on := 4, ground := Ground.phase }, { on := 5, ground := Ground.phase }, { on := 6, ground := Ground.phase }, { on := 7, ground := Ground.phase }], guard := none } :: []).toArray true) (Exit.then K' (bodyPost Try.prog Try.f4 (Fine w))) { tmps := (t0 :: t1 :: .pointer (some ⟨ρ, 0, none⟩) :: t3 :: t4 :: t5 :: t6 :: t7 :: t8 :: t9 :: t10 :: t11 :: t12 :: t13 :: t14 :: t15 :: t16 :: t17 :: t18 :: t19 :: t20 :: t21 :: t22 :: t23 :: t24 :: t25 :: t26 :: t27 :: t28 :: t29 :: t30 :: t31 :: t32 :: t33 :: t34 :: t35 :: t36 :: t37 :: t38 :: t39 :: t40 :: t41 :: t42 :: t43 :: t44 :: t45 :: t46 :: t47 :: t48 :: t49 :: t50 :: t51 :: t52 :: t53 :: t54 :: t55 :: t56 :: t57 :: t58 :: t59 :: t60 :: t61 :: t62 :: t63 :: t64 :: t65 :: t66 :: t67 :: t68 :: t69 :: t70 :: t71 :: t72 :: t73 :: t74 :: t75 :: t76 :: t77 :: t78 :: t79 :: t80 :: t81 :: t82 :: t83 :: t84 :: t85 :: t86 :: t87 :: t88 :: t89 :: t90 :: t91 :: t92 :: t93 :: t94 :: t95 :: t96 :: t97 :: t98 :: t99 :: t100 :: t101 :: t102 :: t103 :: t104 :: t105 :: t106 :: t107 :: t108 :: t109 :: t110 :: t111 :: t112 :: t113 :: t114 :: t115 :: t116 :: t117 :: t118 :: t119 :: t120 :: t121 :: t122 :: t123 :: t124 :: t125 :: t126 :: t127 :: t128 :: t129 :: t130 :: t131 :: t132 :: t133 :: t134 :: t135 :: t136 :: t137 :: t138 :: t139 :: t140 :: t141 :: t142 :: t143 :: t144 :: t145 :: t146 :: t147 :: t148 :: t149 :: t150 :: t151 :: t152 :: t153 :: t154 :: t155 :: t156 :: t157 :: t158 :: t159 :: t160 :: t161 :: t162 :: t163 :: t164 :: t165 :: t166 :: t167 :: t168 :: t169 :: t170 :: t171 :: t172 :: t173 :: t174 :: t175 :: t176 :: t177 :: t178 :: t179 :: t180 :: t181 :: t182 :: t183 :: t184 :: t185 :: t186 :: t187 :: t188 :: t189 :: t190 :: t191 :: t192 :: t193 :: t194 :: t195 :: t196 :: t197 :: t198 :: t199 :: t200 :: t201 :: t202 :: t203 :: t204 :: t205 :: t206 :: t207 :: t208 :: t209 :: t210 :: t211 :: t212 :: t213 :: t214 :: t215 :: t216 :: t217 :: t218 :: t219 :: t220 :: t221 :: t222 :: t223 :: t224 :: t225 :: t226 :: t227 :: t228 :: t229 :: t230 :: t231 :: t232 :: t233 :: t234 :: t235 :: t236 :: t237 :: t238 :: t239 :: t240 :: t241 :: t242 :: t243 :: []).toArray, defers := [] } wA := by
  replace VD := Lib.hid VD.out.drew
  replace BD := Lib.hid (show Blk ρ #[.bool true, .int .i64 (kn : Int), .int .i64 8, .int .i64 (mn : Int)] 53 wA.drew from BD.out)
  have SD : Hid (∀ u, Below wA.drew.heap.size wA.drew u → u.cell? ⟨ρ, 0, none⟩ = some (.bool true) ∧ u.cell? ⟨ρ, 1, none⟩ = some (.int .i64 (kn : Int)) ∧ u.cell? ⟨ρ, 2, none⟩ = some (.int .i64 8) ∧ u.cell? ⟨ρ, 3, none⟩ = some (.int .i64 (mn : Int))) := Lib.hid fun u b => ⟨Blk.cell (BD.out.after b) 0, Blk.cell (BD.out.after b) 1, Blk.cell (BD.out.after b) 2, Blk.cell (BD.out.after b) 3⟩
  refine wp_region_held_drew (S := fun w' => w'.cell? ⟨ρ, 0, none⟩ = some (.bool true) ∧ w'.cell? ⟨ρ, 1, none⟩ = some (.int .i64 (kn : Int)) ∧ w'.cell? ⟨ρ, 2, none⟩ = some (.int .i64 8) ∧ w'.cell? ⟨ρ, 3, none⟩ = some (.int .i64 (mn : Int))) (by kernel_rfl) (SD.out _ (Below.refl _ _)) (fun hHeld => ?_)
  generalize wA.drew = wd at *
  refine wpAnyH_take (i := 1) (oi := { dst := some 46, op := Op.load 53 (Operand.tmp 2), type := 53, pos := "law.go:104", after := #[], guard := none }) (v := ?_) rfl (by kernel_rfl) (by kernel_rfl) (by kernel_rfl) (fun _ _ _ h => h) (Or.inl ⟨by rfl, ?_⟩) (by first | exact hHeld | assumption) ?_
  rotate_left 1
  · intro w hSw; (try dsimp only at hSw); go_simp; try (with_reducible rfl)
  try simp only [Act.put, List.setIfInBounds_toArray, List.set_cons_zero, List.set_cons_succ]
  refine wpAnyH_ready (rs := [0, 2]) (by kernel_rfl) (by simp) ?_
  refine AllReadyH.cons (o := { dst := some 45, op := Op.call { callee := Callee.value (Operand.func 9), args := #[], argTypes := #[] }, type := 25, pos := "law.go:104", after := #[], guard := none }) rfl (fun K hK => ?_) (AllReadyH.cons (o := { dst := some 47, op := Op.buildSlice 22 1 #[(0, Operand.tmp 46)], type := 22, pos := "law.go:104", after := #[{ on := 1, ground := Ground.data }], guard := none }) rfl (fun K hK => ?_) AllReadyH.nil)
  · skip
    go_simp
    refine (MEM.out wd).mono ?_; rintro e u1 ⟨g, rfl, q1⟩
    have Q1 := Lib.hid q1
    clear q1 hHeld
    have hHeld := SD.out u1 (Q1.out.below)
    go_wp2_with fail
    refine hK.out _ _ hHeld (fun hHeld => ?_)
    clear hK K
    try simp only [Act.put, List.setIfInBounds_toArray, List.set_cons_zero, List.set_cons_succ]
    refine wpAnyH_ready (rs := [2]) (by kernel_rfl) (by simp) ?_
    refine AllReadyH.cons (o := { dst := some 47, op := Op.buildSlice 22 1 #[(0, Operand.tmp 46)], type := 22, pos := "law.go:104", after := #[{ on := 1, ground := Ground.data }], guard := none }) rfl (fun K hK => ?_) AllReadyH.nil
    · skip
      have hH2 := SD.out (u1.alloc (.cells #[.bool true, .int .i64 (kn : Int), .int .i64 8, .int .i64 (mn : Int)] 53)) (below_next' Q1.out.below (below_alloc (Below.refl _ _) _))
      go_simp
      refine hK.out _ _ hH2 (fun hHeld => ?_)
      clear hK K
      try simp only [Act.put, List.setIfInBounds_toArray, List.set_cons_zero, List.set_cons_succ]
      refine wpAnyH_ready (rs := [3]) (by kernel_rfl) (by simp) ?_
      refine AllReadyH.cons (o := { dst := some 48, op := Op.call { callee := Callee.value (Operand.func 10), args := #[Operand.tmp 45, Operand.tmp 47], argTypes := #[25, 22] }, type := 33, pos := "law.go:104", after := #[{ on := 0, ground := Ground.data }, { on := 2, ground := Ground.data }, { on := 0, ground := Ground.chain }], guard := none }) rfl (fun K hK => ?_) AllReadyH.nil
      · skip
        go_simp
        have NX := Lib.hid (NW.out wd u1 (u1.alloc (.cells #[.bool true, .int .i64 (kn : Int), .int .i64 8, .int .i64 (mn : Int)] 53)) g (some ⟨u1.heap.size, 0, none⟩) Q1.out (below_alloc (Below.refl _ _) _) (defS_one (Blk.new u1 _ _ rfl)) (fun g o e => by cases e; exact .inr (Nat.le_refl _)))
        refine (NX.out).mono ?_; rintro e u3 ⟨gt, rfl, q3⟩
        have Q3 := Lib.hid q3
        have BW : Hid (Below wd.heap.size wd wd) := Lib.hid (Below.refl _ _)
        clear q3 hHeld NX
        have hHeld := SD.out u3 (below_next' BW.out Q3.out.below)
        go_wp2_with fail
        refine hK.out _ _ hHeld (fun hHeld => ?_)
        clear hK K
        try simp only [Act.put, List.setIfInBounds_toArray, List.set_cons_zero, List.set_cons_succ]
        refine wpAnyH_take (i := 4) (oi := { dst := some 44, op := Op.move (Operand.tmp 48), type := 33, pos := "law.go:104", after := #[{ on := 3, ground := Ground.data }], guard := none }) (v := ?_) rfl (by kernel_rfl) (by kernel_rfl) (by kernel_rfl) (fun _ _ _ h => h) (Or.inl ⟨by rfl, ?_⟩) (by first | exact hHeld | assumption) ?_
        rotate_left 1
        · intro w hSw; (try dsimp only at hSw); go_simp; try (with_reducible rfl)
        try simp only [Act.put, List.setIfInBounds_toArray, List.set_cons_zero, List.set_cons_succ]
        refine wpAnyH_take (i := 5) (oi := { dst := some 49, op := Op.extract (Operand.tmp 44) 0, type := 31, pos := "law.go:104", after := #[{ on := 4, ground := Ground.data }], guard := none }) (v := ?_) rfl (by kernel_rfl) (by kernel_rfl) (by kernel_rfl) (fun _ _ _ h => h) (Or.inl ⟨by rfl, ?_⟩) (by first | exact hHeld | assumption) ?_
        rotate_left 1
        · intro w hSw; (try dsimp only at hSw); go_simp; try (with_reducible rfl)
        try simp only [Act.put, List.setIfInBounds_toArray, List.set_cons_zero, List.set_cons_succ]
        refine wpAnyH_take (i := 6) (oi := { dst := some 50, op := Op.extract (Operand.tmp 44) 1, type := 32, pos := "law.go:104", after := #[{ on := 4, ground := Ground.data }, { on := 7, ground := Ground.gcOnly Departure.lateStores }], guard := none }) (v := ?_) rfl (by kernel_rfl) (by kernel_rfl) (by kernel_rfl) (fun _ _ _ h => h) (Or.inl ⟨by rfl, ?_⟩) (by first | exact hHeld | assumption) ?_
        rotate_left 1
        · intro w hSw; (try dsimp only at hSw); go_simp; try (with_reducible rfl)
        try simp only [Act.put, List.setIfInBounds_toArray, List.set_cons_zero, List.set_cons_succ]
        refine wpAnyH_take (i := 7) (oi := { dst := some 6, op := Op.assign (Operand.tmp 49), type := 31, pos := "law.go:104", after := #[{ on := 5, ground := Ground.data }, { on := 3, ground := Ground.chain }, { on := 0, ground := Ground.phase }, { on := 1, ground := Ground.phase }, { on := 2, ground := Ground.phase }, { on := 3, ground := Ground.phase }, { on := 4, ground := Ground.phase }, { on := 5, ground := Ground.phase }, { on := 6, ground := Ground.textOnly Departure.lateStores }], guard := none }) (v := ?_) rfl (by kernel_rfl) (by kernel_rfl) (by kernel_rfl) (fun _ _ _ h => h) (Or.inl ⟨by rfl, ?_⟩) (by first | exact hHeld | assumption) ?_
        rotate_left 1
        · intro w hSw; (try dsimp only at hSw); go_simp; try (with_reducible rfl)
        try simp only [Act.put, List.setIfInBounds_toArray, List.set_cons_zero, List.set_cons_succ]
        refine wpAnyH_take (i := 8) (oi := { dst := some 7, op := Op.assign (Operand.tmp 50), type := 32, pos := "law.go:104", after := #[{ on := 6, ground := Ground.data }, { on := 7, ground := Ground.chain }, { on := 0, ground := Ground.phase }, { on := 1, ground := Ground.phase }, { on := 2, ground := Ground.phase }, { on := 3, ground := Ground.phase }, { on := 4, ground := Ground.phase }, { on := 5, ground := Ground.phase }, { on := 6, ground := Ground.phase }, { on := 7, ground := Ground.phase }], guard := none }) (v := ?_) rfl (by kernel_rfl) (by kernel_rfl) (by kernel_rfl) (fun _ _ _ h => h) (Or.inl ⟨by rfl, ?_⟩) (by first | exact hHeld | assumption) ?_
        rotate_left 1
        · intro w hSw; (try dsimp only at hSw); go_simp; try (with_reducible rfl)
        try simp only [Act.put, List.setIfInBounds_toArray, List.set_cons_zero, List.set_cons_succ]
        refine wpAnyH_done (by kernel_rfl) ?_ _
        clear hHeld
        go_step
        exact hK _ _ _ _ _ _ _ _ _ _ _ Q3 (Lib.hid (VD.out.trans (BW.out.mono (by rw [← hρ]; exact VD.out.size)))) (Lib.hid (BD.out.below BW.out BD.out.lt))
  · skip
    have hH2 := SD.out (wd.alloc (.cells #[.bool true, .int .i64 (kn : Int), .int .i64 8, .int .i64 (mn : Int)] 53)) (below_alloc (Below.refl _ _) _)
    go_simp
    refine hK.out _ _ hH2 (fun hHeld => ?_)
    clear hK K
    try simp only [Act.put, List.setIfInBounds_toArray, List.set_cons_zero, List.set_cons_succ]
    refine wpAnyH_ready (rs := [0]) (by kernel_rfl) (by simp) ?_
    refine AllReadyH.cons (o := { dst := some 45, op := Op.call { callee := Callee.value (Operand.func 9), args := #[], argTypes := #[] }, type := 25, pos := "law.go:104", after := #[], guard := none }) rfl (fun K hK => ?_) AllReadyH.nil
    · skip
      go_simp
      refine (MEM.out (wd.alloc (.cells #[.bool true, .int .i64 (kn : Int), .int .i64 8, .int .i64 (mn : Int)] 53))).mono ?_; rintro e u1 ⟨g, rfl, q1⟩
      have Q1 := Lib.hid q1
      clear q1 hHeld
      have hHeld := SD.out u1 (below_next' (below_alloc (Below.refl _ _) _) Q1.out.below)
      go_wp2_with fail
      refine hK.out _ _ hHeld (fun hHeld => ?_)
      clear hK K
      try simp only [Act.put, List.setIfInBounds_toArray, List.set_cons_zero, List.set_cons_succ]
      refine wpAnyH_ready (rs := [3]) (by kernel_rfl) (by simp) ?_
      refine AllReadyH.cons (o := { dst := some 48, op := Op.call { callee := Callee.value (Operand.func 10), args := #[Operand.tmp 45, Operand.tmp 47], argTypes := #[25, 22] }, type := 33, pos := "law.go:104", after := #[{ on := 0, ground := Ground.data }, { on := 2, ground := Ground.data }, { on := 0, ground := Ground.chain }], guard := none }) rfl (fun K hK => ?_) AllReadyH.nil
      · skip
        go_simp
        have NX := Lib.hid (NW.out (wd.alloc (.cells #[.bool true, .int .i64 (kn : Int), .int .i64 8, .int .i64 (mn : Int)] 53)) u1 u1 g (some ⟨wd.heap.size, 0, none⟩) Q1.out (Below.refl _ _) ((defS_one (Blk.new wd _ _ rfl)).after Q1.out.below) (fun g o e => by cases e; exact .inl (by simp)))
        refine (NX.out).mono ?_; rintro e u3 ⟨gt, rfl, q3⟩
        have Q3 := Lib.hid q3
        have BW : Hid (Below wd.heap.size wd (wd.alloc (.cells #[.bool true, .int .i64 (kn : Int), .int .i64 8, .int .i64 (mn : Int)] 53))) := Lib.hid (below_alloc (Below.refl _ _) _)
        clear q3 hHeld NX
        have hHeld := SD.out u3 (below_next' BW.out Q3.out.below)
        go_wp2_with fail
        refine hK.out _ _ hHeld (fun hHeld => ?_)
        clear hK K
        try simp only [Act.put, List.setIfInBounds_toArray, List.set_cons_zero, List.set_cons_succ]
        refine wpAnyH_take (i := 4) (oi := { dst := some 44, op := Op.move (Operand.tmp 48), type := 33, pos := "law.go:104", after := #[{ on := 3, ground := Ground.data }], guard := none }) (v := ?_) rfl (by kernel_rfl) (by kernel_rfl) (by kernel_rfl) (fun _ _ _ h => h) (Or.inl ⟨by rfl, ?_⟩) (by first | exact hHeld | assumption) ?_
        rotate_left 1
        · intro w hSw; (try dsimp only at hSw); go_simp; try (with_reducible rfl)
        try simp only [Act.put, List.setIfInBounds_toArray, List.set_cons_zero, List.set_cons_succ]
        refine wpAnyH_take (i := 5) (oi := { dst := some 49, op := Op.extract (Operand.tmp 44) 0, type := 31, pos := "law.go:104", after := #[{ on := 4, ground := Ground.data }], guard := none }) (v := ?_) rfl (by kernel_rfl) (by kernel_rfl) (by kernel_rfl) (fun _ _ _ h => h) (Or.inl ⟨by rfl, ?_⟩) (by first | exact hHeld | assumption) ?_
        rotate_left 1
        · intro w hSw; (try dsimp only at hSw); go_simp; try (with_reducible rfl)
        try simp only [Act.put, List.setIfInBounds_toArray, List.set_cons_zero, List.set_cons_succ]
        refine wpAnyH_take (i := 6) (oi := { dst := some 50, op := Op.extract (Operand.tmp 44) 1, type := 32, pos := "law.go:104", after := #[{ on := 4, ground := Ground.data }, { on := 7, ground := Ground.gcOnly Departure.lateStores }], guard := none }) (v := ?_) rfl (by kernel_rfl) (by kernel_rfl) (by kernel_rfl) (fun _ _ _ h => h) (Or.inl ⟨by rfl, ?_⟩) (by first | exact hHeld | assumption) ?_
        rotate_left 1
        · intro w hSw; (try dsimp only at hSw); go_simp; try (with_reducible rfl)
        try simp only [Act.put, List.setIfInBounds_toArray, List.set_cons_zero, List.set_cons_succ]
        refine wpAnyH_take (i := 7) (oi := { dst := some 6, op := Op.assign (Operand.tmp 49), type := 31, pos := "law.go:104", after := #[{ on := 5, ground := Ground.data }, { on := 3, ground := Ground.chain }, { on := 0, ground := Ground.phase }, { on := 1, ground := Ground.phase }, { on := 2, ground := Ground.phase }, { on := 3, ground := Ground.phase }, { on := 4, ground := Ground.phase }, { on := 5, ground := Ground.phase }, { on := 6, ground := Ground.textOnly Departure.lateStores }], guard := none }) (v := ?_) rfl (by kernel_rfl) (by kernel_rfl) (by kernel_rfl) (fun _ _ _ h => h) (Or.inl ⟨by rfl, ?_⟩) (by first | exact hHeld | assumption) ?_
        rotate_left 1
        · intro w hSw; (try dsimp only at hSw); go_simp; try (with_reducible rfl)
        try simp only [Act.put, List.setIfInBounds_toArray, List.set_cons_zero, List.set_cons_succ]
        refine wpAnyH_take (i := 8) (oi := { dst := some 7, op := Op.assign (Operand.tmp 50), type := 32, pos := "law.go:104", after := #[{ on := 6, ground := Ground.data }, { on := 7, ground := Ground.chain }, { on := 0, ground := Ground.phase }, { on := 1, ground := Ground.phase }, { on := 2, ground := Ground.phase }, { on := 3, ground := Ground.phase }, { on := 4, ground := Ground.phase }, { on := 5, ground := Ground.phase }, { on := 6, ground := Ground.phase }, { on := 7, ground := Ground.phase }], guard := none }) (v := ?_) rfl (by kernel_rfl) (by kernel_rfl) (by kernel_rfl) (fun _ _ _ h => h) (Or.inl ⟨by rfl, ?_⟩) (by first | exact hHeld | assumption) ?_
        rotate_left 1
        · intro w hSw; (try dsimp only at hSw); go_simp; try (with_reducible rfl)
        try simp only [Act.put, List.setIfInBounds_toArray, List.set_cons_zero, List.set_cons_succ]
        refine wpAnyH_done (by kernel_rfl) ?_ _
        clear hHeld
        go_step
        exact hK _ _ _ _ _ _ _ _ _ _ _ Q3 (Lib.hid (VD.out.trans (BW.out.mono (by rw [← hρ]; exact VD.out.size)))) (Lib.hid (BD.out.below BW.out BD.out.lt))

set_option maxHeartbeats 4000000 in
theorem keeps_r15 {wF : World} {ρ κ mb mn Ln : Nat} {x6 : Int} {had : Bool} {K' : Act → World → Prop} {Q' : Exit → Act → World → Prop} {t0 t1 t3 t4 t5 t6 t7 t9 t11 t12 t13 t15 t16 t17 t18 t19 t20 t21 t22 t23 t24 t25 t26 t27 t28 t29 t30 t31 t32 t33 t34 t35 t36 t37 t38 t39 t40 t41 t42 t43 t44 t45 t46 t47 t48 t49 t50 t51 t52 t53 t54 t55 t56 t57 t58 t59 t60 t61 t62 t63 t64 t65 t66 t67 t68 t69 t70 t71 t72 t73 t74 t75 t76 t77 t78 t79 t80 t81 t82 t83 t84 t85 t86 t87 t88 t89 t90 t91 t92 t93 t94 t95 t96 t97 t98 t99 t100 t101 t102 t103 t104 t105 t106 t107 t108 t109 t110 t111 t112 t113 t114 t115 t116 t117 t118 t119 t120 t121 t122 t123 t124 t125 t126 t127 t128 t129 t130 t131 t132 t133 t134 t135 t136 t137 t138 t139 t140 t141 t142 t143 t144 t145 t146 t147 t148 t149 t150 t151 t152 t153 t154 t155 t156 t157 t158 t159 t160 t161 t162 t163 t164 t165 t166 t167 t168 t169 t170 t171 t172 t173 t174 t175 t176 t177 t178 t179 t180 t181 t182 t183 t184 t185 t186 t187 t188 t189 t190 t191 t192 t193 t194 t195 t196 t197 t198 t199 t200 t201 t202 t203 t204 t205 t206 t207 t208 t209 t210 t211 t212 t213 t214 t215 t216 t217 t218 t219 t220 t221 t222 t223 t224 t225 t226 t227 t228 t229 t230 t231 t232 t233 t234 t235 t236 t237 t238 t239 t240 t241 t242 t243 : Value}
    (k4 : wF.cell? ⟨κ, 4, none⟩ = some (.int .u64 x6)) (k5 : wF.cell? ⟨ρ, 3, none⟩ = some (.int .i64 (mn : Int))) (hlen : ∀ ty, (Builtin.len_ #[54] ty #[.map (some mb)]).run Try.prog wF = .ok (.int .i64 (Ln : Int)) wF)
    (hx3 : x6.tmod 3 = x6 % 3) (hf3 : x6 % 3 = 0 ∨ x6 % 3 = 1 ∨ x6 % 3 = 2)
    (hK : ∀ (v102 v103 v104 v105 v106 v107 v108 v109 v110 v111 v112 v113 v114 v115 v116 v117 v118 v119 v120 v121 v122 v123 v124 v125 v126 v127 v128 v129 v130 v131 v132 v133 v134 v135 v136 v137 v138 v139 v140 v141 : Value), K' { tmps := (t0 :: t1 :: .pointer (some ⟨ρ, 0, none⟩) :: t3 :: t4 :: t5 :: t6 :: t7 :: .map (some mb) :: t9 :: .pointer (some ⟨κ, 0, none⟩) :: t11 :: t12 :: t13 :: .bool had :: t15 :: t16 :: t17 :: t18 :: t19 :: t20 :: .bool (mayP (x6 % 3) had Ln mn) :: t22 :: t23 :: t24 :: t25 :: t26 :: t27 :: t28 :: t29 :: t30 :: t31 :: t32 :: t33 :: t34 :: t35 :: t36 :: t37 :: t38 :: t39 :: t40 :: t41 :: t42 :: t43 :: t44 :: t45 :: t46 :: t47 :: t48 :: t49 :: t50 :: t51 :: t52 :: t53 :: t54 :: t55 :: t56 :: t57 :: t58 :: t59 :: t60 :: t61 :: t62 :: t63 :: t64 :: t65 :: t66 :: t67 :: t68 :: t69 :: t70 :: t71 :: t72 :: t73 :: t74 :: t75 :: t76 :: t77 :: t78 :: t79 :: t80 :: t81 :: t82 :: t83 :: t84 :: t85 :: t86 :: t87 :: t88 :: t89 :: t90 :: t91 :: t92 :: t93 :: t94 :: t95 :: t96 :: t97 :: t98 :: t99 :: t100 :: t101 :: v102 :: v103 :: v104 :: v105 :: v106 :: v107 :: v108 :: v109 :: v110 :: v111 :: v112 :: v113 :: v114 :: v115 :: v116 :: v117 :: v118 :: v119 :: v120 :: v121 :: v122 :: v123 :: v124 :: v125 :: v126 :: v127 :: v128 :: v129 :: v130 :: v131 :: v132 :: v133 :: v134 :: v135 :: v136 :: v137 :: v138 :: v139 :: v140 :: v141 :: t142 :: t143 :: t144 :: t145 :: t146 :: t147 :: t148 :: t149 :: t150 :: t151 :: t152 :: t153 :: t154 :: t155 :: t156 :: t157 :: t158 :: t159 :: t160 :: t161 :: t162 :: t163 :: t164 :: t165 :: t166 :: t167 :: t168 :: t169 :: t170 :: t171 :: t172 :: t173 :: t174 :: t175 :: t176 :: t177 :: t178 :: t179 :: t180 :: t181 :: t182 :: t183 :: t184 :: t185 :: t186 :: t187 :: t188 :: t189 :: t190 :: t191 :: t192 :: t193 :: t194 :: t195 :: t196 :: t197 :: t198 :: t199 :: t200 :: t201 :: t202 :: t203 :: t204 :: t205 :: t206 :: t207 :: t208 :: t209 :: t210 :: t211 :: t212 :: t213 :: t214 :: t215 :: t216 :: t217 :: t218 :: t219 :: t220 :: t221 :: t222 :: t223 :: t224 :: t225 :: t226 :: t227 :: t228 :: t229 :: t230 :: t231 :: t232 :: t233 :: t234 :: t235 :: t236 :: t237 :: t238 :: t239 :: t240 :: t241 :: t242 :: t243 :: []).toArray, defers := [] } wF) :
    Code.wp Try.prog (Code.region 15 ({ dst := some 102, op := Op.fieldAddr 43 (Operand.tmp 10) 4, type := 0, pos := "law.go:127", after := #[], guard := none } :: { dst := some 103, op := Op.load 41 (Operand.tmp 102), type := 41, pos := "law.go:127", after := #[{ on := 0, ground := Ground.data }], guard := none } :: { dst := some 104, op := Op.binOp BinOp.rem 41 (Operand.tmp 103) (Operand.const (Value.int IntKind.u64 3)) 41, type := 41, pos := "law.go:127", after := #[{ on := 1, ground := Ground.data }], guard := none } :: { dst := some 105, op := Op.binOp BinOp.eql 41 (Operand.tmp 104) (Operand.const (Value.int IntKind.u64 0)) 41, type := 4, pos := "law.go:127", after := #[{ on := 2, ground := Ground.data }], guard := none } :: { dst := some 106, op := Op.move (Operand.tmp 105), type := 4, pos := "law.go:127", after := #[{ on := 3, ground := Ground.data }], guard := none } :: { dst := some 107, op := Op.move (Operand.tmp 14), type := 4, pos := "law.go:127", after := #[{ on := 4, ground := Ground.guard }], guard := some (4, true) } :: { dst := some 108, op := Op.move (Operand.tmp 107), type := 4, pos := "law.go:127", after := #[{ on := 5, ground := Ground.data }, { on := 4, ground := Ground.chain }, { on := 4, ground := Ground.guard }], guard := some (4, true) } :: { dst := some 109, op := Op.move (Operand.tmp 8), type := 54, pos := "law.go:127", after := #[{ on := 6, ground := Ground.guard }], guard := some (6, false) } :: { dst := some 110, op := Op.call { callee := Callee.builtin Builtin.len, args := #[Operand.tmp 109], argTypes := #[54] }, type := 3, pos := "law.go:127", after := #[{ on := 7, ground := Ground.data }, { on := 6, ground := Ground.chain }, { on := 6, ground := Ground.guard }], guard := some (6, false) } :: { dst := some 111, op := Op.fieldAddr 53 (Operand.tmp 2) 3, type := 0, pos := "law.go:127", after := #[{ on := 6, ground := Ground.guard }], guard := some (6, false) } :: { dst := some 112, op := Op.load 3 (Operand.tmp 111), type := 3, pos := "law.go:127", after := #[{ on := 9, ground := Ground.data }, { on := 6, ground := Ground.guard }], guard := some (6, false) } :: { dst := some 113, op := Op.binOp BinOp.lss 3 (Operand.tmp 110) (Operand.tmp 112) 3, type := 4, pos := "law.go:127", after := #[{ on := 8, ground := Ground.data }, { on := 10, ground := Ground.data }, { on := 6, ground := Ground.guard }], guard := some (6, false) } :: { dst := some 114, op := Op.pick (Operand.tmp 108) (Operand.const (Value.bool true)) (Operand.tmp 113), type := 4, pos := "law.go:127", after := #[{ on := 6, ground := Ground.data }, { on := 11, ground := Ground.data }, { on := 4, ground := Ground.guard }], guard := some (4, true) } :: { dst := some 115, op := Op.pick (Operand.tmp 106) (Operand.tmp 114) (Operand.const (Value.bool false)), type := 4, pos := "law.go:127", after := #[{ on := 4, ground := Ground.data }, { on := 12, ground := Ground.data }], guard := none } :: { dst := some 116, op := Op.move (Operand.tmp 115), type := 4, pos := "law.go:127", after := #[{ on := 13, ground := Ground.data }, { on := 8, ground := Ground.chain }], guard := none } :: { dst := some 117, op := Op.fieldAddr 43 (Operand.tmp 10) 4, type := 0, pos := "law.go:127", after := #[{ on := 14, ground := Ground.guard }], guard := some (14, false) } :: { dst := some 118, op := Op.load 41 (Operand.tmp 117), type := 41, pos := "law.go:127", after := #[{ on := 15, ground := Ground.data }, { on := 14, ground := Ground.guard }], guard := some (14, false) } :: { dst := some 119, op := Op.binOp BinOp.rem 41 (Operand.tmp 118) (Operand.const (Value.int IntKind.u64 3)) 41, type := 41, pos := "law.go:127", after := #[{ on := 16, ground := Ground.data }, { on := 14, ground := Ground.guard }], guard := some (14, false) } :: { dst := some 120, op := Op.binOp BinOp.eql 41 (Operand.tmp 119) (Operand.const (Value.int IntKind.u64 1)) 41, type := 4, pos := "law.go:127", after := #[{ on := 17, ground := Ground.data }, { on := 14, ground := Ground.guard }], guard := some (14, false) } :: { dst := some 121, op := Op.move (Operand.tmp 120), type := 4, pos := "law.go:127", after := #[{ on := 18, ground := Ground.data }, { on := 14, ground := Ground.chain }, { on := 14, ground := Ground.guard }], guard := some (14, false) } :: { dst := some 122, op := Op.move (Operand.tmp 14), type := 4, pos := "law.go:127", after := #[{ on := 19, ground := Ground.guard }], guard := some (19, true) } :: { dst := some 123, op := Op.unOp UnOp.not 4 (Operand.tmp 122), type := 4, pos := "law.go:127", after := #[{ on := 20, ground := Ground.data }, { on := 19, ground := Ground.guard }], guard := some (19, true) } :: { dst := some 124, op := Op.pick (Operand.tmp 121) (Operand.tmp 123) (Operand.const (Value.bool false)), type := 4, pos := "law.go:127", after := #[{ on := 19, ground := Ground.data }, { on := 21, ground := Ground.data }, { on := 14, ground := Ground.guard }], guard := some (14, false) } :: { dst := some 125, op := Op.move (Operand.tmp 124), type := 4, pos := "law.go:127", after := #[{ on := 22, ground := Ground.data }, { on := 19, ground := Ground.chain }, { on := 14, ground := Ground.guard }], guard := some (14, false) } :: { dst := some 126, op := Op.move (Operand.tmp 8), type := 54, pos := "law.go:127", after := #[{ on := 23, ground := Ground.guard }], guard := some (23, true) } :: { dst := some 127, op := Op.call { callee := Callee.builtin Builtin.len, args := #[Operand.tmp 126], argTypes := #[54] }, type := 3, pos := "law.go:127", after := #[{ on := 24, ground := Ground.data }, { on := 23, ground := Ground.chain }, { on := 23, ground := Ground.guard }], guard := some (23, true) } :: { dst := some 128, op := Op.fieldAddr 53 (Operand.tmp 2) 3, type := 0, pos := "law.go:127", after := #[{ on := 23, ground := Ground.guard }], guard := some (23, true) } :: { dst := some 129, op := Op.load 3 (Operand.tmp 128), type := 3, pos := "law.go:127", after := #[{ on := 26, ground := Ground.data }, { on := 23, ground := Ground.guard }], guard := some (23, true) } :: { dst := some 130, op := Op.binOp BinOp.lss 3 (Operand.tmp 127) (Operand.tmp 129) 3, type := 4, pos := "law.go:127", after := #[{ on := 25, ground := Ground.data }, { on := 27, ground := Ground.data }, { on := 23, ground := Ground.guard }], guard := some (23, true) } :: { dst := some 131, op := Op.pick (Operand.tmp 125) (Operand.tmp 130) (Operand.const (Value.bool false)), type := 4, pos := "law.go:127", after := #[{ on := 23, ground := Ground.data }, { on := 28, ground := Ground.data }, { on := 14, ground := Ground.guard }], guard := some (14, false) } :: { dst := some 132, op := Op.pick (Operand.tmp 116) (Operand.const (Value.bool true)) (Operand.tmp 131), type := 4, pos := "law.go:127", after := #[{ on := 14, ground := Ground.data }, { on := 29, ground := Ground.data }], guard := none } :: { dst := some 133, op := Op.move (Operand.tmp 132), type := 4, pos := "law.go:127", after := #[{ on := 30, ground := Ground.data }, { on := 25, ground := Ground.chain }], guard := none } :: { dst := some 134, op := Op.fieldAddr 43 (Operand.tmp 10) 4, type := 0, pos := "law.go:127", after := #[{ on := 31, ground := Ground.guard }], guard := some (31, false) } :: { dst := some 135, op := Op.load 41 (Operand.tmp 134), type := 41, pos := "law.go:127", after := #[{ on := 32, ground := Ground.data }, { on := 31, ground := Ground.guard }], guard := some (31, false) } :: { dst := some 136, op := Op.binOp BinOp.rem 41 (Operand.tmp 135) (Operand.const (Value.int IntKind.u64 3)) 41, type := 41, pos := "law.go:127", after := #[{ on := 33, ground := Ground.data }, { on := 31, ground := Ground.guard }], guard := some (31, false) } :: { dst := some 137, op := Op.binOp BinOp.eql 41 (Operand.tmp 136) (Operand.const (Value.int IntKind.u64 2)) 41, type := 4, pos := "law.go:127", after := #[{ on := 34, ground := Ground.data }, { on := 31, ground := Ground.guard }], guard := some (31, false) } :: { dst := some 138, op := Op.move (Operand.tmp 137), type := 4, pos := "law.go:127", after := #[{ on := 35, ground := Ground.data }, { on := 31, ground := Ground.chain }, { on := 31, ground := Ground.guard }], guard := some (31, false) } :: { dst := some 139, op := Op.move (Operand.tmp 14), type := 4, pos := "law.go:127", after := #[{ on := 36, ground := Ground.guard }], guard := some (36, true) } :: { dst := some 140, op := Op.pick (Operand.tmp 138) (Operand.tmp 139) (Operand.const (Value.bool false)), type := 4, pos := "law.go:127", after := #[{ on := 36, ground := Ground.data }, { on := 37, ground := Ground.data }, { on := 31, ground := Ground.guard }], guard := some (31, false) } :: { dst := some 141, op := Op.pick (Operand.tmp 133) (Operand.const (Value.bool true)) (Operand.tmp 140), type := 4, pos := "law.go:127", after := #[{ on := 31, ground := Ground.data }, { on := 38, ground := Ground.data }], guard := none } :: { dst := some 21, op := Op.assign (Operand.tmp 141), type := 4, pos := "law.go:127", after := #[{ on := 39, ground := Ground.data }, { on := 36, ground := Ground.chain }, { on := 0, ground := Ground.phase }, { on := 1, ground := Ground.phase }, { on := 2, ground := Ground.phase }, { on := 3, ground := Ground.phase }, { on := 4, ground := Ground.phase }, { on := 5, ground := Ground.phase }, { on := 6, ground := Ground.phase }, { on := 7, ground := Ground.phase }, { on := 8, ground := Ground.phase }, { on := 9, ground := Ground.phase }, { on := 10, ground := Ground.phase }, { on := 11, ground := Ground.phase }, { on := 12, ground := Ground.phase }, { on := 13, ground := Ground.phase }, { on := 14, ground := Ground.phase }, { on := 15, ground := Ground.phase }, { on := 16, ground := Ground.phase }, { on := 17, ground := Ground.phase }, { on := 18, ground := Ground.phase }, { on := 19, ground := Ground.phase }, { on := 20, ground := Ground.phase }, { on := 21, ground := Ground.phase }, { on := 22, ground := Ground.phase }, { on := 23, ground := Ground.phase }, { on := 24, ground := Ground.phase }, { on := 25, ground := Ground.phase }, { on := 26, ground := Ground.phase }, { on := 27, ground := Ground.phase }, { on := 28, ground := Ground.phase }, { on := 29, ground := Ground.phase }, { on := 30, ground := Ground.phase }, { on := 31, ground := Ground.phase }, { on := 32, ground := Ground.phase }, { on := 33, ground := Ground.phase }, { on := 34, ground := Ground.phase }, { on := 35, ground := Ground.phase }, { on := 36, ground := Ground.phase }, { on := 37, ground := Ground.phase }, { on := 38, ground := Ground.phase }, { on := 39, ground := Ground.phase }], guard := none } :: []).toArray false) (Exit.then K' Q') { tmps := (t0 :: t1 :: .pointer (some ⟨ρ, 0, none⟩) :: t3 :: t4 :: t5 :: t6 :: t7 :: .map (some mb) :: t9 :: .pointer (some ⟨κ, 0, none⟩) :: t11 :: t12 :: t13 :: .bool had :: t15 :: t16 :: t17 :: t18 :: t19 :: t20 :: t21 :: t22 :: t23 :: t24 :: t25 :: t26 :: t27 :: t28 :: t29 :: t30 :: t31 :: t32 :: t33 :: t34 :: t35 :: t36 :: t37 :: t38 :: t39 :: t40 :: t41 :: t42 :: t43 :: t44 :: t45 :: t46 :: t47 :: t48 :: t49 :: t50 :: t51 :: t52 :: t53 :: t54 :: t55 :: t56 :: t57 :: t58 :: t59 :: t60 :: t61 :: t62 :: t63 :: t64 :: t65 :: t66 :: t67 :: t68 :: t69 :: t70 :: t71 :: t72 :: t73 :: t74 :: t75 :: t76 :: t77 :: t78 :: t79 :: t80 :: t81 :: t82 :: t83 :: t84 :: t85 :: t86 :: t87 :: t88 :: t89 :: t90 :: t91 :: t92 :: t93 :: t94 :: t95 :: t96 :: t97 :: t98 :: t99 :: t100 :: t101 :: t102 :: t103 :: t104 :: t105 :: t106 :: t107 :: t108 :: t109 :: t110 :: t111 :: t112 :: t113 :: t114 :: t115 :: t116 :: t117 :: t118 :: t119 :: t120 :: t121 :: t122 :: t123 :: t124 :: t125 :: t126 :: t127 :: t128 :: t129 :: t130 :: t131 :: t132 :: t133 :: t134 :: t135 :: t136 :: t137 :: t138 :: t139 :: t140 :: t141 :: t142 :: t143 :: t144 :: t145 :: t146 :: t147 :: t148 :: t149 :: t150 :: t151 :: t152 :: t153 :: t154 :: t155 :: t156 :: t157 :: t158 :: t159 :: t160 :: t161 :: t162 :: t163 :: t164 :: t165 :: t166 :: t167 :: t168 :: t169 :: t170 :: t171 :: t172 :: t173 :: t174 :: t175 :: t176 :: t177 :: t178 :: t179 :: t180 :: t181 :: t182 :: t183 :: t184 :: t185 :: t186 :: t187 :: t188 :: t189 :: t190 :: t191 :: t192 :: t193 :: t194 :: t195 :: t196 :: t197 :: t198 :: t199 :: t200 :: t201 :: t202 :: t203 :: t204 :: t205 :: t206 :: t207 :: t208 :: t209 :: t210 :: t211 :: t212 :: t213 :: t214 :: t215 :: t216 :: t217 :: t218 :: t219 :: t220 :: t221 :: t222 :: t223 :: t224 :: t225 :: t226 :: t227 :: t228 :: t229 :: t230 :: t231 :: t232 :: t233 :: t234 :: t235 :: t236 :: t237 :: t238 :: t239 :: t240 :: t241 :: t242 :: t243 :: []).toArray, defers := [] } wF := by
  rcases hf3 with hf | hf | hf
  all_goals rw [hf] at hx3
  · skip
    cases had
    · by_cases hll : (Ln : Int) < mn
      · have hdl : decide ((Ln : Int) < mn) = true := decide_eq_true hll
        have hmay : mayP 0 false Ln mn = true := by
          unfold mayP
          rw [hdl]
          rfl
        rw [hf, hmay] at hK
        go_wp2_with fail
        exact hK _ _ _ _ _ _ _ _ _ _ _ _ _ _ _ _ _ _ _ _ _ _ _ _ _ _ _ _ _ _ _ _ _ _ _ _ _ _ _ _
      · have hdl : decide ((Ln : Int) < mn) = false := decide_eq_false hll
        have hmay : mayP 0 false Ln mn = false := by
          unfold mayP
          rw [hdl]
          rfl
        rw [hf, hmay] at hK
        go_wp2_with fail
        exact hK _ _ _ _ _ _ _ _ _ _ _ _ _ _ _ _ _ _ _ _ _ _ _ _ _ _ _ _ _ _ _ _ _ _ _ _ _ _ _ _
    · by_cases hll : (Ln : Int) < mn
      · have hdl : decide ((Ln : Int) < mn) = true := decide_eq_true hll
        have hmay : mayP 0 true Ln mn = true := by
          unfold mayP
          rw [hdl]
          rfl
        rw [hf, hmay] at hK
        go_wp2_with fail
        exact hK _ _ _ _ _ _ _ _ _ _ _ _ _ _ _ _ _ _ _ _ _ _ _ _ _ _ _ _ _ _ _ _ _ _ _ _ _ _ _ _
      · have hdl : decide ((Ln : Int) < mn) = false := decide_eq_false hll
        have hmay : mayP 0 true Ln mn = true := by
          unfold mayP
          rw [hdl]
          rfl
        rw [hf, hmay] at hK
        go_wp2_with fail
        exact hK _ _ _ _ _ _ _ _ _ _ _ _ _ _ _ _ _ _ _ _ _ _ _ _ _ _ _ _ _ _ _ _ _ _ _ _ _ _ _ _
  · skip
    cases had
    · by_cases hll : (Ln : Int) < mn
      · have hdl : decide ((Ln : Int) < mn) = true := decide_eq_true hll
        have hmay : mayP 1 false Ln mn = true := by
          unfold mayP
          rw [hdl]
          rfl
        rw [hf, hmay] at hK
        go_wp2_with fail
        exact hK _ _ _ _ _ _ _ _ _ _ _ _ _ _ _ _ _ _ _ _ _ _ _ _ _ _ _ _ _ _ _ _ _ _ _ _ _ _ _ _
      · have hdl : decide ((Ln : Int) < mn) = false := decide_eq_false hll
        have hmay : mayP 1 false Ln mn = false := by
          unfold mayP
          rw [hdl]
          rfl
        rw [hf, hmay] at hK
        go_wp2_with fail
        exact hK _ _ _ _ _ _ _ _ _ _ _ _ _ _ _ _ _ _ _ _ _ _ _ _ _ _ _ _ _ _ _ _ _ _ _ _ _ _ _ _
    · by_cases hll : (Ln : Int) < mn
      · have hdl : decide ((Ln : Int) < mn) = true := decide_eq_true hll
        have hmay : mayP 1 true Ln mn = false := by
          unfold mayP
          rw [hdl]
          rfl
        rw [hf, hmay] at hK
        go_wp2_with fail
        exact hK _ _ _ _ _ _ _ _ _ _ _ _ _ _ _ _ _ _ _ _ _ _ _ _ _ _ _ _ _ _ _ _ _ _ _ _ _ _ _ _
      · have hdl : decide ((Ln : Int) < mn) = false := decide_eq_false hll
        have hmay : mayP 1 true Ln mn = false := by
          unfold mayP
          rw [hdl]
          rfl
        rw [hf, hmay] at hK
        go_wp2_with fail
        exact hK _ _ _ _ _ _ _ _ _ _ _ _ _ _ _ _ _ _ _ _ _ _ _ _ _ _ _ _ _ _ _ _ _ _ _ _ _ _ _ _
  · skip
    cases had
    · by_cases hll : (Ln : Int) < mn
      · have hdl : decide ((Ln : Int) < mn) = true := decide_eq_true hll
        have hmay : mayP 2 false Ln mn = false := by
          unfold mayP
          rw [hdl]
          rfl
        rw [hf, hmay] at hK
        go_wp2_with fail
        exact hK _ _ _ _ _ _ _ _ _ _ _ _ _ _ _ _ _ _ _ _ _ _ _ _ _ _ _ _ _ _ _ _ _ _ _ _ _ _ _ _
      · have hdl : decide ((Ln : Int) < mn) = false := decide_eq_false hll
        have hmay : mayP 2 false Ln mn = false := by
          unfold mayP
          rw [hdl]
          rfl
        rw [hf, hmay] at hK
        go_wp2_with fail
        exact hK _ _ _ _ _ _ _ _ _ _ _ _ _ _ _ _ _ _ _ _ _ _ _ _ _ _ _ _ _ _ _ _ _ _ _ _ _ _ _ _
    · by_cases hll : (Ln : Int) < mn
      · have hdl : decide ((Ln : Int) < mn) = true := decide_eq_true hll
        have hmay : mayP 2 true Ln mn = true := by
          unfold mayP
          rw [hdl]
          rfl
        rw [hf, hmay] at hK
        go_wp2_with fail
        exact hK _ _ _ _ _ _ _ _ _ _ _ _ _ _ _ _ _ _ _ _ _ _ _ _ _ _ _ _ _ _ _ _ _ _ _ _ _ _ _ _
      · have hdl : decide ((Ln : Int) < mn) = false := decide_eq_false hll
        have hmay : mayP 2 true Ln mn = true := by
          unfold mayP
          rw [hdl]
          rfl
        rw [hf, hmay] at hK
        go_wp2_with fail
        exact hK _ _ _ _ _ _ _ _ _ _ _ _ _ _ _ _ _ _ _ _ _ _ _ _ _ _ _ _ _ _ _ _ _ _ _ _ _ _ _ _

end Go.Proofs.Ytempkpfcjonaaaa


/-
  TableKeeps, behind its acts: the items are what the map of the language holds.
  Conditions: none.
-/
namespace Go.Proofs.Ytempkpfcjonaaaa
open Go.RowKit
set_option maxRecDepth 100000
set_option linter.unusedVariables false
set_option linter.unusedSimpArgs false

set_option maxHeartbeats 2000000 in
theorem keeps_items {w w0 wz : World} {gt g mb n kn mn : Nat} {T : TT} {M : PM} {L : List TK} {Y : Sys} {t0 t1 t2 t3 t4 t7 t9 t10 t11 t12 t13 t14 t15 t16 t17 t18 t19 t20 t21 t22 t23 t24 t25 t26 t27 t28 t29 t30 t31 t32 t33 t34 t35 t36 t37 t38 t39 t40 t41 t42 t43 t44 t45 t46 t47 t48 t49 t50 t51 t52 t53 t54 t55 t56 t57 t58 t59 t60 t61 t62 t63 t64 t65 t66 t67 t68 t69 t70 t71 t72 t73 t74 t75 t76 t77 t78 t79 t80 t81 t82 t83 t84 t85 t86 t87 t88 t89 t90 t91 t92 t93 t94 t95 t96 t97 t98 t99 t100 t101 t102 t103 t104 t105 t106 t107 t108 t109 t110 t111 t112 t113 t114 t115 t116 t117 t118 t119 t120 t121 t122 t123 t124 t125 t126 t127 t128 t129 t130 t131 t132 t133 t134 t135 t136 t137 t138 t139 t140 t141 t142 t143 t144 t145 t146 t147 t148 t149 t150 t151 t152 t153 t154 t155 t156 t157 t158 t159 t160 t161 t162 t163 t164 t165 t166 t167 t168 t169 t170 t171 t172 t173 t174 t175 t176 t177 t178 t179 t180 t181 t182 t183 t184 t185 t186 t187 t188 t189 t190 t191 t192 t193 t194 t195 t196 t197 t198 t199 t200 t201 t202 t203 t204 t205 t206 t207 t208 t209 t210 t211 t212 t213 t214 t215 t216 t217 t218 t219 t220 t221 t222 t223 t224 t225 t226 t227 t228 t229 t230 t231 t232 t233 t234 t235 t236 t237 t238 t239 t240 t241 t242 t243 : Value} {K : Act → World → Prop}
    (hK : ∀ (a : Act) (w_1 : World), Code.wp Try.prog (((Code.region 32 #[{ dst := some 194, op := Op.move (Operand.tmp 22), type := 46, pos := "law.go:137", after := #[], guard := none }, { dst := some 195, op := Op.call { callee := Callee.builtin Builtin.len, args := #[Operand.tmp 194], argTypes := #[46] }, type := 3, pos := "law.go:137", after := #[{ on := 0, ground := Ground.data }], guard := none }, { dst := some 196, op := Op.move (Operand.const (Value.int IntKind.i64 0)), type := 3, pos := "law.go:137", after := #[], guard := none }] false).seq (Code.block 3 ((Code.region 33 #[{ dst := some 197, op := Op.binOp BinOp.lss 3 (Operand.tmp 196) (Operand.tmp 195) 3, type := 0, pos := "law.go:137", after := #[], guard := none }] false).seq ((Code.cond (Operand.tmp 197) Code.skip (Code.exit 3)).seq ((Code.block 4 ((Code.region 34 #[{ dst := some 198, op := Op.move (Operand.tmp 196), type := 3, pos := "law.go:137", after := #[], guard := none }, { dst := some 199, op := Op.indexAddr 46 (Operand.tmp 194) (Operand.tmp 196), type := 0, pos := "law.go:137", after := #[], guard := none }, { dst := some 200, op := Op.load 60 (Operand.tmp 199), type := 60, pos := "law.go:137", after := #[{ on := 1, ground := Ground.data }], guard := none }, { dst := some 24, op := Op.alloc 60, type := 0, pos := "law.go:137", after := #[], guard := none }, { dst := some 23, op := Op.assign (Operand.tmp 198), type := 3, pos := "law.go:137", after := #[{ on := 0, ground := Ground.data }, { on := 0, ground := Ground.phase }, { on := 1, ground := Ground.phase }, { on := 2, ground := Ground.phase }, { on := 3, ground := Ground.phase }], guard := none }, { dst := none, op := Op.store 60 (Operand.tmp 24) (Operand.tmp 200), type := 0, pos := "law.go:137", after := #[{ on := 3, ground := Ground.data }, { on := 2, ground := Ground.data }, { on := 4, ground := Ground.chain }, { on := 0, ground := Ground.phase }, { on := 1, ground := Ground.phase }, { on := 2, ground := Ground.phase }, { on := 3, ground := Ground.phase }, { on := 4, ground := Ground.phase }], guard := none }] false).seq ((Code.region 35 #[{ dst := some 202, op := Op.move (Operand.tmp 8), type := 54, pos := "law.go:138", after := #[], guard := none }, { dst := some 203, op := Op.fieldAddr 60 (Operand.tmp 24) 0, type := 0, pos := "law.go:138", after := #[], guard := none }, { dst := some 204, op := Op.load 40 (Operand.tmp 203), type := 40, pos := "law.go:138", after := #[{ on := 1, ground := Ground.data }], guard := none }, { dst := some 205, op := Op.convert 40 9 (Operand.tmp 204), type := 9, pos := "law.go:138", after := #[{ on := 2, ground := Ground.data }], guard := none }, { dst := some 206, op := Op.lookup 54 (Operand.tmp 202) (Operand.tmp 205) true, type := 55, pos := "law.go:138", after := #[{ on := 0, ground := Ground.data }, { on := 3, ground := Ground.data }], guard := none }, { dst := some 201, op := Op.move (Operand.tmp 206), type := 55, pos := "law.go:138", after := #[{ on := 4, ground := Ground.data }], guard := none }, { dst := some 207, op := Op.extract (Operand.tmp 201) 0, type := 9, pos := "law.go:138", after := #[{ on := 5, ground := Ground.data }], guard := none }, { dst := some 208, op := Op.extract (Operand.tmp 201) 1, type := 4, pos := "law.go:138", after := #[{ on := 5, ground := Ground.data }, { on := 8, ground := Ground.gcOnly Departure.lateStores }], guard := none }, { dst := some 25, op := Op.assign (Operand.tmp 207), type := 9, pos := "law.go:138", after := #[{ on := 6, ground := Ground.data }, { on := 0, ground := Ground.phase }, { on := 1, ground := Ground.phase }, { on := 2, ground := Ground.phase }, { on := 3, ground := Ground.phase }, { on := 4, ground := Ground.phase }, { on := 5, ground := Ground.phase }, { on := 6, ground := Ground.phase }, { on := 7, ground := Ground.textOnly Departure.lateStores }], guard := none }, { dst := some 26, op := Op.assign (Operand.tmp 208), type := 4, pos := "law.go:138", after := #[{ on := 7, ground := Ground.data }, { on := 8, ground := Ground.chain }, { on := 0, ground := Ground.phase }, { on := 1, ground := Ground.phase }, { on := 2, ground := Ground.phase }, { on := 3, ground := Ground.phase }, { on := 4, ground := Ground.phase }, { on := 5, ground := Ground.phase }, { on := 6, ground := Ground.phase }, { on := 7, ground := Ground.phase }, { on := 8, ground := Ground.phase }], guard := none }] false).seq ((Code.region 36 #[{ dst := some 209, op := Op.move (Operand.tmp 26), type := 4, pos := "law.go:139", after := #[], guard := none }, { dst := some 210, op := Op.unOp UnOp.not 4 (Operand.tmp 209), type := 4, pos := "law.go:139", after := #[{ on := 0, ground := Ground.data }], guard := none }, { dst := some 211, op := Op.move (Operand.tmp 210), type := 4, pos := "law.go:139", after := #[{ on := 1, ground := Ground.data }], guard := none }, { dst := some 212, op := Op.move (Operand.tmp 25), type := 9, pos := "law.go:139", after := #[{ on := 2, ground := Ground.guard }], guard := some (2, false) }, { dst := some 213, op := Op.fieldAddr 60 (Operand.tmp 24) 1, type := 0, pos := "law.go:139", after := #[{ on := 2, ground := Ground.guard }], guard := some (2, false) }, { dst := some 214, op := Op.load 40 (Operand.tmp 213), type := 40, pos := "law.go:139", after := #[{ on := 4, ground := Ground.data }, { on := 2, ground := Ground.guard }], guard := some (2, false) }, { dst := some 215, op := Op.convert 40 9 (Operand.tmp 214), type := 9, pos := "law.go:139", after := #[{ on := 5, ground := Ground.data }, { on := 2, ground := Ground.guard }], guard := some (2, false) }, { dst := some 216, op := Op.binOp BinOp.neq 9 (Operand.tmp 212) (Operand.tmp 215) 9, type := 4, pos := "law.go:139", after := #[{ on := 3, ground := Ground.data }, { on := 6, ground := Ground.data }, { on := 2, ground := Ground.guard }], guard := some (2, false) }, { dst := some 217, op := Op.pick (Operand.tmp 211) (Operand.const (Value.bool true)) (Operand.tmp 216), type := 4, pos := "law.go:139", after := #[{ on := 2, ground := Ground.data }, { on := 7, ground := Ground.data }], guard := none }, { dst := some 218, op := Op.move (Operand.tmp 217), type := 4, pos := "law.go:139", after := #[{ on := 8, ground := Ground.data }, { on := 2, ground := Ground.chain }], guard := none }, { dst := some 219, op := Op.move (Operand.tmp 23), type := 3, pos := "law.go:139", after := #[{ on := 9, ground := Ground.guard }], guard := some (9, false) }, { dst := some 220, op := Op.binOp BinOp.gtr 3 (Operand.tmp 219) (Operand.const (Value.int IntKind.i64 0)) 3, type := 4, pos := "law.go:139", after := #[{ on := 10, ground := Ground.data }, { on := 9, ground := Ground.guard }], guard := some (9, false) }, { dst := some 221, op := Op.move (Operand.tmp 220), type := 4, pos := "law.go:139", after := #[{ on := 11, ground := Ground.data }, { on := 9, ground := Ground.chain }, { on := 9, ground := Ground.guard }], guard := some (9, false) }, { dst := some 222, op := Op.move (Operand.tmp 22), type := 46, pos := "law.go:139", after := #[{ on := 12, ground := Ground.guard }], guard := some (12, true) }, { dst := some 223, op := Op.move (Operand.tmp 23), type := 3, pos := "law.go:139", after := #[{ on := 12, ground := Ground.guard }], guard := some (12, true) }, { dst := some 224, op := Op.binOp BinOp.sub 3 (Operand.tmp 223) (Operand.const (Value.int IntKind.i64 1)) 3, type := 3, pos := "law.go:139", after := #[{ on := 14, ground := Ground.data }, { on := 12, ground := Ground.guard }], guard := some (12, true) }, { dst := some 225, op := Op.indexAddr 46 (Operand.tmp 222) (Operand.tmp 224), type := 0, pos := "law.go:139", after := #[{ on := 13, ground := Ground.data }, { on := 15, ground := Ground.data }, { on := 12, ground := Ground.guard }], guard := some (12, true) }, { dst := some 226, op := Op.fieldAddr 60 (Operand.tmp 225) 0, type := 0, pos := "law.go:139", after := #[{ on := 16, ground := Ground.data }, { on := 12, ground := Ground.guard }], guard := some (12, true) }, { dst := some 227, op := Op.load 40 (Operand.tmp 226), type := 40, pos := "law.go:139", after := #[{ on := 17, ground := Ground.data }, { on := 12, ground := Ground.guard }], guard := some (12, true) }, { dst := some 228, op := Op.convert 40 9 (Operand.tmp 227), type := 9, pos := "law.go:139", after := #[{ on := 18, ground := Ground.data }, { on := 12, ground := Ground.guard }], guard := some (12, true) }, { dst := some 229, op := Op.fieldAddr 60 (Operand.tmp 24) 0, type := 0, pos := "law.go:139", after := #[{ on := 12, ground := Ground.guard }], guard := some (12, true) }, { dst := some 230, op := Op.load 40 (Operand.tmp 229), type := 40, pos := "law.go:139", after := #[{ on := 20, ground := Ground.data }, { on := 12, ground := Ground.guard }], guard := some (12, true) }, { dst := some 231, op := Op.convert 40 9 (Operand.tmp 230), type := 9, pos := "law.go:139", after := #[{ on := 21, ground := Ground.data }, { on := 12, ground := Ground.guard }], guard := some (12, true) }, { dst := some 232, op := Op.binOp BinOp.geq 9 (Operand.tmp 228) (Operand.tmp 231) 9, type := 4, pos := "law.go:139", after := #[{ on := 19, ground := Ground.data }, { on := 22, ground := Ground.data }, { on := 12, ground := Ground.guard }], guard := some (12, true) }, { dst := some 233, op := Op.pick (Operand.tmp 221) (Operand.tmp 232) (Operand.const (Value.bool false)), type := 4, pos := "law.go:139", after := #[{ on := 12, ground := Ground.data }, { on := 23, ground := Ground.data }, { on := 9, ground := Ground.guard }], guard := some (9, false) }, { dst := some 234, op := Op.pick (Operand.tmp 218) (Operand.const (Value.bool true)) (Operand.tmp 233), type := 4, pos := "law.go:139", after := #[{ on := 9, ground := Ground.data }, { on := 24, ground := Ground.data }], guard := none }] true).seq (Code.cond (Operand.tmp 234) ((Code.region 37 #[{ dst := some 4, op := Op.assign (Operand.const (Value.bool false)), type := 4, pos := "law.go:140", after := #[], guard := none }] false).seq Code.ret) Code.skip))))).seq (Code.region 38 #[{ dst := some 235, op := Op.binOp BinOp.add 3 (Operand.tmp 196) (Operand.const (Value.int IntKind.i64 1)) 3, type := 3, pos := "law.go:137", after := #[], guard := none }, { dst := some 196, op := Op.move (Operand.tmp 235), type := 3, pos := "law.go:137", after := #[{ on := 0, ground := Ground.data }], guard := none }] false)))).loop)).seq ((Code.region 39 #[{ dst := some 236, op := Op.move (Operand.tmp 5), type := 4, pos := "law.go:143", after := #[], guard := none }, { dst := some 237, op := Op.move (Operand.tmp 236), type := 4, pos := "law.go:143", after := #[{ on := 0, ground := Ground.data }], guard := none }, { dst := some 238, op := Op.move (Operand.tmp 22), type := 46, pos := "law.go:143", after := #[{ on := 1, ground := Ground.guard }], guard := some (1, true) }, { dst := some 239, op := Op.call { callee := Callee.builtin Builtin.len, args := #[Operand.tmp 238], argTypes := #[46] }, type := 3, pos := "law.go:143", after := #[{ on := 2, ground := Ground.data }, { on := 1, ground := Ground.guard }], guard := some (1, true) }, { dst := some 240, op := Op.move (Operand.tmp 8), type := 54, pos := "law.go:143", after := #[{ on := 1, ground := Ground.guard }], guard := some (1, true) }, { dst := some 241, op := Op.call { callee := Callee.builtin Builtin.len, args := #[Operand.tmp 240], argTypes := #[54] }, type := 3, pos := "law.go:143", after := #[{ on := 4, ground := Ground.data }, { on := 1, ground := Ground.chain }, { on := 1, ground := Ground.guard }], guard := some (1, true) }, { dst := some 242, op := Op.binOp BinOp.eql 3 (Operand.tmp 239) (Operand.tmp 241) 3, type := 4, pos := "law.go:143", after := #[{ on := 3, ground := Ground.data }, { on := 5, ground := Ground.data }, { on := 1, ground := Ground.guard }], guard := some (1, true) }, { dst := some 243, op := Op.pick (Operand.tmp 237) (Operand.tmp 242) (Operand.const (Value.bool false)), type := 4, pos := "law.go:143", after := #[{ on := 1, ground := Ground.data }, { on := 6, ground := Ground.data }], guard := none }, { dst := some 4, op := Op.assign (Operand.tmp 243), type := 4, pos := "law.go:143", after := #[{ on := 7, ground := Ground.data }, { on := 5, ground := Ground.chain }, { on := 0, ground := Ground.phase }, { on := 1, ground := Ground.phase }, { on := 2, ground := Ground.phase }, { on := 3, ground := Ground.phase }, { on := 4, ground := Ground.phase }, { on := 5, ground := Ground.phase }, { on := 6, ground := Ground.phase }, { on := 7, ground := Ground.phase }], guard := none }] false).seq Code.ret)) (bodyPost Try.prog Try.f4 (Fine w)) a w_1 → K a w_1)
    (Q : Hid (Law w0 (sysT gt g T M) (sysP (sysMp mb n (strV M L)) Y) [] wz)) (S : Hid (Kp kn mn T M n L)) (B0W : Hid (Below w.heap.size w w0)) (mn2 : mn ≤ 16) (kn2 : kn ≤ 16) :
    Code.wp Try.prog (Code.region 31 ({ dst := some 192, op := Op.move (Operand.tmp 6), type := 31, pos := "law.go:136", after := #[], guard := none } :: { dst := some 193, op := Op.call { callee := Callee.value (Operand.func 17), args := #[Operand.tmp 192, Operand.const (Value.int IntKind.i64 0)], argTypes := #[31, 3] }, type := 46, pos := "law.go:136", after := #[{ on := 0, ground := Ground.data }], guard := none } :: { dst := some 22, op := Op.assign (Operand.tmp 193), type := 46, pos := "law.go:136", after := #[{ on := 1, ground := Ground.data }, { on := 1, ground := Ground.chain }, { on := 0, ground := Ground.phase }, { on := 1, ground := Ground.phase }], guard := none } :: []).toArray false) (Exit.then K (bodyPost Try.prog Try.f4 (Fine w))) { tmps := (t0 :: t1 :: t2 :: t3 :: t4 :: .bool true :: .pointer (some ⟨gt, 0, none⟩) :: t7 :: .map (some mb) :: t9 :: t10 :: t11 :: t12 :: t13 :: t14 :: t15 :: t16 :: t17 :: t18 :: t19 :: t20 :: t21 :: t22 :: t23 :: t24 :: t25 :: t26 :: t27 :: t28 :: t29 :: t30 :: t31 :: t32 :: t33 :: t34 :: t35 :: t36 :: t37 :: t38 :: t39 :: t40 :: t41 :: t42 :: t43 :: t44 :: t45 :: t46 :: t47 :: t48 :: t49 :: t50 :: t51 :: t52 :: t53 :: t54 :: t55 :: t56 :: t57 :: t58 :: t59 :: t60 :: t61 :: t62 :: t63 :: t64 :: t65 :: t66 :: t67 :: t68 :: t69 :: t70 :: t71 :: t72 :: t73 :: t74 :: t75 :: t76 :: t77 :: t78 :: t79 :: t80 :: t81 :: t82 :: t83 :: t84 :: t85 :: t86 :: t87 :: t88 :: t89 :: t90 :: t91 :: t92 :: t93 :: t94 :: t95 :: t96 :: t97 :: t98 :: t99 :: t100 :: t101 :: t102 :: t103 :: t104 :: t105 :: t106 :: t107 :: t108 :: t109 :: t110 :: t111 :: t112 :: t113 :: t114 :: t115 :: t116 :: t117 :: t118 :: t119 :: t120 :: t121 :: t122 :: t123 :: t124 :: t125 :: t126 :: t127 :: t128 :: t129 :: t130 :: t131 :: t132 :: t133 :: t134 :: t135 :: t136 :: t137 :: t138 :: t139 :: t140 :: t141 :: t142 :: t143 :: t144 :: t145 :: t146 :: t147 :: t148 :: t149 :: t150 :: t151 :: t152 :: t153 :: t154 :: t155 :: t156 :: t157 :: t158 :: t159 :: t160 :: t161 :: t162 :: t163 :: t164 :: t165 :: t166 :: t167 :: t168 :: t169 :: t170 :: t171 :: t172 :: t173 :: t174 :: t175 :: t176 :: t177 :: t178 :: t179 :: t180 :: t181 :: t182 :: t183 :: t184 :: t185 :: t186 :: t187 :: t188 :: t189 :: t190 :: t191 :: t192 :: t193 :: t194 :: t195 :: t196 :: t197 :: t198 :: t199 :: t200 :: t201 :: t202 :: t203 :: t204 :: t205 :: t206 :: t207 :: t208 :: t209 :: t210 :: t211 :: t212 :: t213 :: t214 :: t215 :: t216 :: t217 :: t218 :: t219 :: t220 :: t221 :: t222 :: t223 :: t224 :: t225 :: t226 :: t227 :: t228 :: t229 :: t230 :: t231 :: t232 :: t233 :: t234 :: t235 :: t236 :: t237 :: t238 :: t239 :: t240 :: t241 :: t242 :: t243 :: []).toArray, defers := [] } wz := by
  have TOKT := Lib.hid Q.out.okT.1.ok
  obtain ⟨hil, hl16, hkl, hit⟩ := keep_items S.out TOKT.out (by omega) (by omega)
  have OKI := Lib.hid (items_okI (i := 0) TOKT.out Q.out.okT.2)
  have KOKL := Lib.hid (S.out.byt TOKT.out).1
  have IT := Lib.hid (lt_Items 0 Q.out (by obtain ⟨_, rfl, _⟩ := S.out.shape; simp))
  generalize tItems T M 0 = il at *
  have HKL := Lib.hid hkl
  have HIT := Lib.hid hit
  have HIL := Lib.hid hil
  clear hit hil hkl
  go_wp2_with fail
  refine (IT.out).mono ?_
  rintro e w4 h4
  obtain ⟨A, c, rfl, IS, ic1, ic2, b4⟩ := itemsW_ok h4
  have IS := Lib.hid IS
  have Q4 := Lib.hid (Q.out.after b4)
  clear h4 b4 Q IT
  rw [HIL.out] at ic1 ⊢
  generalize hnl : L.length = nl at *
  have HNL := Lib.hid hnl
  clear hnl
  unfold maxLen at ic2
  go_wp2_with fail
  go_loopw [196] (fun iv wx => ∃ j : Nat, iv = .int .i64 j ∧ j ≤ nl ∧ Hid (Below w4.heap.size w4 wx)) (fun iv wx => nl - (intOf iv).toNat)
  case atStart => exact ⟨0, rfl, by omega, Lib.hid (Below.refl _ _)⟩
  case round =>
    obtain ⟨j, rfl, hj, W⟩ := hrel
    have j0 : (0 : Int) ≤ j := by omega
    by_cases hlt : (j : Int) < nl
    · have hjn : j < nl := by omega
      obtain ⟨gI, oI, rfl, hgI, hcI⟩ := IS.out.after W.out (by rw [HIL.out]; omega)
      obtain ⟨A1, c1, A2, c2, e1, e2, y1, y2⟩ := hcI j (by rw [HIL.out]; omega)
      obtain ⟨hval, hord⟩ := HIT.out j (by omega)
      obtain ⟨ok1, ok2⟩ := OKI.out j (by rw [HIL.out]; exact hjn)
      have HPREV : Hid (0 < j → ∃ A0 n0 c0, wr.cell? ⟨gI, oI + (j - 1) * 2, none⟩ = some (.slice A0 n0 c0) ∧ (∀ u, Below wr.heap.size wr u → (convert 40 9 (.slice A0 n0 c0)).run Try.prog u = .ok (.string (strOfNums (iAt il (j - 1)).1)) u) ∧ Op.bytesLess (strOfNums (iAt il (j - 1)).1).toList (strOfNums (iAt il j).1).toList = true) := Lib.hid fun h0 => by
        obtain ⟨A0, c0, A3, c3, p1, p2, z1, z2⟩ := hcI (j - 1) (by rw [HIL.out]; omega)
        refine ⟨A0, _, c0, p1, fun u b => str_bytS (z1.after b) c0, ?_⟩
        rw [less_kLt (OKI.out (j - 1) (by rw [HIL.out]; omega)).1 ok1]
        exact hord h0
      clear hcI hord
      have LK0 : Hid (∀ u, Below w4.heap.size w4 u → (Instr.lookup 54 (.map (some mb)) (.string (strOfNums (iAt il j).1)) true).run Try.prog u = .ok (.tuple #[.string (strOfNums (iAt il j).2), .bool true]) u) := Lib.hid fun u b => by
        have h := (Q4.out.after b).mapIs.look strK Try.underlying54 (valZ _) (keyOf_key (key := (iAt il j).1) (by have := HKL.out j (by omega); unfold maxLen; omega))
        rw [hval] at h
        exact h
      have CV1 : Hid (∀ u, Below wr.heap.size wr u → (convert 40 9 (.slice A1 (iAt il j).1.length c1)).run Try.prog u = .ok (.string (strOfNums (iAt il j).1)) u) := Lib.hid fun u b => str_bytS (y1.after b) c1
      have CV2 : Hid (∀ u, Below wr.heap.size wr u → (convert 40 9 (.slice A2 (iAt il j).2.length c2)).run Try.prog u = .ok (.string (strOfNums (iAt il j).2)) u) := Lib.hid fun u b => str_bytS (y2.after b) c2
      have nq2 : ∀ u, (binOp BinOp.neq 9 (.string (strOfNums (iAt il j).2)) (.string (strOfNums (iAt il j).2))).run Try.prog u = .ok (.bool false) u := fun u => by
        rw [neq_str _ _ ok2 ok2 u]; simp
      have gq : 0 < j → ∀ u, (binOp BinOp.geq 9 (.string (strOfNums (iAt il (j - 1)).1)) (.string (strOfNums (iAt il j).1))).run Try.prog u = .ok (.bool false) u := fun h0 u => by
        obtain ⟨_, _, _, _, _, h⟩ := HPREV.out h0
        have e : (binOp BinOp.geq 9 (.string (strOfNums (iAt il (j - 1)).1)) (.string (strOfNums (iAt il j).1))).run Try.prog u = .ok (.bool (!(Op.bytesLess (strOfNums (iAt il (j - 1)).1).toList (strOfNums (iAt il j).1).toList))) u := rfl
        rw [e, h]
        rfl
      have WB := Lib.hid (below_next' W.out (below_alloc (Below.refl wr.heap.size wr) (.cells #[.slice A1 (iAt il j).1.length c1, .slice A2 (iAt il j).2.length c2] 60)))
      have WR := Lib.hid (below_alloc (Below.refl wr.heap.size wr) (.cells #[.slice A1 (iAt il j).1.length c1, .slice A2 (iAt il j).2.length c2] 60))
      have BQ := Lib.hid (Blk.new wr #[.slice A1 (iAt il j).1.length c1, .slice A2 (iAt il j).2.length c2] 60 rfl)
      have DQ : Hid (∀ q, Below wr.heap.size wr ((wr.alloc (.cells #[.slice A1 (iAt il j).1.length c1, .slice A2 (iAt il j).2.length c2] 60)).drewN q)) := Lib.hid fun q => below_next' WR.out (below_drewN (Below.refl _ _) q)
      clear y1 y2 hval ok1 ok2 hgI
      generalize (iAt il j).1.length = n1 at *
      generalize (iAt il j).2.length = n2 at *
      generalize (iAt il j).1 = key at *
      generalize (iAt il j).2 = val at *
      generalize (iAt il (j - 1)).1 = pk at *
      go_upto_region 35 with fail
      generalize hκ : wr.heap.size = κ at *
      generalize hwq : wr.alloc (.cells #[.slice A1 n1 c1, .slice A2 n2 c2] 60) = wq at *
      have r0 : wq.cell? ⟨κ, 0, none⟩ = some (.slice A1 n1 c1) := Blk.cell BQ.out 0
      have r1 : wq.cell? ⟨κ, 1, none⟩ = some (.slice A2 n2 c2) := Blk.cell BQ.out 1
      have v1 := CV1.out wq WR.out
      have lk := LK0.out wq WB.out
      have v1q := fun q => CV1.out (wq.drewN q) (DQ.out q)
      have v2q := fun q => CV2.out (wq.drewN q) (DQ.out q)
      clear e1 e2 hwq
      by_cases h0 : j = 0
      · subst h0
        clear gq HPREV
        go_wp2_with fail
        go_quiet (fail)
        go_wp2
        go_round
        case rel => exact ⟨1, by go_num, by omega, Lib.hid (below_drewN WB.out _)⟩
        case measure => simp [intOf]; omega
      · obtain ⟨A0, n0, c0, p1, p2, hls⟩ := HPREV.out (by omega)
        have p1q : wq.cell? ⟨gI, oI + (j - 1) * 2, none⟩ = some (.slice A0 n0 c0) := cell_on p1 (by rw [hκ]; exact WR.out)
        have p2q := fun q => p2 (wq.drewN q) (DQ.out q)
        have gq' := gq (by omega)
        have f1 : decide (0 < j) = true := decide_eq_true (by omega)
        have f1b : 0 < j := by omega
        have f5 : j - 1 < nl := by omega
        have f2 : IntKind.i64.wrap ((j : Int) - 1) = ((j - 1 : Nat) : Int) := by rw [IntKind.wrap_i64]; omega
        have f3 : (0 : Int) ≤ ((j - 1 : Nat) : Int) := by omega
        have f4 : ((j - 1 : Nat) : Int) < nl := by omega
        clear p1 p2 gq HPREV
        generalize j - 1 = jp at *
        go_wp2_with fail
        go_quiet (fail)
        go_wp2
        go_round
        case rel => exact ⟨j + 1, by go_num, by omega, Lib.hid (below_drewN WB.out _)⟩
        case measure => simp [intOf]; omega
    · clear IS
      have hlen := fun ty => mapV_len (Q4.out.after W.out).mapIs KOKL.out ty
      rw [HNL.out] at hlen
      have FW := Lib.hid (below_next' B0W.out ((Q4.out.after W.out).below))
      go_wp2_with fail
      go_ret
      exact ⟨rfl, FW.out⟩

end Go.Proofs.Ytempkpfcjonaaaa


/-
  The statement TableKeeps, walked: a map is what was put there last, as a map of the language says.
  Conditions: the acts lie where they are said to; the numbers fit their kinds.
-/
namespace Go.Proofs.Ytempkpfcjonaaaa
open Go.RowKit
set_option maxRecDepth 100000
set_option linter.unusedVariables false
set_option linter.unusedSimpArgs false

/-- '(x%16+16)%16', and one more. -/
theorem sixteen (x : Int) : ∃ (a q : Int) (k : Nat), x.tmod 16 = a ∧ IntKind.i64.wrap a = a ∧ IntKind.i64.wrap (a + 16) = a + 16 ∧ (a + 16).tmod 16 = q ∧ IntKind.i64.wrap q = q ∧ IntKind.i64.wrap (1 + q) = (k : Int) ∧ 1 ≤ k ∧ k ≤ 16 := by
  have hb : -15 ≤ x.tmod 16 ∧ x.tmod 16 ≤ 15 := by
    rcases Int.le_total 0 x with h | h
    · rw [Int.tmod_eq_emod_of_nonneg h]; omega
    · obtain ⟨y, rfl⟩ : ∃ y, x = -y := ⟨-x, by omega⟩
      rw [Int.neg_tmod, Int.tmod_eq_emod_of_nonneg (by omega)]; omega
  generalize x.tmod 16 = a at *
  have hq : (a + 16).tmod 16 = (a + 16) % 16 := Int.tmod_eq_emod_of_nonneg (by omega)
  refine ⟨a, (a + 16) % 16, (1 + (a + 16) % 16).toNat, rfl, by rw [IntKind.wrap_i64]; omega, by rw [IntKind.wrap_i64]; omega, hq, by rw [IntKind.wrap_i64]; omega, by rw [IntKind.wrap_i64]; omega, by omega, by omega⟩

set_option maxHeartbeats 2000000 in
theorem l9_TableKeeps (w : World) (dh : Bool) (dk dv dm : Int) (A : Option Addr) (c : Nat) (l : List Ap) (hl : ApS w A l) (hok : ∀ k, k < l.length → (apAt l k).ok w) (hlc : l.length ≤ c) (hc : c ≤ maxLen) :
    Calls Try.prog 4 #[.agg #[.bool dh, .int .i64 dk, .int .i64 dv, .int .i64 dm], .slice A l.length c] w (Fine w) := by
  have SH := Lib.hid l9_shown
  obtain ⟨ka, kq, kn, ka1, ka2, ka3, ka4, ka5, ka6, kn1, kn2⟩ := sixteen dk
  obtain ⟨ma, mq, mn, ma1, ma2, ma3, ma4, ma5, ma6, mn1, mn2⟩ := sixteen dm
  have FW : Hid (∀ u, Below w.heap.size w u → Calls Try.prog 14 #[.slice A l.length c] u _) := Lib.hid fun u b => l9_few u A c l (fun h => by
    obtain ⟨g, o, e, hg, hcell⟩ := hl h
    exact ⟨g, o, e, Nat.lt_of_lt_of_le hg b.size, fun k hk j hj => (b.cell (p := ⟨g, o + k * 5 + j, none⟩) hg).trans (hcell k hk j hj)⟩) hlc hc
  have OKF : Hid (∀ a ∈ fewJ l l.length, a.ok w ∧ a.k.length ≤ 80 ∧ a.v.length ≤ 80) := Lib.hid fun a ha => by
    obtain ⟨⟨h1, h2⟩, k, hk, rfl⟩ := fewJ_mem l l.length (Nat.le_refl _) a ha
    exact ⟨hok k hk, h1, h2⟩
  have FLN := Lib.hid (fewJ_len l l.length).2
  have MEM := Lib.hid fun u => lt_Mem (law_start u)
  have NW : Hid (∀ (w0 u u' : World) (g : Nat) (C : Option Addr), Law w0 (sysM g []) sysO [] u → Below u.heap.size u u' → DefS u' C [kD kn mn] → (∀ g o, C = some ⟨g, o, none⟩ → g < w0.heap.size ∨ u.heap.size ≤ g) → Calls Try.prog 10 #[.pointer (some ⟨g, 0, none⟩), .slice C 1 1] u' (fun e w' => ∃ gt, e = .returned (.tuple #[.pointer (some ⟨gt, 0, none⟩), .int .i64 0]) ∧ Law w0 (sysT gt g [⟨kD kn mn, [], 0⟩] []) sysO [] w')) := Lib.hid fun w0 u u' g C h b hl hs => by
    have h1 := lt_New [kD kn mn] C 1 1 h b hl hs rfl (Nat.le_refl _) (by unfold maxLen; omega) (by simp)
    rw [kp_new (by omega) (by omega)] at h1
    exact h1
  clear hl hok hlc hc
  generalize l.length = ln at *
  have X0 := Lib.hid (Blk.new w #[.bool dh, .int .i64 dk, .int .i64 dv, .int .i64 dm] 53 rfl)
  go_enter Try.func4, Try.ntmps4
  go_wp2_with fail
  refine (SH.out _).mono ?_
  rintro e w1 ⟨rfl, b1⟩
  have V1 := Lib.hid (below_next' (below_alloc (Below.refl w.heap.size w) (.cells #[.bool dh, .int .i64 dk, .int .i64 dv, .int .i64 dm] 53)) b1)
  have B1 := Lib.hid (X0.out.after b1)
  obtain ⟨⟨x0, x1, x2, x3⟩, y0, y1, y2, y3⟩ := blk_four B1.out
  clear b1 SH X0
  generalize hρ : w.heap.size = ρ at *
  go_upto_region 3 with fail
  have BD : Hid (Blk ρ #[.bool true, .int .i64 (kn : Int), .int .i64 8, .int .i64 (mn : Int)] 53 ((((w1.setCell ⟨ρ, 0, none⟩ (.bool true)).setCell ⟨ρ, 1, none⟩ (.int .i64 (kn : Int))).setCell ⟨ρ, 2, none⟩ (.int .i64 8)).setCell ⟨ρ, 3, none⟩ (.int .i64 (mn : Int)))) := Lib.hid ((((Blk.set B1.out 0 _).set 1 _).set 2 _).set 3 _)
  have VD : Hid (Below ρ w ((((w1.setCell ⟨ρ, 0, none⟩ (.bool true)).setCell ⟨ρ, 1, none⟩ (.int .i64 (kn : Int))).setCell ⟨ρ, 2, none⟩ (.int .i64 8)).setCell ⟨ρ, 3, none⟩ (.int .i64 (mn : Int)))) := Lib.hid ((((V1.out.setCell (p := ⟨ρ, 0, none⟩) (Nat.le_refl _) _).setCell (p := ⟨ρ, 1, none⟩) (Nat.le_refl _) _).setCell (p := ⟨ρ, 2, none⟩) (Nat.le_refl _) _).setCell (p := ⟨ρ, 3, none⟩) (Nat.le_refl _) _)
  clear x0 x1 x2 x3 y0 y1 y2 y3 B1 V1 ka1 ka2 ka3 ka4 ka5 ka6 ma1 ma2 ma3 ma4 ma5 ma6
  generalize ((((w1.setCell ⟨ρ, 0, none⟩ (.bool true)).setCell ⟨ρ, 1, none⟩ (.int .i64 (kn : Int))).setCell ⟨ρ, 2, none⟩ (.int .i64 8)).setCell ⟨ρ, 3, none⟩ (.int .i64 (mn : Int))) = wA at *
  refine keeps_r3 hρ MEM NW BD VD (fun gt g w0 wc v44 v45 v46 v47 v48 v49 v50 Q' B0 BD0 => ?_)
  have Q : Hid (Law w0 (sysT gt g [⟨kD kn mn, [], 0⟩] []) sysO [] wc) := Q'
  clear Q'
  clear VD BD NW MEM
  have HBK : Hid (∀ u, Below w0.heap.size w0 u → u.cell? ⟨ρ, 1, none⟩ = some (.int .i64 (kn : Int)) ∧ u.cell? ⟨ρ, 3, none⟩ = some (.int .i64 (mn : Int))) := Lib.hid fun u b => ⟨Blk.cell (BD0.out.after b) 1, Blk.cell (BD0.out.after b) 3⟩
  clear BD0
  have QM := Lib.hid Q.out.mapNew
  generalize hb0 : wc.heap.size = mb at *
  clear Q
  have B0W := Lib.hid (show Below w.heap.size w w0 by rw [hρ]; exact B0.out)
  clear B0
  have hmk := fun u => run_makeMap (P := Try.prog) 54 u
  go_wp2_with fail
  clear hmk
  refine (FW.out _ (by rw [← hρ]; exact B0W.out.trans (QM.out.below.mono B0W.out.size))).mono ?_
  rintro e w7 ⟨vf, rfl, hrow, b⟩
  generalize hFL : fewJ l ln = FL at *
  have hsz := hrow
  have QR := Lib.hid (QM.out.rowP b hrow)
  generalize (wc.alloc (.map #[] 0)).heap.size = bs at *
  obtain ⟨Af, cf, rfl, hfc1, hfc2⟩ := own_slice hrow
  clear hrow b FW hFL QM hsz hb0
  have HFL := Lib.hid (show FL.length = FL.length from rfl)
  generalize hln : FL.length = fl at *
  unfold maxLen at hfc2
  have Q0 : Hid (Law w0 (sysT gt g [⟨kD kn mn, [], 0⟩] []) (sysP (sysMp mb 0 (strV [] [])) (sysR bs 43 5 (.slice Af fl cf) fl (apC FL))) [] w7) := Lib.hid (QR.out.mapMono (Nat.le_refl _) (fun kl => by cases kl <;> rfl))
  have S0 := Lib.hid (kp_start kn mn)
  clear QR
  go_wp2_with fail
  go_loopw [61] (fun iv wr => ∃ (j : Nat) (T : TT) (M : PM) (L : List TK), iv = .int .i64 j ∧ j ≤ fl ∧ Hid (Kp kn mn T M j L) ∧ Hid (Law w0 (sysT gt g T M) (sysP (sysMp mb j (strV M L)) (sysR bs 43 5 (.slice Af fl cf) fl (apC FL))) [] wr)) (fun iv wr => fl - (intOf iv).toNat)
  case atStart => exact ⟨0, _, _, _, rfl, by omega, S0, Q0⟩
  case round =>
    obtain ⟨j, T, M, L, rfl, hj, S, Q⟩ := hrel
    have j0 : (0 : Int) ≤ j := by omega
    clear S0 Q0
    by_cases hlt : (j : Int) < fl
    · have hjn : j < fl := by omega
      obtain ⟨q, rfl, _, _⟩ := own_addr Q.out.rowPOf (by omega)
      have hC : ∀ r, r < 5 → wr.cell? ⟨q, j * 5 + r, none⟩ = some ((apAt FL j).cell r) := fun r hr => by
        rw [Q.out.rowPOf.cellAt (j * 5 + r) (by omega), apC_at FL j r (by omega) hr]
        match r, hr with
        | 0, _ => rfl
        | 1, _ => rfl
        | 2, _ => rfl
        | 3, _ => rfl
        | 4, _ => rfl
      have c0 : wr.cell? ⟨q, j * 5, none⟩ = some (.int .u8 (apAt FL j).kind) := hC 0 (by omega)
      have c1 : wr.cell? ⟨q, j * 5 + 1, none⟩ = some (.int .i64 (apAt FL j).map) := hC 1 (by omega)
      have c2 : wr.cell? ⟨q, j * 5 + 2, none⟩ = some (.slice (apAt FL j).ka (apAt FL j).k.length (apAt FL j).kc) := hC 2 (by omega)
      have c3 : wr.cell? ⟨q, j * 5 + 3, none⟩ = some (.slice (apAt FL j).va (apAt FL j).v.length (apAt FL j).vc) := hC 3 (by omega)
      have c4 : wr.cell? ⟨q, j * 5 + 4, none⟩ = some (.int .u64 (apAt FL j).fl) := hC 4 (by omega)
      obtain ⟨⟨ak, _, afl, ⟨ab, aok, akc, akm⟩, ⟨vb, vok, vkc, vkm⟩⟩, a80, v80⟩ := OKF.out (apAt FL j) (apAt_mem (by omega))
      clear hC
      generalize apAt FL j = a at *
      obtain ⟨x0, x1, x2, x3, key, x4, x5, val, x6⟩ := a
      dsimp only at c0 c1 c2 c3 c4 ak afl ab aok akc akm vb vok vkc vkm a80 v80
      generalize hnk : key.length = nk at *
      generalize hnv : val.length = nv at *
      have BWR : Hid (Below w.heap.size w wr) := Lib.hid (B0W.out.trans (Q.out.below.mono B0W.out.size))
      go_upto_region 10 with fail
      have BA : Hid (Blk wr.heap.size #[.int .u8 x0, .int .i64 x1, .slice x2 nk x3, .slice x4 nv x5, .int .u64 x6] 43 (wr.alloc (.cells #[.int .u8 x0, .int .i64 x1, .slice x2 nk x3, .slice x4 nv x5, .int .u64 x6] 43))) := Lib.hid (Blk.new wr _ _ rfl)
      have BW2 : Hid (Below wr.heap.size wr (wr.alloc (.cells #[.int .u8 x0, .int .i64 x1, .slice x2 nk x3, .slice x4 nv x5, .int .u64 x6] 43))) := Lib.hid (below_alloc (Below.refl _ _) _)
      clear c0 c1 c2 c3 c4
      generalize wr.alloc (.cells #[.int .u8 x0, .int .i64 x1, .slice x2 nk x3, .slice x4 nv x5, .int .u64 x6] 43) = wb at *
      have HBB : Hid (∀ u, Below wr.heap.size wr u → u.cell? ⟨ρ, 1, none⟩ = some (.int .i64 (kn : Int)) ∧ u.cell? ⟨ρ, 3, none⟩ = some (.int .i64 (mn : Int))) := Lib.hid fun u b => HBK.out u (Q.out.after b).below
      generalize hκ : wr.heap.size = κ at *
      have QD : Hid (Below κ wr wb.drew) := Lib.hid (BW2.out.drew)
      have KQ : Hid (wb.heap.size ≤ wb.drew.heap.size ∧ κ ≤ wb.heap.size) := Lib.hid ⟨Nat.le_refl _, by rw [← hκ]; exact BW2.out.size⟩
      have BAD : Hid (Blk κ #[.int .u8 x0, .int .i64 x1, .slice x2 nk x3, .slice x4 nv x5, .int .u64 x6] 43 wb.drew) := Lib.hid (show Blk κ #[.int .u8 x0, .int .i64 x1, .slice x2 nk x3, .slice x4 nv x5, .int .u64 x6] 43 wb.drew from BA.out)
      have BDK : Hid (Below wb.heap.size wb wb.drew) := Lib.hid (Below.drew (Below.refl _ _))
      have AB := Lib.hid ((ab.after BWR.out).after (by rw [hκ]; exact QD.out))
      have VB := Lib.hid ((vb.after BWR.out).after (by rw [hκ]; exact QD.out))
      have SD : Hid (∀ u, Below wb.drew.heap.size wb.drew u → u.cell? ⟨κ, 2, none⟩ = some (.slice x2 nk x3) ∧ u.cell? ⟨ρ, 1, none⟩ = some (.int .i64 (kn : Int))) := Lib.hid fun u b => ⟨Blk.cell (BAD.out.after b) 2, (HBB.out u (by rw [← hκ]; exact (by rw [hκ]; exact QD.out.trans (b.mono (by have := KQ.out; omega))))).1⟩
      obtain ⟨v1, wP, g16, c16, wB, hr1, hr2, ho, hbP, hbB, hc1, hc2⟩ := pad_z wb.drew x2 nk x3 16 key AB.out hnk.symm a80 (by omega) (by omega)
      have k16 : (kn : Int) ≤ c16 := by omega
      have kn0 : (0 : Int) ≤ kn := by omega
      have hcv := padK_str (w := wB) (A := some ⟨g16, 0, none⟩) (k := key) (z := 16) (n := kn) (c := c16) (own_bytS (by rw [List.length_append, List.length_replicate, hnk]) ho) (by omega)
      have KOKK := Lib.hid (padK_ok aok 16 kn)
      have KLEN := Lib.hid (padK_len key (z := 16) (n := kn) (by omega))
      unfold maxLen at hc2
      clear ho
      generalize padK key 16 kn = pk at *
      generalize hwd : wb.drew = wd at *
      refine wp_region_held_drew (S := fun w' => w'.cell? ⟨κ, 2, none⟩ = some (.slice x2 nk x3) ∧ w'.cell? ⟨ρ, 1, none⟩ = some (.int .i64 (kn : Int))) (by kernel_rfl) (by rw [hwd]; exact SD.out _ (Below.refl _ _)) (fun hHeld => ?_)
      rw [hwd] at hHeld ⊢
      clear hwd
      refine wpAnyH_take (i := 1) (oi := { dst := some 66, op := Op.fieldAddr 43 (Operand.tmp 10) 2, type := 0, pos := "law.go:110", after := #[], guard := none }) (v := ?_) rfl (by kernel_rfl) (by kernel_rfl) (by kernel_rfl) (fun _ _ _ h => h) (Or.inl ⟨by rfl, ?_⟩) (by first | exact hHeld | assumption) ?_
      rotate_left 1
      · intro w hSw; (try dsimp only at hSw); go_simp; try (with_reducible rfl)
      try simp only [Act.put, List.setIfInBounds_toArray, List.set_cons_zero, List.set_cons_succ]
      refine wpAnyH_take (i := 2) (oi := { dst := some 67, op := Op.load 40 (Operand.tmp 66), type := 40, pos := "law.go:110", after := #[{ on := 1, ground := Ground.data }], guard := none }) (v := ?_) rfl (by kernel_rfl) (by kernel_rfl) (by kernel_rfl) (fun _ _ _ h => h) (Or.inl ⟨by rfl, ?_⟩) (by first | exact hHeld | assumption) ?_
      rotate_left 1
      · intro w hSw; (try dsimp only at hSw); go_simp; try (with_reducible rfl)
      try simp only [Act.put, List.setIfInBounds_toArray, List.set_cons_zero, List.set_cons_succ]
      refine wpAnyH_take (i := 5) (oi := { dst := some 70, op := Op.fieldAddr 53 (Operand.tmp 2) 1, type := 0, pos := "law.go:110", after := #[], guard := none }) (v := ?_) rfl (by kernel_rfl) (by kernel_rfl) (by kernel_rfl) (fun _ _ _ h => h) (Or.inl ⟨by rfl, ?_⟩) (by first | exact hHeld | assumption) ?_
      rotate_left 1
      · intro w hSw; (try dsimp only at hSw); go_simp; try (with_reducible rfl)
      try simp only [Act.put, List.setIfInBounds_toArray, List.set_cons_zero, List.set_cons_succ]
      refine wpAnyH_take (i := 6) (oi := { dst := some 71, op := Op.load 3 (Operand.tmp 70), type := 3, pos := "law.go:110", after := #[{ on := 5, ground := Ground.data }], guard := none }) (v := ?_) rfl (by kernel_rfl) (by kernel_rfl) (by kernel_rfl) (fun _ _ _ h => h) (Or.inl ⟨by rfl, ?_⟩) (by first | exact hHeld | assumption) ?_
      rotate_left 1
      · intro w hSw; (try dsimp only at hSw); go_simp; try (with_reducible rfl)
      try simp only [Act.put, List.setIfInBounds_toArray, List.set_cons_zero, List.set_cons_succ]
      have hB1 := SD.out (wd.alloc (.cells #[] 5)) (below_alloc (Below.refl _ _) _)
      refine wpAnyH_ready (rs := [0]) (by kernel_rfl) (by simp) ?_
      refine AllReadyH.cons (o := { dst := some 65, op := Op.buildSlice 40 0 #[], type := 40, pos := "law.go:110", after := #[], guard := none }) rfl (fun K hK => ?_) AllReadyH.nil
      go_simp
      refine hK.out _ _ hB1 (fun hHeld => ?_)
      clear hK K
      try simp only [Act.put, List.setIfInBounds_toArray, List.set_cons_zero, List.set_cons_succ]
      have hB2 := SD.out wP hbP
      refine wpAnyH_ready (rs := [3]) (by kernel_rfl) (by simp) ?_
      refine AllReadyH.cons (o := { dst := some 68, op := Op.call { callee := Callee.builtin Builtin.append, args := #[Operand.tmp 65, Operand.tmp 67], argTypes := #[40, 40] }, type := 40, pos := "law.go:110", after := #[{ on := 0, ground := Ground.data }, { on := 2, ground := Ground.data }], guard := none }) rfl (fun K hK => ?_) AllReadyH.nil
      refine step_append_run rfl (.tmp 65) (.tmp 67) _ _ rfl _ _ rfl rfl _ _ hr1 ?_
      refine hK.out _ _ hB2 (fun hHeld => ?_)
      clear hK K
      try simp only [Act.put, List.setIfInBounds_toArray, List.set_cons_zero, List.set_cons_succ]
      have hB3 := SD.out wB hbB
      refine wpAnyH_ready (rs := [4]) (by kernel_rfl) (by simp) ?_
      refine AllReadyH.cons (o := { dst := some 69, op := Op.call { callee := Callee.builtin Builtin.append, args := #[Operand.tmp 68, Operand.const (Value.int IntKind.i64 16)], argTypes := #[40, 3] }, type := 40, pos := "law.go:110", after := #[{ on := 3, ground := Ground.data }, { on := 3, ground := Ground.chain }], guard := none }) rfl (fun K hK => ?_) AllReadyH.nil
      refine step_append_run rfl (.tmp 68) (.const (.int .i64 16)) _ _ rfl _ _ rfl rfl _ _ hr2 ?_
      refine hK.out _ _ hB3 (fun hHeld => ?_)
      clear hK K
      try simp only [Act.put, List.setIfInBounds_toArray, List.set_cons_zero, List.set_cons_succ]
      refine wpAnyH_take (i := 7) (oi := { dst := some 72, op := Op.slice 40 (Operand.tmp 69) none (some (Operand.tmp 71)) none, type := 40, pos := "law.go:110", after := #[{ on := 4, ground := Ground.data }, { on := 6, ground := Ground.data }], guard := none }) (v := ?_) rfl (by kernel_rfl) (by kernel_rfl) (by kernel_rfl) (fun _ _ _ h => h) (Or.inl ⟨by rfl, ?_⟩) (by first | exact hHeld | assumption) ?_
      rotate_left 1
      · intro w hSw; (try dsimp only at hSw); go_simp; try (with_reducible rfl)
      try simp only [Act.put, List.setIfInBounds_toArray, List.set_cons_zero, List.set_cons_succ]
      refine wpAnyH_ready (rs := [8]) (by kernel_rfl) (by simp) ?_
      refine AllReadyH.cons (o := { dst := some 73, op := Op.convert 40 9 (Operand.tmp 72), type := 9, pos := "law.go:110", after := #[{ on := 7, ground := Ground.data }], guard := none }) rfl (fun K hK => ?_) AllReadyH.nil
      go_simp
      refine hK.out _ _ hB3 (fun hHeld => ?_)
      clear hK K
      try simp only [Act.put, List.setIfInBounds_toArray, List.set_cons_zero, List.set_cons_succ]
      refine wpAnyH_take (i := 9) (oi := { dst := some 11, op := Op.assign (Operand.tmp 73), type := 9, pos := "law.go:110", after := #[{ on := 8, ground := Ground.data }, { on := 4, ground := Ground.chain }, { on := 0, ground := Ground.phase }, { on := 1, ground := Ground.phase }, { on := 2, ground := Ground.phase }, { on := 3, ground := Ground.phase }, { on := 4, ground := Ground.phase }, { on := 5, ground := Ground.phase }, { on := 6, ground := Ground.phase }, { on := 7, ground := Ground.phase }, { on := 8, ground := Ground.phase }], guard := none }) (v := ?_) rfl (by kernel_rfl) (by kernel_rfl) (by kernel_rfl) (fun _ _ _ h => h) (Or.inl ⟨by rfl, ?_⟩) (by first | exact hHeld | assumption) ?_
      rotate_left 1
      · intro w hSw; (try dsimp only at hSw); go_simp; try (with_reducible rfl)
      try simp only [Act.put, List.setIfInBounds_toArray, List.set_cons_zero, List.set_cons_succ]
      refine wpAnyH_done (by kernel_rfl) ?_ _
      have BC0 : Hid (Below wr.heap.size wr wB) := Lib.hid (by rw [hκ]; exact QD.out.trans (hbB.mono (by have := KQ.out; omega)))
      have BAB := Lib.hid (BAD.out.after hbB)
      have VBB := Lib.hid (VB.out.after hbB)
      clear hr1 hr2 hbP hbB hcv hB1 hB2 hB3 hHeld AB VB BAD SD QD BDK KQ BA BW2
      obtain ⟨v3, wS, g8, c8, wC, hr3, hr4, ho8, hbS, hbC, hc3, hc4⟩ := pad_z wB x4 nv x5 8 val VBB.out hnv.symm v80 (by omega) (by omega)
      have k8 : (8 : Int) ≤ c8 := by omega
      have hcv8 := padK_str (w := wC) (A := some ⟨g8, 0, none⟩) (k := val) (z := 8) (n := 8) (c := c8) (own_bytS (by rw [List.length_append, List.length_replicate, hnv]) ho8) (by omega)
      have VOKK := Lib.hid (padK_ok vok 8 8)
      have VLEN := Lib.hid (padK_len val (z := 8) (n := 8) (by omega))
      generalize padK val 8 8 = pv at *
      have r3 : (wB.alloc (.cells #[] 5)).cell? ⟨κ, 3, none⟩ = some (.slice x4 nv x5) := Blk.cell (BAB.out.after (below_alloc (Below.refl _ _) _)) 3
      unfold maxLen at hc4
      clear ho8
      go_upto_region 12 with (first | (at_builtin; refine Lib.wpList_append_run _ rfl (.tmp 74) (.tmp 76) _ _ rfl _ _ rfl rfl _ _ hr3 ?_) | (at_builtin; refine Lib.wpList_append_run _ rfl (.tmp 77) (.const (.int .i64 8)) _ _ rfl _ _ rfl rfl _ _ hr4 ?_))
      have BC : Hid (Below wr.heap.size wr wC) := Lib.hid (below_next' BC0.out hbC)
      have BAC := Lib.hid (BAB.out.after hbC)
      clear hr3 hr4 r3 hcv8 hbS hbC BC0 BAB VBB
      have QC := Lib.hid (Q.out.after BC.out)
      have QK : Hid (Law w0 (sysT gt g T M) (sysP (sysMp mb j (strV M L)) (sysK (sysR bs 43 5 (.slice (some ⟨q, 0, none⟩) fl cf) fl (apC FL)) κ #[.int .u8 x0, .int .i64 x1, .slice x2 nk x3, .slice x4 nv x5, .int .u64 x6] 43)) [] wC) := Lib.hid (Q.out.holdP BC.out BAC.out (by rw [hκ]; exact Nat.le_refl _))
      have TOKT := Lib.hid Q.out.okT.1.ok
      have LK := QC.out.mapIs.look strK Try.underlying54 (valZ _) (keyOf_key (key := pk) (by rw [KLEN.out]; unfold maxLen; omega))
      have KOKL := Lib.hid (S.out.byt TOKT.out).1
      rw [strV_had KOKL.out.byt KOKK.out] at LK
      generalize (strV M L (kLit pk)).getD (.string ByteArray.empty) = vv at LK
      have hT1 : T.length ≤ 1000 := by obtain ⟨_, rfl, _⟩ := S.out.shape; simp
      have hML : M.length ≤ 100000 := by have := S.out.len; have := FLN.out; have := HFL.out; omega
      have hj150 : j < 1000 := by have := FLN.out; have := HFL.out; omega
      have KD := keep_drop S.out TOKT.out (key := pk) (by rw [KLEN.out]) KOKK.out
      have KLK := keep_look S.out TOKT.out (key := pk) (by rw [KLEN.out])
      have KPT := Lib.hid fun fl hf => keep_put (fl := fl) S.out TOKT.out hj150 (key := pk) (val := pv) (by rw [KLEN.out]) KOKK.out VLEN.out VOKK.out hf
      generalize hhad : (tFind L pk).isSome = had at *
      clear hhad
      have k0 : wC.cell? ⟨κ, 0, none⟩ = some (.int .u8 x0) := Blk.cell BAC.out 0
      have hx5 : x0.tmod 5 = x0 % 5 := Int.tmod_eq_emod_of_nonneg ak.1
      have hx3 : x6.tmod 3 = x6 % 3 := Int.tmod_eq_emod_of_nonneg afl.1
      obtain ⟨cD, wD, hrD, hbD, belD, cd1, cd2⟩ := conv_bytes2 wC pk KOKK.out KLEN.out (by omega)
      have QP : Hid (Law w0 (sysT gt g T M) (sysP (sysMp mb j (strV M L)) (sysK (sysR bs 43 5 (.slice (some ⟨q, 0, none⟩) fl cf) fl (apC FL)) κ #[.int .u8 x0, .int .i64 x1, .slice x2 nk x3, .slice x4 nv x5, .int .u64 x6] 43)) [(some ⟨wC.heap.size, 0, none⟩, pk)] wD) := Lib.hid (QK.out.push belD hbD (fun g o _ e => by cases e; exact .inr (Nat.le_refl _)))
      clear hbD belD QK QC
      by_cases hk2 : x0 % 5 = 2
      · have DR := Lib.hid (lt_Drop 0 pk (some ⟨wC.heap.size, 0, none⟩) kn cD QP.out hT1 (by simp) KOKK.out KLEN.out cd1 cd2)
        clear KPT KLK hx3
        generalize tDrop T 0 pk = td at *
        obtain ⟨T2, tdn, tde⟩ := td
        dsimp only at DR KD
        obtain ⟨rfl, KN, L2, KS, KL⟩ := KD
        replace KS := Lib.hid KS
        go_wp2_with fail
        refine (DR.out).mono ?_
        rintro e wE ⟨rfl, qE⟩
        have QE := Lib.hid ((qE.drop (l' := []) (fun p hp => by cases hp)).freeP)
        clear qE DR QP
        obtain ⟨wF, hrF, hmF, hgF⟩ := QE.out.mapIs.drop strK Try.underlying54 (keyOf_key (key := pk) (by rw [KLEN.out]; unfold maxLen; omega)) 0
        have hrF2 : ∀ ty, (Builtin.delete_ #[54, 9] ty #[.map (some mb), .string (strOfNums pk)]).run Try.prog wE = .ok (.tuple #[]) wF := fun ty => hrF
        have QG := Lib.hid ((QE.out.mapTurn hmF hgF).mapMono (m' := strV M L2) (Nat.le_succ j) (fun kl => KL kl))
        clear hmF hgF QE hrF KL
        go_wp2_with fail
        go_round
        case rel => exact ⟨j + 1, T2, M, L2, by go_num, by omega, KS, QG⟩
        case measure => simp [intOf]; omega
      by_cases hk3 : x0 % 5 = 3 ∨ x0 % 5 = 4
      · have LO := Lib.hid (lt_Look 0 pk (some ⟨wC.heap.size, 0, none⟩) kn cD QP.out hT1 (by simp) KOKK.out KLEN.out cd1 cd2)
        clear KPT KD hx3
        generalize tLook T 0 pk = tl at *
        obtain ⟨tln, tle⟩ := tl
        dsimp only at LO KLK
        obtain ⟨rfl, KN⟩ := KLK
        have QF := Lib.hid (((QP.out.drop (l' := []) (fun p hp => by cases hp))).freeP.mapMono (Nat.le_succ j) (fun kl => rfl))
        have KS := Lib.hid (S.out.mono (Nat.le_succ j))
        clear QP
        rcases hk3 with hk3 | hk3
        · go_wp2_with fail
          refine (LO.out).mono ?_
          rintro e wE ⟨rfl, bE⟩
          have QG := Lib.hid (QF.out.after bE)
          clear bE QF LO
          go_wp2_with fail
          go_round
          case rel => exact ⟨j + 1, T, M, L, by go_num, by omega, KS, QG⟩
          case measure => simp [intOf]; omega
        · go_wp2_with fail
          refine (LO.out).mono ?_
          rintro e wE ⟨rfl, bE⟩
          have QG := Lib.hid (QF.out.after bE)
          clear bE QF LO
          go_wp2_with fail
          go_round
          case rel => exact ⟨j + 1, T, M, L, by go_num, by omega, KS, QG⟩
          case measure => simp [intOf]; omega
      have hk3' : ¬ x0 % 5 = 3 := fun c => hk3 (.inl c)
      have hk4' : ¬ x0 % 5 = 4 := fun c => hk3 (.inr c)
      clear hk3 KD KLK
      have hf3 : x6 % 3 = 0 ∨ x6 % 3 = 1 ∨ x6 % 3 = 2 := by omega
      have hf30 : 0 ≤ x6 % 3 ∧ x6 % 3 ≤ 2 := by omega
      obtain ⟨cE, wE, hrE, hbE, belE, ce1, ce2⟩ := conv_bytes2 wD pv VOKK.out VLEN.out (by omega)
      have QE : Hid (Law w0 (sysT gt g T M) (sysP (sysMp mb j (strV M L)) (sysK (sysR bs 43 5 (.slice (some ⟨q, 0, none⟩) fl cf) fl (apC FL)) κ #[.int .u8 x0, .int .i64 x1, .slice x2 nk x3, .slice x4 nv x5, .int .u64 x6] 43)) [(some ⟨wD.heap.size, 0, none⟩, pv), (some ⟨wC.heap.size, 0, none⟩, pk)] wE) := Lib.hid (QP.out.push belE hbE (fun g o _ e => by cases e; exact .inr (Nat.le_refl _)))
      have k4 : wE.cell? ⟨κ, 4, none⟩ = some (.int .u64 x6) := Blk.cell QE.out.heldP 4
      have PT := Lib.hid (lt_Put 0 pk pv (some ⟨wC.heap.size, 0, none⟩) (some ⟨wD.heap.size, 0, none⟩) kn cD 8 cE (x6 % 3) QE.out hT1 (by simp) KOKK.out KLEN.out cd1 cd2 (by simp) VOKK.out VLEN.out ce1 ce2 (by omega) hML)
      obtain ⟨KE, KN, L2, KS, KL⟩ := KPT.out (x6 % 3) hf30
      replace KS := Lib.hid KS
      replace KL := Lib.hid KL
      clear hbE belE QP KPT S
      generalize tPut T M 0 pk pv (x6 % 3) = tp at *
      obtain ⟨T2, M2, pn, pe⟩ := tp
      dsimp only at KE KN KS KL PT
      subst KE
      go_wp2_with fail
      refine (PT.out).mono ?_
      rintro e wF ⟨rfl, qF⟩
      have QH := Lib.hid (qF.drop (l' := []) (fun p hp => by cases hp))
      clear qF PT k4 QE k0
      have k4 : wF.cell? ⟨κ, 4, none⟩ = some (.int .u64 x6) := Blk.cell QH.out.heldP 4
      have k5 := (HBK.out wF QH.out.below).2
      have QF := Lib.hid QH.out.freeP
      have hlen := fun ty => mapV_len QF.out.mapIs KOKL.out ty
      obtain ⟨wG, hrG, hmG, hgG⟩ := QF.out.mapIs.put strK Try.underlying54 (by unfold maxLen; omega) (keyOf_key (key := pk) (by rw [KLEN.out]; unfold maxLen; omega)) (.string (strOfNums pv))
      have QG2 := Lib.hid (QF.out.mapTurn hmG hgG)
      clear hmG hgG QH hrD hrE LK
      go_upto_region 15 with fail
      refine keeps_r15 k4 k5 hlen hx3 hf3 (fun v102 v103 v104 v105 v106 v107 v108 v109 v110 v111 v112 v113 v114 v115 v116 v117 v118 v119 v120 v121 v122 v123 v124 v125 v126 v127 v128 v129 v130 v131 v132 v133 v134 v135 v136 v137 v138 v139 v140 v141 => ?_)
      clear hlen hf3 hf30
      generalize mayP (x6 % 3) had L.length mn = may at *
      cases may
      · have QG := Lib.hid (QF.out.mapMono (m' := strV M2 L2) (Nat.le_succ j) (fun kl => KL.out.1 rfl kl))
        clear KL QG2 hrG QF
        go_wp2_with fail
        go_round
        case rel => exact ⟨j + 1, T2, M2, L2, by go_num, by omega, KS, QG⟩
        case measure => simp [intOf]; omega
      · have QG := Lib.hid (QG2.out.mapMono (m' := strV M2 L2) (Nat.le_refl (j + 1)) (fun kl => KL.out.2 rfl kl))
        clear KL QG2 QF
        go_wp2_with fail
        go_round
        case rel => exact ⟨j + 1, T2, M2, L2, by go_num, by omega, KS, QG⟩
        case measure => simp [intOf]; omega
    · go_upto_region 31 with fail
      clear OKF FLN HFL HBK hlt
      refine keeps_items ?_ Q S B0W mn2 kn2
      assumption

end Go.Proofs.Ytempkpfcjonaaaa


/-
  What one map is, as an argument of a law.
  Conditions: none.
-/
namespace Go.Proofs.Ytempkpfcjonaaaa
open Go.ChangeShapes Go.WideShapes Go.RowKit
set_option maxRecDepth 100000
set_option linter.unusedVariables false

section
variable {H : Type} {enc : TypeId × Value → H} {w : World} {base : Nat} {spare : Nat → Bool} {held : Bool}

theorem open_def {r : Reach} {b0 : Nat} {v : Value} {d : DataW H} {p : List MemPlace} (hv : Value.okWide Try.prog w r b0 53 v) (h : DataW.Trod enc Try.prog w base spare held 53 v d p) :
    ∃ (b : Bool) (x y z : Int), v = .agg #[.bool b, .int .i64 x, .int .i64 y, .int .i64 z] := by
  obtain ⟨l, rfl, hl⟩ := agg_of_struct Try.underlying53 hv
  have hc : Try.prog.cellsOf 53 = 4 := by kernel_rfl
  rw [hc] at hl
  obtain ⟨u0, e0, b, rfl⟩ := leaf_of_Trod h 8 0 (L := none) (by kernel_rfl)
  obtain ⟨n1, e1, w1⟩ := LeafOk.int_ (leaf_of_Trod h 8 1 (L := some .i64) (by kernel_rfl))
  obtain ⟨n2, e2, w2⟩ := LeafOk.int_ (leaf_of_Trod h 8 2 (L := some .i64) (by kernel_rfl))
  obtain ⟨n3, e3, w3⟩ := LeafOk.int_ (leaf_of_Trod h 8 3 (L := some .i64) (by kernel_rfl))
  match l, hl with
  | [c0, c1, c2, c3], _ =>
    simp [Value.cells] at e0 e1 e2 e3
    subst e0 e1 e2 e3
    exact ⟨b, n1, n2, n3, rfl⟩
end

end Go.Proofs.Ytempkpfcjonaaaa


/-
  The statement TableKeeps: for whatever map, and acts, the law returns true, and its arguments read as they did.
  Conditions: none beyond the row's own.
-/
namespace Go.Proofs.Ytempkpfcjonaaaa
open Go.ChangeShapes Go.WideShapes Go.ChangeAt Go.RowKit
set_option linter.unusedVariables false

set_option maxRecDepth 100000 in
theorem tkeeps_lifted (os : Os) (started : os.Started) (H : Type) (enc : TypeId × Value → H) :
    ReturnsInHanded {} Try.checked os 4 .any (Rows.tableKeepsSpec.pre6 enc Try.prog Try.f4 Rows.tableKeepsRow.domain false) (Rows.tableKeepsSpec.post enc Try.prog Try.f4 false true false false) := by
  refine law_lifted (C := Try.checked) own_none started (by kernel_rfl) Try.func4
    (ChangeSpec.witness6 (enc := enc) (C := Try.checked) false ⟨#[], #[.agg #[.bool false, .int .i64 0, .int .i64 0, .int .i64 0], .slice none 0 0], []⟩ 8 (by kernel_rfl) (by kernel_rfl) (by kernel_rfl) (by kernel_rfl))
    laid_out rfl rfl Try.underlying4 (by kernel_rfl) (fun ds hd => by match ds, hd with | [d1, d2], _ => rfl) ?_
  intro W base args ds p hval hA
  rw [Try.params4] at hval hA
  obtain ⟨v0, v1, d0, d1, p0, p1, rfl, rfl, rfl, h0, h1⟩ := trodAll_two hA
  obtain ⟨dh, dk, dv, dm, rfl⟩ := open_def (hval 0 _ _ rfl rfl) h0
  obtain ⟨A, c, l, rfl, hl, hok, hlc, hc⟩ := open_acts (hval 1 _ _ rfl rfl) h1
  exact l9_TableKeeps W dh dk dv dm A c l hl hok hlc hc

theorem tkeeps_holds : Rows.TableKeepsSaid :=
  OpenClaim.holds_of_wide 4 Try.f4 rfl rfl rfl rfl rfl rfl rfl ⟨rfl, rfl, rfl, rfl, rfl⟩ rfl rfl rfl rfl rfl (by kernel_rfl) Try.func4 (by kernel_rfl)
    (of_decide_eq_true (by kernel_rfl)) (by unfold Func.isWrapper; first | (rw [if_pos (by decide +kernel)]; kernel_rfl) | (rw [if_neg (by decide +kernel)]; exact ⟨rfl, rfl⟩))
    (fun os started H enc _ => tkeeps_lifted os started H enc)

#print axioms tkeeps_holds
end Go.Proofs.Ytempkpfcjonaaaa
