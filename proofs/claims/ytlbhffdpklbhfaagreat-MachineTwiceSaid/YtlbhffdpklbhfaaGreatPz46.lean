/-
  Texts, one behind the other: Tab15, Tab16, Items, Tab17.
  Conditions: those that each theorem states.
-/
import Derived.Lib.BytesEntry
import Derived.Lib.Bytealg
import Derived.Laws.Externs
import Derived.Shelf.SlSortCmp.WholeK
import Derived.Test.YtlbhffdpklbhfaaGreatPz27
import Derived.Test.YtlbhffdpklbhfaaGreatPz29
import Derived.Test.YtlbhffdpklbhfaaGreatShelf
import Derived.Maps.RangeWalk
import Derived.Test.YtlbhffdpklbhfaaGreatPz10
namespace Go.Proofs.YtlbhffdpklbhfaaGreat
open Go.RowKit
set_option maxRecDepth 100000
set_option linter.unusedVariables false
set_option linter.unusedSimpArgs false
theorem run_bytesOf {w : World} {A : Option Addr} {b : List Int} (h : BytS w A b) (c : Nat) : (Extern.Bytes.bytesOf (.slice A b.length c)).run Tryz.prog w = .ok ⟨(Lib.bytesOf b).toArray⟩ w := by
  by_cases hb : 0 < b.length
  · obtain ⟨g, o, rfl, hg, hc⟩ := h hb
    have hl := Lib.run_loadBytesX (P := Tryz.prog) w b ⟨g, o, none⟩ .empty (fun j x hj => by
      have hadd : (⟨g, o, none⟩ : Addr).add j = ⟨g, o + j, none⟩ := by unfold Addr.add; split <;> simp_all
      obtain ⟨hj1, hj2⟩ := List.getElem?_eq_some_iff.1 hj
      rw [hadd, hc j hj1]
      unfold bAt
      rw [List.getD_eq_getElem?_getD, hj]
      rfl)
    refine Eq.trans (b := (Extern.Bytes.loadBytes ⟨g, o, none⟩ b.length .empty).run Tryz.prog w) rfl ?_
    rw [hl]
    simp
  · have e : b = [] := List.eq_nil_of_length_eq_zero (by omega)
    subst e
    cases A <;> rfl
def cmpK (a b : List Int) : Int := Lib.compareBytes (Lib.bytesOf a) (Lib.bytesOf b)
theorem cmp_run {w : World} {A B : Option Addr} {a b : List Int} (ha : BytS w A a) (hb : BytS w B b) (c d : Nat) :
    (callFunc 176 #[.slice A a.length c, .slice B b.length d]).run Tryz.prog w = .ok (.value (.int .i64 (cmpK a b))) w := by
  rw [run_callFunc_extern Tryz.func176 (by kernel_rfl) (by kernel_rfl) (by kernel_rfl) (e := Extern.BytealgCompare.compare) (by kernel_rfl)]
  have h1 := run_bytesOf ha c
  have h2 := run_bytesOf hb d
  have e : (Extern.BytealgCompare.compare #[.slice A a.length c, .slice B b.length d]).run Tryz.prog w = .ok (.int .i64 (cmpK a b)) w := by
    change Sem.run Tryz.prog (do pure (goInt (Extern.BytealgCompare.cmp (← Extern.Bytes.bytesOf (.slice A a.length c)) (← Extern.Bytes.bytesOf (.slice B b.length d))))) w = _
    simp only [Sem.run_bind, Sem.run_pure, Result.andThen, h1, h2]
    rw [Lib.cmp_eq]
    rfl
  rw [e]
  rfl
theorem cmp_less {a b : List Int} (ha : OkB a) (hb : OkB b) : (cmpK a b < 0 ↔ kLt a b = true) := by
  unfold cmpK
  induction a generalizing b with
  | nil => cases b <;> simp [Lib.bytesOf, Lib.compareBytes, kLt]
  | cons x a ih =>
    cases b with
    | nil => simp [Lib.bytesOf, Lib.compareBytes, kLt]
    | cons y b =>
      obtain ⟨h1, h2⟩ := okB_cons ha
      obtain ⟨k1, k2⟩ := okB_cons hb
      have i := ih h2 k2
      have lt : ∀ p q : Int, 0 ≤ p → p ≤ 255 → 0 ≤ q → q ≤ 255 → (UInt8.ofNat p.toNat < UInt8.ofNat q.toNat ↔ p < q) := fun p q _ _ _ _ => by
        rw [UInt8.lt_iff_toNat_lt, UInt8.toNat_ofNat', UInt8.toNat_ofNat']; omega
      have e1 := lt x y h1.1 h1.2 k1.1 k1.2
      have e2 := lt y x k1.1 k1.2 h1.1 h1.2
      simp only [Lib.bytesOf, List.map_cons, Lib.compareBytes, kLt] at i ⊢
      by_cases c1 : x < y
      · rw [if_pos (e1.2 c1)]
        simp [c1]
      · rw [if_neg (fun c => c1 (e1.1 c))]
        by_cases c2 : y < x
        · rw [if_pos (e2.2 c2)]
          have : ¬ x = y := by omega
          simp [c1, this]
        · rw [if_neg (fun c => c2 (e2.1 c))]
          have : x = y := by omega
          simp only [this, beq_self_eq_true, Bool.true_and, Bool.or_eq_true, decide_eq_true_eq]
          rw [i]
          simp
set_option maxHeartbeats 1000000 in
theorem q9_Compare {w : World} {A B : Option Addr} {a b : List Int} (ha : BytS w A a) (hb : BytS w B b) (c d : Nat) :
    Calls Tryz.prog 138 #[.slice A a.length c, .slice B b.length d] w fun e w' => e = .returned (.int .i64 (cmpK a b)) ∧ w' = w := by
  have H := cmp_run ha hb c d
  clear ha hb
  generalize a.length = n at *
  generalize b.length = m at *
  generalize cmpK a b = r at *
  go_enter Tryz.func138, Tryz.ntmps138
  go_wp2_with (simp only [H])
  go_ret
  exact ⟨rfl, rfl⟩
set_option maxHeartbeats 1000000 in
theorem q9_order (x y : Itm) (W : World) (hx : BytS W x.a x.k) (hy : BytS W y.a y.k) :
    Calls Tryz.prog 137 #[.agg (cIm x).toArray, .agg (cIm y).toArray] W fun e w' => e = .returned (.int .i64 (cmpK x.k y.k)) ∧ ∃ q os', w' = Go.Sort.grow (W.drewN q) os' := by
  obtain ⟨xk, xv, xa, xc, xb, xd⟩ := x
  obtain ⟨yk, yv, ya, yc, yb, yd⟩ := y
  dsimp only at *
  have hx2 : BytS ((W.alloc (.cells #[.slice xa xk.length xc, .slice xb xv.length xd] 84)).alloc (.cells #[.slice ya yk.length yc, .slice yb yv.length yd] 84)) xa xk := hx.after (below_alloc (below_alloc (Below.refl _ _) _) _)
  have hy2 : BytS ((W.alloc (.cells #[.slice xa xk.length xc, .slice xb xv.length xd] 84)).alloc (.cells #[.slice ya yk.length yc, .slice yb yv.length yd] 84)) ya yk := hy.after (below_alloc (below_alloc (Below.refl _ _) _) _)
  have HC := Lib.hid (q9_Compare hx2 hy2 xc yc)
  show Calls Tryz.prog 137 #[.agg #[.slice xa xk.length xc, .slice xb xv.length xd], .agg #[.slice ya yk.length yc, .slice yb yv.length yd]] W _
  clear hx hy hx2 hy2
  generalize xk.length = n1 at *
  generalize xv.length = n2 at *
  generalize yk.length = n3 at *
  generalize yv.length = n4 at *
  generalize cmpK xk yk = r at *
  go_enter Tryz.func137, Tryz.ntmps137
  go_wp2_with fail
  refine (HC.out).mono ?_
  rintro e w1 ⟨rfl, rfl⟩
  go_wp2_with fail
  go_ret
  exact ⟨rfl, 0, _, by rw [Go.Sort.alloc_eq_grow, Go.Sort.alloc_eq_grow, Go.Sort.grow_grow]; rfl⟩
end Go.Proofs.YtlbhffdpklbhfaaGreat
namespace Go.Proofs.YtlbhffdpklbhfaaGreat
open Go.RowKit
open Go.Shelf (Ren)
set_option maxRecDepth 100000
set_option linter.unusedVariables false
set_option linter.unusedSimpArgs false
set_option maxHeartbeats 2000000 in
theorem ins_none (p : Option Addr) (cap : Nat) (fv : Value) (w : World) : Calls Tryz.prog 188 #[.slice p 0 cap, .int .i64 0, .int .i64 0, fv] w fun e w' => e = .returned (.tuple #[]) ∧ w' = w := by
  go_enter Tryz.func188, Tryz.ntmps188
  go_wp2_with fail
  refine wp_loop_rounds 1 ?_
  rw [rounds_succ]
  go_wp2_with fail
  go_end0
  exact ⟨rfl, rfl⟩
set_option maxHeartbeats 2000000 in
theorem pdq_none (p : Option Addr) (cap : Nat) (lim : Int) (fv : Value) (w : World) : Calls Tryz.prog 174 #[.slice p 0 cap, .int .i64 0, .int .i64 0, .int .i64 lim, fv] w fun e w' => e = .returned (.tuple #[]) ∧ w' = w := by
  have hi := Lib.hid (ins_none p cap fv w)
  go_enter Tryz.func174, Tryz.ntmps174
  go_wp2_with fail
  refine wp_loop_rounds 1 ?_
  rw [rounds_succ]
  go_wp2_with fail
  refine (hi.out).mono ?_
  rintro e w1 ⟨rfl, rfl⟩
  go_wp2_with fail
  (try simp only [Exit.inBlock, Exit.then]); refine bodyPost_ret (results_none rfl _ _ _) rfl ?_
  exact ⟨rfl, rfl⟩
set_option maxHeartbeats 2000000 in
theorem sort_none (p : Option Addr) (cap : Nat) (fv : Value) (w : World) : Calls Tryz.prog 136 #[.slice p 0 cap, fv] w fun e w' => e = .returned (.tuple #[]) ∧ w' = w := by
  have hp := Lib.hid fun lim => pdq_none p cap lim fv w
  have hl : Hid (Calls Tryz.prog 175 #[.int .u64 0] w fun e w' => e = .returned (.int .i64 ((Lib.bitLen 0 : Nat) : Int)) ∧ w' = w) := Lib.hid (by
    have h := Go.Proofs.Any.bits_Len (Go.Proofs.SlLaysF0.n15.bits (P := Tryz.prog) (ρ := Go.Proofs.Tryz.sortItem_ren) { Go.Proofs.Tryz.sortItem with }) 0 w (by omega) (by omega)
    exact h)
  go_enter Tryz.func136, Tryz.ntmps136
  go_wp2_with fail
  refine (hl.out).mono ?_
  rintro e w1 ⟨rfl, rfl⟩
  go_wp2_with fail
  refine (hp.out _).mono ?_
  rintro e w2 ⟨rfl, rfl⟩
  go_wp2_with fail
  go_end0
  exact ⟨rfl, rfl⟩
open Go.Sort (putCells flatK HoldsK grow SWO PermIn SortedIn)
def GoodI (w : World) (g : Nat) (x : Itm) : Prop := OkB x.k ∧ BytS w x.a x.k ∧ ∀ g' o, 0 < x.k.length → x.a = some ⟨g', o, none⟩ → g' ≠ g
instance (w : World) (g : Nat) : Inhabited {x : Itm // GoodI w g x} := ⟨⟨Itm.zero, fun k h => absurd h (by simp [Itm.zero]), BytS.none_ _ _, fun g' o h => absurd h (by simp [Itm.zero])⟩⟩
def encIm {w : World} {g : Nat} (x : {x : Itm // GoodI w g x}) : List Value := cIm x.1
def cmpI {w : World} {g : Nat} (x y : {x : Itm // GoodI w g x}) : Int := cmpK x.1.k y.1.k
theorem sortHeap {α : Type} [Inhabited α] (enc : α → List Value) (w : World) (g m : Nat) (dk : Array α) (os : Array Obj) {b : Nat} (hb : b ≠ g) (hl : b < w.heap.size) : (sortWorldK enc 2 w g 0 m dk os).heap[b]? = w.heap[b]? := by
  unfold sortWorldK
  rw [Go.Sort.heap_grow_old _ _ (by rw [Go.Sort.size_putRowK]; exact hl)]
  unfold Go.Sort.putRowK Go.Sort.putRow Go.Sort.mapBlock Go.Sort.ahead
  simp only [Array.getElem?_modify]
  rw [if_neg (fun e => hb e.symm)]
theorem swoI (w : World) (g : Nat) : SWO (Go.Proofs.ltOf (α := {x : Itm // GoodI w g x}) cmpI) where
  irrefl x := by
    unfold Go.Proofs.ltOf cmpI
    have := cmp_less x.2.1 x.2.1
    rw [kLt_irrefl] at this
    simpa using this
  trans x y z h1 h2 := by
    unfold Go.Proofs.ltOf cmpI at *
    rw [decide_eq_true_eq, cmp_less x.2.1 y.2.1] at h1
    rw [decide_eq_true_eq, cmp_less y.2.1 z.2.1] at h2
    rw [decide_eq_true_eq, cmp_less x.2.1 z.2.1]
    exact kLt_trans h1 h2
  ntrans x y z h1 h2 := by
    unfold Go.Proofs.ltOf cmpI at *
    rw [decide_eq_false_iff_not, cmp_less x.2.1 y.2.1] at h1
    rw [decide_eq_false_iff_not, cmp_less y.2.1 z.2.1] at h2
    rw [decide_eq_false_iff_not, cmp_less x.2.1 z.2.1]
    intro h
    by_cases e : x.1.k = y.1.k
    · rw [e] at h; exact h2 h
    · have h3 := kLt_total (by simpa using h1) e
      exact h2 (kLt_trans h3 h)
set_option maxHeartbeats 4000000 in
theorem sort_items (w : World) (base : Nat) (A : Option Addr) (n c : Nat) (X : List Itm) (h : ItR base w (.slice A n c) X) (hok : ∀ x ∈ X, OkB x.k) (hn : X.length ≤ 100000) :
    Calls Tryz.prog 136 #[.slice A n c, .func (.func 137) #[] #[]] w (fun e w' => e = .returned (.tuple #[]) ∧ ∃ X' : List Itm, X'.Perm X ∧ (∀ i j, i < j → j < X'.length → kLt (xAt X' j).k (xAt X' i).k = false) ∧ ItR base w' (.slice A n c) X' ∧ Below base w w') := by
  obtain ⟨hlen, hcase⟩ := h.row
  have hnX : n = X.length := h.items.1
  rcases hcase with ⟨e, hz⟩ | ⟨g, cap, cur, e, hbg, hgg, hnc, hcm, hcs, htk⟩
  · cases e
    have hX : X = [] := List.eq_nil_of_length_eq_zero hz
    subst hX
    refine (sort_none none 0 _ w).mono ?_
    rintro e w' ⟨rfl, rfl⟩
    exact ⟨rfl, [], List.Perm.refl _, fun i j _ hj => absurd hj (by simp), h, Below.refl _ _⟩
  · cases e
    have hX : ∀ x ∈ X, GoodI w g x := fun x hx => by
      obtain ⟨j, hj, rfl⟩ := List.mem_iff_getElem.mp hx
      have hxa : xAt X j = X[j] := by unfold xAt; rw [List.getD_eq_getElem?_getD, List.getElem?_eq_getElem hj]; rfl
      have h1 := h.byt j hj
      have h2 := h.sep j hj
      rw [hxa] at h1 h2
      exact ⟨hok _ hx, h1.1, fun g' o hp ea e => (h2 g' o).1 hp ea (by rw [e]; rfl)⟩
    have hgl : g < w.heap.size := (Array.getElem?_eq_some_iff.1 hgg).1
    have hdv : (X.attachWith _ hX).map (·.1) = X := List.attachWith_map_subtype_val hX
    generalize hd : (X.attachWith _ hX).toArray = d
    have hdl : d.toList = X.attachWith _ hX := by rw [← hd]
    have hds : d.size = X.length := by rw [← hd]; simp
    have hat : ∀ (D : Array {x : Itm // GoodI w g x}) (j : Nat), j < D.size → (D[j]!).1 = xAt (D.toList.map (·.1)) j := fun D j hj => by
      unfold xAt
      rw [List.getD_eq_getElem?_getD, List.getElem?_map, Array.getElem?_toList, Array.getElem?_eq_getElem hj, getElem!_pos D j hj]
      rfl
    have hcur : ∀ t, t < X.length * 2 → cur[t]? = (cIm (xAt X (t / 2)))[t % 2]? := fun t ht => by
      have h1 : (cur.toList.take (X.length * 2))[t]? = cur[t]? := by rw [List.getElem?_take, if_pos ht, Array.getElem?_toList]
      rw [← h1, htk]
      have := iC_at X (t / 2) (t % 2) (by omega) (by omega)
      rw [show t / 2 * 2 + t % 2 = t by omega] at this
      exact this
    have hH : HoldsK encIm 2 w g 0 d := fun t ht => by
      rw [Go.Sort.size_flatK, hds] at ht
      rw [Go.Sort.get_flatK _ _ _ _ (by rw [hds]; exact ht), Nat.zero_add]
      refine ⟨?_, ?_⟩
      · rw [cell_of_row w g t cur _ (0, 0) hgg, hcur t ht]
        have hx := hat d (t / 2) (by rw [hds]; omega)
        rw [hdl, hdv] at hx
        show (cIm (xAt X (t / 2)))[t % 2]? = some ((cIm (d[t / 2]!).1)[t % 2]!)
        rw [hx]
        have : t % 2 = 0 ∨ t % 2 = 1 := by omega
        rcases this with e | e <;> rw [e] <;> rfl
      · exact (show Blk g cur 84 w from hgg).free t
    have eg : ∀ args w, (callFunc 137 args).run Tryz.prog w = .ok (.enter 137 args) w := enters_of Tryz.func137 (by kernel_rfl) rfl
    have hcmp : Go.Proofs.CmpLays Tryz.prog 137 #[] (encIm (w := w) (g := g)) 2 cmpI g 0 d.size w := fun m os dk hdk x y => by
      have keep : ∀ z : {x : Itm // GoodI w g x}, BytS (sortWorldK encIm 2 w g 0 m dk os) z.1.a z.1.k := fun z => by
        refine bytS_keep z.2.2.1 (Go.Proofs.size_sortWorldK_c encIm 2 w g 0 m dk os) fun g' o hp e hl => ?_
        exact sortHeap encIm w g m dk os (z.2.2.2 g' o hp e) hl
      exact q9_order x.1 y.1 _ (keep x) (keep y)
    have hcon := Go.Proofs.AnyQ.slices_SortFunc Go.Proofs.Tryz.sortItem 2 Tryz.isAgg84 Tryz.sizeOf84 (encIm (w := w) (g := g)) (fun _ => rfl) (fun x v hv => by exact cI_one x.1 v hv) cmpI (swoI w g) 137 #[] g 0 c d w eg hcmp hH hgl (by rw [hds]; omega)
    rw [hds] at hcon
    rw [hnX]
    refine Calls.mono (show Calls Tryz.prog 136 _ _ _ from hcon) ?_
    rintro e w' ⟨rfl, d', m, os, hp, hs, rfl⟩
    obtain ⟨hp1, -, hp3⟩ := hp
    rw [hds] at hp1
    have full : ∀ D : Array {x : Itm // GoodI w g x}, D.size = X.length → D.extract 0 X.length = D := fun D hD => by
      apply Array.ext
      · simp [hD]
      · intro i h1 h2; simp
    rw [full d' hp1, full d hds] at hp3
    refine ⟨rfl, d'.toList.map (·.1), ?_, ?_, ?_, ?_⟩
    · have := hp3.map (·.1)
      rw [hdl, hdv] at this
      exact this
    · intro i j hij hj
      rw [List.length_map, Array.length_toList, hp1] at hj
      have h1 := hs i j (Nat.zero_le _) hij hj
      unfold Go.Proofs.ltOf cmpI at h1
      rw [decide_eq_false_iff_not, cmp_less (d'[j]!).2.1 (d'[i]!).2.1, hat d' j (by omega), hat d' i (by omega)] at h1
      simpa using h1
    · have hsz := Go.Proofs.size_sortWorldK_c encIm 2 w g 0 m d' os
      have hblk : (sortWorldK encIm 2 w g 0 m d' os).heap[g]? = some (.cells (putCells id 0 (flatK encIm 2 d') cur) 84 (0, 0)) := by
        unfold sortWorldK
        rw [Go.Sort.heap_grow_old _ _ (by rw [Go.Sort.size_putRowK]; exact hgl)]
        unfold Go.Sort.putRowK Go.Sort.putRow Go.Sort.mapBlock Go.Sort.ahead
        simp only [Array.getElem?_modify, hgg, if_true, Option.map_some, Go.Sort.onCells]
      have hmem : ∀ j, j < (d'.toList.map (·.1)).length → ∃ t, t < X.length ∧ xAt (d'.toList.map (·.1)) j = xAt X t := fun j hj => by
        have hm := (hp3.map (·.1)).mem_iff (a := xAt (d'.toList.map (·.1)) j)
        rw [hdl, hdv] at hm
        have h1 : xAt (d'.toList.map (·.1)) j ∈ d'.toList.map (·.1) := by
          unfold xAt
          rw [List.getD_eq_getElem?_getD, List.getElem?_eq_getElem hj]
          exact List.getElem_mem hj
        obtain ⟨t, ht, e⟩ := List.mem_iff_getElem.mp (hm.mp h1)
        refine ⟨t, ht, ?_⟩
        rw [← e]
        unfold xAt
        rw [List.getD_eq_getElem?_getD (l := X), List.getElem?_eq_getElem ht]
        rfl
      have hkeep : ∀ (B : Option Addr) (b : List Int), BytS w B b → (∀ g' o, 0 < b.length → B = some ⟨g', o, none⟩ → g' ≠ g) → BytS (sortWorldK encIm 2 w g 0 m d' os) B b := fun B b hb hs => bytS_keep hb hsz fun g' o hp e hl => sortHeap encIm w g m d' os (hs g' o hp e) hl
      have hl' : (d'.toList.map (·.1)).length = X.length := by rw [List.length_map, Array.length_toList, hp1]
      refine ⟨⟨by rw [iC_len], .inr ⟨g, c, _, by rw [hl'], hbg, hblk, by rw [hl', ← hnX]; exact hnc, hcm, by unfold putCells; simp [hcs], ?_⟩⟩, fun j hj => ?_, fun j hj g' o => ?_, fun j hj g' o => ?_⟩
      · apply List.ext_getElem?
        intro t
        by_cases ht : t < X.length * 2
        · rw [hl', List.getElem?_take, if_pos ht, Array.getElem?_toList]
          have h3 := iC_at (d'.toList.map (·.1)) (t / 2) (t % 2) (by rw [hl']; omega) (by omega)
          rw [show t / 2 * 2 + t % 2 = t by omega] at h3
          rw [h3]
          unfold putCells
          rw [Array.getElem?_mapIdx, hcur t ht]
          have hx := hat d' (t / 2) (by rw [hp1]; omega)
          have hc : (0 ≤ t ∧ t < 0 + (flatK encIm 2 d').size) := by rw [Go.Sort.size_flatK, hp1]; omega
          have : t % 2 = 0 ∨ t % 2 = 1 := by omega
          rcases this with e | e <;> rw [e] <;>
          (simp only [cIm, List.getElem?_cons_zero, List.getElem?_cons_succ, Option.map_some, id]
           rw [if_pos hc, Nat.sub_zero, Go.Sort.get_flatK _ _ _ _ (by rw [hp1]; exact ht), e]
           show some ((cIm (d'[t / 2]!).1)[_]!) = _
           rw [hx]
           rfl)
        · rw [List.getElem?_eq_none (by rw [List.length_take]; omega), List.getElem?_eq_none (by rw [iC_len, hl']; omega)]
      · obtain ⟨t, ht, e⟩ := hmem j hj
        rw [e]
        exact ⟨hkeep _ _ (h.byt t ht).1 (fun g' o hp ea eg => (h.sep t ht g' o).1 hp ea (by rw [eg]; rfl)), hkeep _ _ (h.byt t ht).2 (fun g' o hp ea eg => (h.sep t ht g' o).2 hp ea (by rw [eg]; rfl))⟩
      · obtain ⟨t, ht, e⟩ := hmem j hj
        rw [e]
        exact h.low t ht g' o
      · obtain ⟨t, ht, e⟩ := hmem j hj
        rw [e]
        have := h.sep t ht g' o
        exact this
    · have hsz := Go.Proofs.size_sortWorldK_c encIm 2 w g 0 m d' os
      exact ⟨rfl, rfl, rfl, hsz, fun k hk => by
        rcases Nat.lt_or_ge k w.heap.size with hl | hl
        · exact sortHeap encIm w g m d' os (by omega) hl
        · omega⟩
end Go.Proofs.YtlbhffdpklbhfaaGreat
namespace Go.Proofs.YtlbhffdpklbhfaaGreat
open Go.RowKit
set_option maxRecDepth 100000
set_option linter.unusedVariables false
set_option linter.unusedSimpArgs false
def ItemsW (l : List It) (w : World) (e : Ending) (w' : World) : Prop :=
  ∃ A c L, e = .returned (.slice A l.length c) ∧ itL L = l ∧ ItR w.heap.size w' (.slice A l.length c) L ∧ Below w.heap.size w w'
def itF (M : PM) (i : Int) (x : TK) : It := (x.k, (pArea M (tArea i x.s)).1)
set_option maxHeartbeats 2000000 in
theorem c8_AreaN (w : World) (g : Nat) (M : PM) (F : Nat → Prop) (i : Int) (h : RepP w g M F) (hi : -9223372036854775808 ≤ i ∧ i ≤ 9223372036854775807) :
    Calls Tryz.prog 135 #[.pointer (some ⟨g, 0, none⟩), .int .i64 i] w
      (fun e w' => ∃ A c, e = .returned (.tuple #[.slice A (pArea M i).1.length c, .bool (pArea M i).2]) ∧ BytS w' A (pArea M i).1 ∧ (pArea M i).1.length ≤ c ∧ c ≤ maxLen ∧ Below w.heap.size w w' ∧ ∀ g o, A = some ⟨g, o, none⟩ → w.heap.size ≤ g) := by
  obtain ⟨mv, L, rfl, h⟩ := h
  have c0 := h.cell
  have HLK := h.look w (Below.refl _ _) i hi
  unfold pArea
  cases hx : pIx (arM L) i with
  | none =>
    rw [rgF_none hx] at HLK
    dsimp only [Option.getD_none, Option.isSome_none] at HLK
    rw [show rgZ = .agg #[.slice none 0 0, .slice none 0 0, .bool false] from rfl] at HLK
    dsimp only
    clear hx h
    go_enter Tryz.func135, Tryz.ntmps135
    go_wp2_with fail
    go_ret2
    exact ⟨none, 0, rfl, BytS.none_ _ _, Nat.le_refl _, Nat.zero_le _, below_alloc (Below.refl _ _) _, fun g o e => by cases e⟩
  | some k =>
    have hk := (pIx_some hx).1
    have hok := h.ok k hk
    rw [arM_len] at hk
    rw [arM_at] at hok
    obtain ⟨-, -, hb1024, -⟩ := hok
    rw [rgF_some hx] at HLK
    dsimp only [Option.getD_some, Option.isSome_some] at HLK
    obtain ⟨Ab, cb, hvb, hcb1, hcb2⟩ := own_slice (h.own k hk).1
    obtain ⟨Ak, ck, hvk, hck1, hck2⟩ := own_slice (h.own k hk).2
    unfold rgV at HLK
    rw [hvb, hvk] at HLK
    have BS := Lib.hid (own_bytS rfl (by have := (h.own k hk).1; rw [hvb] at this; exact this))
    dsimp only
    rw [show (pAt (arM L) k).b = (arAt L k).a.b by rw [arM_at]]
    clear hx h hvb hvk
    generalize (arAt L k).a.fx = fx at *
    generalize (arAt L k).a.bl.length = lk at *
    generalize (arAt L k).a.b = b at *
    have OWN : Hid (∀ u n, Below w.heap.size w u → n = b.length → Calls Tryz.prog 140 #[.slice Ab n cb] u (fun e w' => ∃ A c, e = .returned (.slice A b.length c) ∧ BytS w' A b ∧ b.length ≤ c ∧ c ≤ maxLen ∧ Below w.heap.size w w' ∧ ∀ g o, A = some ⟨g, o, none⟩ → w.heap.size ≤ g)) := Lib.hid fun u n hu hn => by
      refine (c8_own u Ab b n cb (BS.out.after hu) hn.symm (by omega)).mono ?_
      rintro e w' ⟨ga, rfl, ho, hb⟩
      subst hn
      have hg1 := (ho.lt ga rfl).1
      have hg2 := hu.size
      exact ⟨_, _, rfl, own_bytS rfl ho, Nat.le_refl _, by unfold maxLen; omega, below_next' hu hb, fun g o e => by cases e; omega⟩
    have B1 := Lib.hid (below_alloc (Below.refl w.heap.size w) (.cells #[.slice Ab b.length cb, .slice Ak lk ck, .bool fx] 158))
    go_enter Tryz.func135, Tryz.ntmps135
    go_wp2_with fail
    refine (OWN.out _ _ B1.out rfl).mono ?_
    rintro e w2 ⟨A2, c2, rfl, k1, k2, k3, k4, k5⟩
    have KK := Lib.hid (And.intro k1 (And.intro k2 (And.intro k3 (And.intro k4 k5))))
    clear k1 k2 k3 k4 k5
    go_wp2_with fail
    go_ret2
    exact ⟨A2, c2, rfl, KK.out.1, KK.out.2.1, KK.out.2.2.1, KK.out.2.2.2.1, KK.out.2.2.2.2⟩
theorem ranges_same {H : Type} {P : Program} {k : TypeId} {R : Value → Option (DataW H × List MemPlace)} {w w' : World} {b r n : Nat} {D : DataW H} {left : Lit → Bool} {cnt : Nat} (h : w.ranges P k R b r n D left cnt) (hb : w'.heap[b]? = w.heap[b]?) (hr : w'.heap[r]? = w.heap[r]?) : w'.ranges P k R b r n D left cnt := by
  obtain ⟨es, clock, since, seen, c0, h1, h2, h3, h4, h5, h6⟩ := h
  exact ⟨es, clock, since, seen, c0, hb.trans h1, h2, h3, h4, hr.trans h5, h6⟩
structure Got (M : PM) (i : Int) (K : List TK) (left : Lit → Bool) (X : List Itm) : Prop where
  nodup : (X.map (·.k)).Nodup
  mem : ∀ x ∈ X, ∃ y ∈ K, (x.k, x.v) = itF M i y ∧ left (kLit y.k) = false
  all : ∀ y ∈ K, left (kLit y.k) = false → ∃ x ∈ X, x.k = y.k
theorem got_start {M : PM} {i : Int} {K : List TK} {left : Lit → Bool} (h : ∀ y ∈ K, left (kLit y.k) = true) : Got M i K left [] :=
  ⟨List.nodup_nil, fun x hx => (by cases hx), fun y hy e => by rw [h y hy] at e; cases e⟩
theorem Got.next {M : PM} {i : Int} {K : List TK} {left : Lit → Bool} {X : List Itm} (h : Got M i K left X) (hK : KOk K) {y : TK} (hy : y ∈ K) (hl : left (kLit y.k) = true) {x : Itm} (hx : (x.k, x.v) = itF M i y) : Got M i K (fun z => left z && !z.sameKey (kLit y.k)) (X ++ [x]) := by
  have hxk : x.k = y.k := congrArg Prod.fst hx
  have same : ∀ z ∈ K, (kLit z.k).sameKey (kLit y.k) = true → z.k = y.k := fun z hz e => kLit_inj (hK.byt z hz) (hK.byt y hy) (WideAt.sameKey_eq e)
  refine ⟨?_, fun z hz => ?_, fun z hz e => ?_⟩
  · rw [List.map_append, List.nodup_append]
    refine ⟨h.nodup, by simp, fun a ha b hb => ?_⟩
    simp only [List.map_cons, List.map_nil, List.mem_singleton] at hb
    rintro rfl
    obtain ⟨x2, hx2, e2⟩ := List.mem_map.1 ha
    obtain ⟨y2, hy2, e3, e4⟩ := h.mem x2 hx2
    have e5 : x2.k = y2.k := congrArg Prod.fst e3
    have e6 : y2.k = y.k := by rw [← e5, e2, hb, hxk]
    rw [e6, hl] at e4
    cases e4
  · rcases List.mem_append.1 hz with c | c
    · obtain ⟨y2, hy2, e3, e4⟩ := h.mem z c
      exact ⟨y2, hy2, e3, by rw [e4]; rfl⟩
    · rw [List.mem_singleton] at c
      subst c
      exact ⟨y, hy, hx, by rw [WideAt.sameKey_self (show WideAt.IsKeyLit (kLit y.k) from trivial)]; simp⟩
  · cases hlz : left (kLit z.k)
    · obtain ⟨x2, hx2, e2⟩ := h.all z hz hlz
      exact ⟨x2, List.mem_append_left _ hx2, e2⟩
    · rw [hlz] at e
      simp only [Bool.true_and, Bool.not_eq_false'] at e
      exact ⟨x, by simp, by rw [hxk, same z hz e]⟩
theorem sorted_same {l m : List It} (h1 : l.Pairwise fun x y => kLt x.1 y.1 = true) (h2 : m.Pairwise fun x y => kLt x.1 y.1 = true) (hm : ∀ x, x ∈ l ↔ x ∈ m) : l = m := by
  induction l generalizing m with
  | nil =>
    cases m with
    | nil => rfl
    | cons b m => exact absurd ((hm b).2 (List.mem_cons_self ..)) (by simp)
  | cons a l ih =>
    cases m with
    | nil => exact absurd ((hm a).1 (List.mem_cons_self ..)) (by simp)
    | cons b m =>
      obtain ⟨a1, a2⟩ := List.pairwise_cons.1 h1
      obtain ⟨b1, b2⟩ := List.pairwise_cons.1 h2
      have hab : a = b := by
        rcases List.mem_cons.1 ((hm a).1 (List.mem_cons_self ..)) with e | e
        · exact e
        · rcases List.mem_cons.1 ((hm b).2 (List.mem_cons_self ..)) with e2 | e2
          · exact e2.symm
          · have := kLt_trans (a1 b e2) (b1 a e)
            rw [kLt_irrefl] at this
            cases this
      subst hab
      rw [ih a2 b2 fun x => ?_]
      constructor
      · intro hx
        rcases List.mem_cons.1 ((hm x).1 (List.mem_cons_of_mem _ hx)) with e | e
        · subst e; have := a1 x hx; rw [kLt_irrefl] at this; cases this
        · exact e
      · intro hx
        rcases List.mem_cons.1 ((hm x).2 (List.mem_cons_of_mem _ hx)) with e | e
        · subst e; have := b1 x hx; rw [kLt_irrefl] at this; cases this
        · exact e
theorem Got.done {M : PM} {i : Int} {K : List TK} {left : Lit → Bool} {X X' : List Itm} (h : Got M i K left X) (hK : KOk K) (hl : ∀ y ∈ K, left (kLit y.k) = false) (hp : X'.Perm X) (hs : ∀ i j, i < j → j < X'.length → kLt (xAt X' j).k (xAt X' i).k = false) : itL X' = K.map (itF M i) := by
  have hn : (X'.map (·.k)).Nodup := (hp.map (·.k)).nodup_iff.2 h.nodup
  have hat : ∀ j (hj : j < X'.length), xAt X' j = X'[j] := fun j hj => by unfold xAt; rw [List.getD_eq_getElem?_getD, List.getElem?_eq_getElem hj]; rfl
  refine sorted_same ?_ ?_ fun x => ?_
  · unfold itL
    rw [List.pairwise_map, List.pairwise_iff_getElem]
    intro a b ha hb hab
    have h1 := hs a b hab hb
    rw [hat a ha, hat b hb] at h1
    refine kLt_total h1 fun e => ?_
    rw [List.nodup_iff_pairwise_ne, List.pairwise_map, List.pairwise_iff_getElem] at hn
    exact hn a b ha hb hab e.symm
  · rw [List.pairwise_map]
    exact hK.rise
  · unfold itL
    simp only [List.mem_map]
    constructor
    · rintro ⟨z, hz, rfl⟩
      obtain ⟨y, hy, e, -⟩ := h.mem z (hp.mem_iff.1 hz)
      exact ⟨y, hy, e.symm⟩
    · rintro ⟨y, hy, rfl⟩
      obtain ⟨z, hz, e⟩ := h.all y hy (hl y hy)
      obtain ⟨y2, hy2, e2, -⟩ := h.mem z hz
      refine ⟨z, hp.mem_iff.2 hz, ?_⟩
      have e3 : y2.k = y.k := by rw [← e]; exact (congrArg Prod.fst e2).symm
      have : y2 = y := by
        by_cases hyy : y2 = y
        · exact hyy
        · exfalso
          have hpw := hK.rise
          obtain ⟨p, hp1, rfl⟩ := List.mem_iff_getElem.mp hy
          obtain ⟨q, hq1, rfl⟩ := List.mem_iff_getElem.mp hy2
          rw [List.pairwise_iff_getElem] at hpw
          rcases Nat.lt_trichotomy p q with c | c | c
          · have := hpw p q hp1 hq1 c; rw [e3, kLt_irrefl] at this; cases this
          · subst c; exact hyy rfl
          · have := hpw q p hq1 hp1 c; rw [e3, kLt_irrefl] at this; cases this
      rw [← this]
      exact e2
end Go.Proofs.YtlbhffdpklbhfaaGreat
