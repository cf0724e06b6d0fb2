/-
  Texts, one behind the other: MachCopied.
  Conditions: those that each theorem states.
-/
import Derived.LoopTactic
import Derived.Test.YtlbhffdpklbhfaaGreatPz44
namespace Go.Proofs.YtlbhffdpklbhfaaGreat
open Go.RowKit
set_option maxRecDepth 100000
set_option linter.unusedVariables false
set_option linter.unusedSimpArgs false
theorem flat_set {α : Type} {c : α → List Value} {s : Nat} (hs : ∀ x, (c x).length = s) (d : α) (L : List α) (k r : Nat) (hk : k < L.length) (hr : r < s) (v : Value) (y : α) (h : (c (L.getD k d)).set r v = c y) : (L.flatMap c).set (k * s + r) v = (L.set k y).flatMap c := by
  induction L generalizing k with
  | nil => simp at hk
  | cons x L ih =>
    rw [List.flatMap_cons]
    cases k with
    | zero =>
      rw [List.set_append_left _ _ (by rw [hs]; omega), List.set_cons_zero, List.flatMap_cons, Nat.zero_mul, Nat.zero_add]
      simp only [List.getD_cons_zero] at h
      rw [h]
    | succ k =>
      rw [List.set_append_right _ _ (by rw [hs, Nat.succ_mul]; omega), hs, show (k + 1) * s + r - s = k * s + r by rw [Nat.succ_mul]; omega, ih k (by simpa using hk) (by simpa using h), List.set_cons_succ, List.flatMap_cons]
theorem crC_set {L : List CR} {k r : Nat} (hk : k < L.length) (hr : r < 6) {v : Value} {y : CR} (h : (cCR (crAt L k)).set r v = cCR y) : (crC L).set (k * 6 + r) v = crC (L.set k y) := flat_set (c := cCR) (s := 6) (fun _ => rfl) CR.zero L k r hk hr v y h
theorem crAt_set {L : List CR} {k j : Nat} (hk : k < L.length) (y : CR) : crAt (L.set k y) j = if j = k then y else crAt L j := by
  unfold crAt
  rw [List.getD_eq_getElem?_getD, List.getD_eq_getElem?_getD, List.getElem?_set]
  by_cases h : k = j
  · subst h
    rw [if_pos rfl, if_pos hk, if_pos rfl]
    rfl
  · rw [if_neg h, if_neg (fun e => h e.symm)]
theorem crC_one (L : List CR) : ∀ u ∈ crC L, u.oneCell' = true := by
  intro u hu
  simp only [crC, List.mem_flatMap] at hu
  obtain ⟨d, _, hd⟩ := hu
  simp only [cCR, List.mem_cons, List.not_mem_nil, or_false] at hd
  rcases hd with rfl | rfl | rfl | rfl | rfl | rfl <;> rfl
theorem bytS_news {w : World} {A : Option Addr} {b : List Int} (h : BytS w A b) : ∀ a, A = some a → ∀ j u, (byC b)[j]? = some u → w.cell? (a.add j) = some u := by
  intro a ha j u hu
  have hj : j < b.length := by
    rcases Nat.lt_or_ge j b.length with k | k
    · exact k
    · rw [List.getElem?_eq_none (by simp [byC]; exact k)] at hu; cases hu
  obtain ⟨g, o, e, _, hc⟩ := h (by omega)
  subst e
  cases ha
  have hadd : (⟨g, o, none⟩ : Addr).add j = ⟨g, o + j, none⟩ := by unfold Addr.add; split <;> simp_all
  rw [hadd, hc j hj, ← hu, byC_at _ hj]
theorem bytS_none {w : World} {A : Option Addr} {l : List Int} (h : BytS w A l) : A = none → l.length = 0 := fun hA => by
  rcases Nat.eq_zero_or_pos l.length with k | k
  · exact k
  · obtain ⟨g, o, e, _⟩ := h k
    rw [hA] at e
    cases e
theorem CRS.after {u u' : World} {r : CR} (h : CRS u r) (b : Below u.heap.size u u') : CRS u' r := ⟨h.k.after b, h.v.after b, h.n.after b⟩
structure CRW (B : Nat) (u : World) (r : CR) : Prop where
  k : u.ownsRow B 5 1 (.slice r.ka r.c.k.length r.kc) r.c.k.length (byC r.c.k)
  v : u.ownsRow B 5 1 (.slice r.va r.c.v.length r.vc) r.c.v.length (byC r.c.v)
  n : u.ownsRow B 42 1 (.slice r.na r.c.n.length r.nc) r.c.n.length (nuC r.c.n)
theorem CRW.keep {B : Nat} {u u' : World} {r : CR} (h : CRW B u r) (hs : ∀ x, B ≤ x → x < u.heap.size → u'.heap[x]? = u.heap[x]?) : CRW B u' r :=
  ⟨own_same h.k fun x hx => hs x (h.k.lt x hx).1 (h.k.lt x hx).2, own_same h.v fun x hx => hs x (h.v.lt x hx).1 (h.v.lt x hx).2, own_same h.n fun x hx => hs x (h.n.lt x hx).1 (h.n.lt x hx).2⟩
structure CrR (B B2 : Nat) (u : World) (A : Option Addr) (c : Nat) (L : List CR) : Prop where
  row : u.ownsRow B 59 6 (.slice A L.length c) L.length (crC L)
  low : ∀ x, (Value.slice A L.length c).ownBlock = some x → x < B2
  own : ∀ k, k < L.length → CRW B2 u (crAt L k)
  le : B ≤ B2
theorem CrR.after {B B2 : Nat} {u u' : World} {A : Option Addr} {c : Nat} {L : List CR} (h : CrR B B2 u A c L) (b : Below u.heap.size u u') : CrR B B2 u' A c L :=
  ⟨own_after h.row b, h.low, fun k hk => (h.own k hk).keep fun x _ hx => b.block x hx, h.le⟩
structure CpS (w : World) (B2 g c n : Nat) (L : List CR) (u : World) : Prop where
  below : Below w.heap.size w u
  row : u.ownsRow w.heap.size 59 6 (.slice (some ⟨g, 0, none⟩) n c) n (crC L)
  len : L.length = n
  low : g < B2
  le : w.heap.size ≤ B2 ∧ B2 ≤ u.heap.size
theorem CpS.after {w u u' : World} {B2 g c n : Nat} {L : List CR} (h : CpS w B2 g c n L u) (b : Below u.heap.size u u') : CpS w B2 g c n L u' := ⟨below_next' h.below b, own_after h.row b, h.len, h.low, h.le.1, Nat.le_trans h.le.2 b.size⟩
theorem CpS.cell {w u : World} {B2 g c n : Nat} {L : List CR} (h : CpS w B2 g c n L u) {k : Nat} (hk : k < n) (r : Nat) (hr : r < 6) : u.cell? ⟨g, k * 6 + r, none⟩ = (cCR (crAt L k))[r]? := by
  rw [h.row.cellAt _ (by omega), crC_at L k r (by rw [h.len]; exact hk) hr]
theorem CpS.store {w u u' : World} {B2 g c n : Nat} {L : List CR} (h : CpS w B2 g c n L u) (b : Below u.heap.size u u') {k : Nat} (hk : k < n) {r : Nat} (hr : r < 6) {v : Value} {y : CR} (e : (cCR (crAt L k)).set r v = cCR y) :
    CpS w B2 g c n (L.set k y) (u'.setCell ⟨g, k * 6 + r, none⟩ v) ∧ (∀ x, B2 ≤ x → x < u'.heap.size → (u'.setCell ⟨g, k * 6 + r, none⟩ v).heap[x]? = u'.heap[x]?) := by
  have h2 := h.after b
  have hg : w.heap.size ≤ g := (h.row.lt g rfl).1
  refine ⟨⟨h2.below.setCell (p := ⟨g, k * 6 + r, none⟩) hg _, ?_, by rw [List.length_set]; exact h.len, h.low, h.le.1, by rw [setCell_size]; exact h2.le.2⟩, fun x hx _ => Below.heap_setCell _ _ _ _ (fun e => by
    have := h.low
    have e2 : g = x ∨ x = g := by first | exact .inl e | exact .inr e
    omega)⟩
  rw [← crC_set (by rw [h.len]; exact hk) hr e]
  exact (h2.row.stored _ _).1
structure CpJ (w : World) (B2 g c n : Nat) (L0 : List CR) (j : Nat) (L : List CR) (u : World) : Prop where
  s : CpS w B2 g c n L u
  own : ∀ k, k < j → CRW B2 u (crAt L k)
  old : ∀ k, j ≤ k → crAt L k = crAt L0 k
  same : L.map (·.c) = L0.map (·.c)
structure CpT (w : World) (B2 g c n : Nat) (L0 : List CR) (j : Nat) (y : CR) (a b d : Bool) (L : List CR) (u : World) : Prop where
  s : CpS w B2 g c n L u
  own : ∀ k, k < j → CRW B2 u (crAt L k)
  at_ : crAt L j = y
  old : ∀ k, j < k → crAt L k = crAt L0 k
  same : L.map (·.c) = L0.map (·.c)
  k : a = true → u.ownsRow B2 5 1 (.slice y.ka y.c.k.length y.kc) y.c.k.length (byC y.c.k)
  v : b = true → u.ownsRow B2 5 1 (.slice y.va y.c.v.length y.vc) y.c.v.length (byC y.c.v)
  n : d = true → u.ownsRow B2 42 1 (.slice y.na y.c.n.length y.nc) y.c.n.length (nuC y.c.n)
theorem map_set_same {L : List CR} {j : Nat} {y : CR} (h : y.c = (crAt L j).c) : (L.set j y).map (·.c) = L.map (·.c) := by
  apply List.ext_getElem?
  intro i
  rw [List.getElem?_map, List.getElem?_map, List.getElem?_set]
  by_cases e : j = i
  · subst e
    rw [if_pos rfl]
    split
    · rename_i hl
      unfold crAt at h
      rw [List.getD_eq_getElem?_getD] at h
      rw [List.getElem?_eq_getElem hl] at h ⊢
      simp only [Option.map_some, Option.getD_some] at h ⊢
      rw [h]
    · rename_i hl
      rw [List.getElem?_eq_none (by omega)]
  · rw [if_neg e]
theorem CpT.put {w u u' : World} {B2 g c n : Nat} {L0 L : List CR} {j : Nat} {y y' : CR} {a b d : Bool} (h : CpT w B2 g c n L0 j y a b d L u) (hj : j < n) (bl : Below u.heap.size u u') {r : Nat} {v : Value} (hr : r < 6) (e : (cCR y).set r v = cCR y') (ec : y'.c = y.c) (a' b' d' : Bool)
    (hk : a' = true → u'.ownsRow B2 5 1 (.slice y'.ka y'.c.k.length y'.kc) y'.c.k.length (byC y'.c.k)) (hv : b' = true → u'.ownsRow B2 5 1 (.slice y'.va y'.c.v.length y'.vc) y'.c.v.length (byC y'.c.v)) (hn : d' = true → u'.ownsRow B2 42 1 (.slice y'.na y'.c.n.length y'.nc) y'.c.n.length (nuC y'.c.n)) :
    CpT w B2 g c n L0 j y' a' b' d' (L.set j y') (u'.setCell ⟨g, j * 6 + r, none⟩ v) := by
  obtain ⟨s1, s2⟩ := h.s.store bl hj hr (v := v) (y := y') (by rw [h.at_]; exact e)
  have hl : j < L.length := by rw [h.s.len]; exact hj
  have kp : ∀ {e : TypeId} {size m : Nat} {x : Value} {xs : List Value}, u'.ownsRow B2 e size x m xs → (u'.setCell ⟨g, j * 6 + r, none⟩ v).ownsRow B2 e size x m xs := fun o => own_same o fun x hx => s2 x (o.lt x hx).1 (o.lt x hx).2
  refine ⟨s1, fun k hk2 => ?_, by rw [crAt_set hl, if_pos rfl], fun k hk2 => by rw [crAt_set hl, if_neg (by omega)]; exact h.old k hk2, by rw [map_set_same (by rw [h.at_]; exact ec)]; exact h.same, fun x => kp (hk x), fun x => kp (hv x), fun x => kp (hn x)⟩
  rw [crAt_set hl, if_neg (by omega)]
  exact ((h.own k hk2).keep (u' := u') fun x _ hx => bl.block x hx).keep s2
theorem CpJ.start {w u : World} {B2 g c n : Nat} {L0 L : List CR} {j : Nat} (h : CpJ w B2 g c n L0 j L u) : CpT w B2 g c n L0 j (crAt L0 j) false false false L u :=
  ⟨h.s, h.own, h.old j (Nat.le_refl _), fun k hk => h.old k (Nat.le_of_lt hk), h.same, fun x => (by cases x), fun x => (by cases x), fun x => (by cases x)⟩
theorem CpT.end_ {w u : World} {B2 g c n : Nat} {L0 L : List CR} {j : Nat} {y : CR} (h : CpT w B2 g c n L0 j y true true true L u) : CpJ w B2 g c n L0 (j + 1) L u :=
  ⟨h.s, fun k hk => by
    by_cases e : k = j
    · subst e
      rw [h.at_]
      exact ⟨h.k rfl, h.v rfl, h.n rfl⟩
    · exact h.own k (by omega), fun k hk => h.old k (by omega), h.same⟩
theorem CpT.cell {w u : World} {B2 g c n : Nat} {L0 L : List CR} {j : Nat} {y : CR} {a b d : Bool} (h : CpT w B2 g c n L0 j y a b d L u) (hj : j < n) (r : Nat) (hr : r < 6) : u.cell? ⟨g, j * 6 + r, none⟩ = (cCR y)[r]? := by
  rw [h.s.cell hj r hr, h.at_]
theorem CpT.base {w u u' : World} {B2 g c n : Nat} {L0 L : List CR} {j : Nat} {y : CR} {a b d : Bool} (h : CpT w B2 g c n L0 j y a b d L u) {e : TypeId} {size m : Nat} {x : Value} {xs : List Value} (o : u'.ownsRow u.heap.size e size x m xs) : u'.ownsRow B2 e size x m xs :=
  own_base o fun k hk => Nat.le_trans h.s.le.2 (o.lt k hk).1
set_option maxHeartbeats 8000000 in
theorem m11_copied (w : World) (A : Option Addr) (c n : Nat) (L0 : List CR) (B0 : Nat) (ho : w.ownsRow B0 59 6 (.slice A n c) n (crC L0)) (hs : ∀ k, k < n → CRS w (crAt L0 k)) (hk : ∀ k, k < n → (crAt L0 k).ok) (hn : L0.length = n) (hn2 : n ≤ 1000000) :
    Calls Tryz.prog 38 #[.slice A n c] w (fun e w' => ∃ A' c' L B2, e = .returned (.slice A' n c') ∧ CrR w.heap.size B2 w' A' c' L ∧ L.map (·.c) = L0.map (·.c) ∧ Below w.heap.size w w') := by
  have hcap := own_caps ho
  have CL := Lib.hid (clone_called w A n c (crC L0) (by rw [crC_len, hn]) (fun a ha j u hu => by
    have hj : j < n * 6 := by
      rcases Nat.lt_or_ge j (n * 6) with k | k
      · exact k
      · rw [List.getElem?_eq_none (by rw [crC_len, hn]; exact k)] at hu; cases hu
    obtain ⟨g, e, _, _⟩ := own_addr ho (by omega)
    rw [e] at ha
    cases ha
    have hadd : (⟨g, 0, none⟩ : Addr).add j = ⟨g, j, none⟩ := by unfold Addr.add; split <;> simp_all
    subst e
    rw [hadd, ho.cellAt _ hj, hu]) (crC_one L0) (fun hA => by
      rcases Nat.eq_zero_or_pos n with k | k
      · exact k
      · obtain ⟨g, e, _, _⟩ := own_addr ho k
        rw [hA] at e
        cases e) hn2 hcap.1 hcap.2)
  have K1 := Lib.hid fun k (hj : k < n) u (b : Below w.heap.size w u) => clone_byte u (crAt L0 k).ka (crAt L0 k).c.k.length (crAt L0 k).kc (byC (crAt L0 k).c.k) (by simp [byC]) (bytS_news ((hs k hj).k.after b)) (byC_one _) (bytS_none (hs k hj).k) (by have := (hk k hj).c.2.2.2.1; omega) (hk k hj).k.1 (hk k hj).k.2
  have K2 := Lib.hid fun k (hj : k < n) u (b : Below w.heap.size w u) => clone_byte u (crAt L0 k).va (crAt L0 k).c.v.length (crAt L0 k).vc (byC (crAt L0 k).c.v) (by simp [byC]) (bytS_news ((hs k hj).v.after b)) (byC_one _) (bytS_none (hs k hj).v) (by have := (hk k hj).c.2.2.2.2.1; omega) (hk k hj).v.1 (hk k hj).v.2
  have K3 := Lib.hid fun k (hj : k < n) u (b : Below w.heap.size w u) => clone_num u (crAt L0 k).na (crAt L0 k).c.n.length (crAt L0 k).nc (nuC (crAt L0 k).c.n) (by rw [nuC_len, Nat.mul_one]) (nuS_news ((hs k hj).n.after b)) (nuC_one _) (numS_none (hs k hj).n) (by have := (hk k hj).c.2.2.2.2.2.1; omega) (hk k hj).n.1 (hk k hj).n.2
  have HN := Lib.hid hn
  clear ho hs hk hn hcap
  by_cases h0 : n = 0
  · subst h0
    go_enter Tryz.func38, Tryz.ntmps38
    go_wp2_with fail
    refine (CL.out).mono ?_
    rintro e w2 ⟨A1, c1, rfl, o1, b1⟩
    have O := Lib.hid (And.intro o1 b1)
    clear o1 b1
    go_wp2_with fail
    go_loopw [8] (fun iv wr => iv = .int .i64 0 ∧ wr = w2) (fun iv wr => 0)
    case atStart => exact ⟨rfl, rfl⟩
    case round =>
      obtain ⟨rfl, rfl⟩ := hrel
      go_wp2_with fail
      go_ret
      have hL : L0 = [] := List.eq_nil_of_length_eq_zero HN.out
      refine ⟨A1, c1, [], wr.heap.size, rfl, ⟨?_, fun x hx => (O.out.1.lt x hx).2, fun k hk => absurd hk (by simp), O.out.2.size⟩, by rw [hL], O.out.2⟩
      have := O.out.1
      rw [hL] at this
      exact this
  · have hpos : 0 < n := by omega
    go_enter Tryz.func38, Tryz.ntmps38
    go_wp2_with fail
    refine (CL.out).mono ?_
    rintro e w2 ⟨A1, c1, rfl, o1, b1⟩
    obtain ⟨g, rfl, hg1, hg2⟩ := own_addr o1 hpos
    have J0 : Hid (CpJ w w2.heap.size g c1 n L0 0 L0 w2) := Lib.hid ⟨⟨b1, o1, HN.out, hg2, b1.size, Nat.le_refl _⟩, fun k hk => absurd hk (Nat.not_lt_zero _), fun k _ => rfl, rfl⟩
    generalize w2.heap.size = B2 at J0
    clear o1 b1 hg1 hg2 CL
    go_wp2_with fail
    go_loopw [8] (fun iv wr => ∃ (j : Nat) (L : List CR), iv = .int .i64 j ∧ j ≤ n ∧ Hid (CpJ w B2 g c1 n L0 j L wr)) (fun iv wr => n - (intOf iv).toNat)
    case atStart => exact ⟨0, L0, rfl, by omega, J0⟩
    case round =>
      obtain ⟨j, L, rfl, hj, J⟩ := hrel
      by_cases hlt : (j : Int) < n
      · have hjn : j < n := by omega
        have T0 := Lib.hid J.out.start
        have y2 : wr.cell? ⟨g, j * 6 + 2, none⟩ = some (.slice (crAt L0 j).ka (crAt L0 j).c.k.length (crAt L0 j).kc) := T0.out.cell hjn 2 (by omega)
        have C1 := Lib.hid (K1.out j hjn wr T0.out.s.below)
        have C2 := Lib.hid fun u b => K2.out j hjn u b
        have C3 := Lib.hid fun u b => K3.out j hjn u b
        clear J
        generalize crAt L0 j = r0 at *
        go_wp2_with fail
        refine (C1.out).mono ?_
        rintro e w3 ⟨ka, kc, rfl, ok, b3⟩
        have f2 := (T0.out.s.after b3).row.frozenAt (j * 6 + 2)
        have z2 : w3.cell? ⟨g, j * 6 + 2, none⟩ = some (.slice r0.ka r0.c.k.length r0.kc) := cell_on y2 b3
        have T1 := Lib.hid (T0.out.put hjn b3 (r := 2) (v := .slice ka r0.c.k.length kc) (y' := { r0 with ka := ka, kc := kc }) (by omega) rfl rfl true false false (fun _ => T0.out.base ok) (fun x => by cases x) (fun x => by cases x))
        have y3 := T1.out.cell hjn 3 (by omega)
        replace y3 : (w3.setCell ⟨g, j * 6 + 2, none⟩ (.slice ka r0.c.k.length kc)).cell? ⟨g, j * 6 + 3, none⟩ = some (.slice r0.va r0.c.v.length r0.vc) := y3
        clear y2 b3 ok C1 T0
        go_wp2_with fail
        replace C2 := Lib.hid (C2.out _ T1.out.s.below)
        generalize w3.setCell ⟨g, j * 6 + 2, none⟩ (.slice ka r0.c.k.length kc) = w4 at *
        clear f2 z2
        refine (C2.out).mono ?_
        rintro e w5 ⟨va, vc, rfl, ok, b3⟩
        have f2 := (T1.out.s.after b3).row.frozenAt (j * 6 + 3)
        have z2 : w5.cell? ⟨g, j * 6 + 3, none⟩ = some (.slice r0.va r0.c.v.length r0.vc) := cell_on y3 b3
        have T2 := Lib.hid (T1.out.put hjn b3 (r := 3) (v := .slice va r0.c.v.length vc) (y' := { r0 with ka := ka, kc := kc, va := va, vc := vc }) (by omega) rfl rfl true true false (fun _ => own_after (T1.out.k rfl) b3) (fun _ => T1.out.base ok) (fun x => by cases x))
        have y4 := T2.out.cell hjn 4 (by omega)
        replace y4 : (w5.setCell ⟨g, j * 6 + 3, none⟩ (.slice va r0.c.v.length vc)).cell? ⟨g, j * 6 + 4, none⟩ = some (.slice r0.na r0.c.n.length r0.nc) := y4
        clear y3 b3 ok C2 T1
        go_wp2_with fail
        replace C3 := Lib.hid (C3.out _ T2.out.s.below)
        generalize w5.setCell ⟨g, j * 6 + 3, none⟩ (.slice va r0.c.v.length vc) = w6 at *
        clear f2 z2
        refine (C3.out).mono ?_
        rintro e w7 ⟨na, nc, rfl, ok, b3⟩
        have f2 := (T2.out.s.after b3).row.frozenAt (j * 6 + 4)
        have z2 : w7.cell? ⟨g, j * 6 + 4, none⟩ = some (.slice r0.na r0.c.n.length r0.nc) := cell_on y4 b3
        have T3 := Lib.hid (T2.out.put hjn b3 (r := 4) (v := .slice na r0.c.n.length nc) (y' := { r0 with ka := ka, kc := kc, va := va, vc := vc, na := na, nc := nc }) (by omega) rfl rfl true true true (fun _ => own_after (T2.out.k rfl) b3) (fun _ => own_after (T2.out.v rfl) b3) (fun _ => T2.out.base ok))
        clear y4 b3 ok C3 T2
        go_wp2_with fail
        go_round
        case rel => exact ⟨j + 1, _, by go_num, by omega, Lib.hid T3.out.end_⟩
        case measure => simp [intOf]; omega
      · have hjn : j = n := by omega
        subst hjn
        go_wp2_with fail
        go_ret
        have hl := J.out.s.len
        have V : CrR w.heap.size B2 wr (some ⟨g, 0, none⟩) c1 L := by
          refine ⟨?_, fun x hx => ?_, fun k hk => J.out.own k (by omega), J.out.s.le.1⟩
          · rw [hl]; exact J.out.s.row
          have e3 : g = x := by simpa [Value.ownBlock] using hx
          rw [← e3]; exact J.out.s.low
        have q := J.out.same
        have q2 := J.out.s.below
        first
          | exact ⟨_, c1, L, B2, rfl, V, q, q2⟩
          | exact ⟨_, c1, rfl, L, B2, V, q, q2⟩
          | exact ⟨_, c1, rfl, L, ⟨B2, V⟩, q, q2⟩
end Go.Proofs.YtlbhffdpklbhfaaGreat
