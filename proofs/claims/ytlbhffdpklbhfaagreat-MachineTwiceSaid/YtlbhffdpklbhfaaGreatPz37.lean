/-
  Texts, one behind the other: MachNew1, MachNew2, Clones.
  Conditions: those that each theorem states.
-/
import Derived.LoopTactic
import Derived.Test.YtlbhffdpklbhfaaGreatPz28
import Derived.Test.YtlbhffdpklbhfaaGreatPz33
import Derived.Test.YtlbhffdpklbhfaaGreatPz12
import Derived.Test.YtlbhffdpklbhfaaGreatPz29
import Derived.Lib.SliceRun
import Derived.Maps.AppendAt
import Derived.Test.YtlbhffdpklbhfaaGreatPz1
import Derived.Test.YtlbhffdpklbhfaaGreatPz8
namespace Go.Proofs.YtlbhffdpklbhfaaGreat
open Go.RowKit
set_option maxRecDepth 100000
set_option linter.unusedVariables false
set_option linter.unusedSimpArgs false
def memM (b : List Int) : PM := [⟨1, b, List.replicate b.length false, true⟩, ⟨2, List.replicate 512 0, List.replicate 512 true, false⟩]
theorem memM_one {b : List Int} (h : b.length ≤ 1024) : pMake [] 1 b false true = ([⟨1, b, List.replicate b.length false, true⟩], 0) := by
  unfold pMake
  rw [if_neg (by simp [pIx]), if_neg (by omega)]
  rfl
theorem memM_two (a : PA) (h : a.id = 1) : pMake [a] 2 (List.replicate 512 0) true false = ([a, ⟨2, List.replicate 512 0, List.replicate 512 true, false⟩], 0) := by
  have e : pIx [a] 2 = none := by
    unfold pIx
    rw [if_neg (by omega)]
    rfl
  unfold pMake
  rw [if_neg (by rw [e]; simp), if_neg (by simp)]
  simp
set_option maxHeartbeats 1000000 in
theorem m11_memory (w : World) (A : Option Addr) (b : List Int) (c : Nat) (hb : BytS w A b) (hob : OkB b) (hl : b.length ≤ 64) (hc : b.length ≤ c) (hcm : c ≤ maxLen) :
    Calls Tryz.prog 21 #[.slice A b.length c] w (fun e w' => ∃ g F, e = .returned (.pointer (some ⟨g, 0, none⟩)) ∧ RepP w' g (memM b) F ∧ Below w.heap.size w w' ∧ ∀ x, F x → w.heap.size ≤ x) := by
  have N := Lib.hid (c8_New w)
  have HB := Lib.hid hb
  have M1 := Lib.hid fun u g F (h : RepP u g [] F) (hb' : BytS u A b) => c8_Make u g [] F 1 b A c false true h (by omega) hb' hob hc hcm (by simp)
  rw [memM_one (by omega)] at M1
  have M2 := Lib.hid fun u g F B (h : RepP u g [⟨1, b, List.replicate b.length false, true⟩] F) (hb' : BytS u B (List.replicate 512 0)) => c8_Make u g _ F 2 (List.replicate 512 0) B 512 true false h (by omega) hb' (okB_zeros 512) (by simp) (by unfold maxLen; omega) (by simp)
  rw [memM_two _ rfl, List.length_replicate] at M2
  have mk := Lib.hid fun u : World => (show (Instr.makeSlice 23 (.int .i64 512) (.int .i64 512)).run Tryz.prog u = .ok (.slice (some ⟨u.heap.size, 0, none⟩) 512 512) (u.alloc (.cells (byC (List.replicate 512 0)).toArray 5)) from make_bytes u 512 (by omega))
  have BN := Lib.hid fun u : World => (fun (hl : 0 < (List.replicate 512 (0 : Int)).length) => (show ∃ g o, some (⟨u.heap.size, 0, none⟩ : Addr) = some ⟨g, o, none⟩ ∧ g < (u.alloc (.cells (byC (List.replicate 512 0)).toArray 5)).heap.size ∧ ∀ k, k < (List.replicate 512 (0 : Int)).length → (u.alloc (.cells (byC (List.replicate 512 0)).toArray 5)).cell? ⟨g, o + k, none⟩ = some (.int .u8 (bAt (List.replicate 512 0) k)) from by
    have hB := Blk.new u (byC (List.replicate 512 0)).toArray 5 (g := u.heap.size) rfl
    exact ⟨u.heap.size, 0, rfl, hB.lt, fun k hk => by rw [hB.cell, Nat.zero_add, List.getElem?_toArray, byC_at _ hk]⟩))
  dsimp only at M1 M2
  rw [show ([⟨1, b, List.replicate b.length false, true⟩, ⟨2, List.replicate 512 0, List.replicate 512 true, false⟩] : PM) = memM b from rfl] at M2
  clear hb hob hc hcm hl
  generalize memM b = MB at *
  generalize b.length = n at *
  go_enter Tryz.func21, Tryz.ntmps21
  go_wp2_with fail
  refine (N.out).mono ?_
  rintro e w1 ⟨g, F, rfl, h1, b1, f1⟩
  have H1 := Lib.hid (And.intro h1 (And.intro b1 f1))
  have C2 := Lib.hid (M1.out _ _ _ h1 (HB.out.after b1))
  clear h1 b1 f1
  go_wp2_with fail
  refine (C2.out).mono ?_
  rintro e w2 ⟨rfl, F2, h2, t2, f2⟩
  have H2 := Lib.hid (And.intro h2 (And.intro t2 f2))
  clear h2 t2 f2 C2
  have mk2 := mk.out w2
  have C3 := Lib.hid (M2.out (w2.alloc (.cells (byC (List.replicate 512 0)).toArray 5)) _ _ (some ⟨w2.heap.size, 0, none⟩) (H2.out.1.after (below_alloc (Below.refl _ _) _)) (BN.out w2))
  clear mk
  go_wp2_with fail
  refine (C3.out).mono ?_
  rintro e w3 ⟨rfl, F3, h3, t3, f3⟩
  have FIN : Hid (RepP w3 g MB F3 ∧ Below w.heap.size w w3 ∧ ∀ x, F3 x → w.heap.size ≤ x) := Lib.hid (by
    have b2 : Below w.heap.size w w2 := Turn.on H1.out.2.1 H2.out.2.1 H1.out.2.1.size (fun x hx => H1.out.2.2 x hx)
    have f2 : ∀ x, F2 x → w.heap.size ≤ x := fun x hx => by
      rcases H2.out.2.2 x hx with c | c
      · exact H1.out.2.2 x c
      · exact Nat.le_trans H1.out.2.1.size c
    have b2' := below_alloc b2 (.cells (byC (List.replicate 512 0)).toArray 5)
    refine ⟨h3, Turn.on b2' t3 b2'.size f2, fun x hx => ?_⟩
    rcases f3 x hx with c | c
    · exact f2 x c
    · exact Nat.le_trans b2'.size c)
  clear h3 t3 f3
  go_wp2_with fail
  go_ret
  exact ⟨g, F3, rfl, FIN.out⟩
structure IR where
  a : Option Addr
  c : Nat
  l : List Itm
def IR.zero : IR := ⟨none, 0, []⟩
def irAt (L : List IR) (k : Nat) : IR := L.getD k IR.zero
def ItmS (u : World) (A : Option Addr) (l : List Itm) : Prop :=
  0 < l.length → ∃ g o, A = some ⟨g, o, none⟩ ∧ g < u.heap.size ∧ ∀ k, k < l.length → (u.cell? ⟨g, o + k * 2, none⟩ = some (.slice (xAt l k).a (xAt l k).k.length (xAt l k).c) ∧ u.cell? ⟨g, o + k * 2 + 1, none⟩ = some (.slice (xAt l k).b (xAt l k).v.length (xAt l k).d)) ∧ BytS u (xAt l k).a (xAt l k).k ∧ BytS u (xAt l k).b (xAt l k).v
def ItmOk (x : Itm) : Prop := (OkB x.k ∧ x.k.length ≤ x.c ∧ x.c ≤ maxLen) ∧ (OkB x.v ∧ x.v.length ≤ x.d ∧ x.d ≤ maxLen)
def IsS (u : World) (A : Option Addr) (L : List IR) : Prop :=
  0 < L.length → ∃ g o, A = some ⟨g, o, none⟩ ∧ g < u.heap.size ∧ ∀ i, i < L.length → u.cell? ⟨g, o + i, none⟩ = some (.slice (irAt L i).a (irAt L i).l.length (irAt L i).c) ∧ ItmS u (irAt L i).a (irAt L i).l
def IrOk (r : IR) : Prop := r.l.length ≤ 1000 ∧ (∀ k, k < r.l.length → ItmOk (xAt r.l k)) ∧ r.l.length ≤ r.c ∧ r.c ≤ maxLen
def mFillRow (i : Nat) : List It → TT → PM → TT × PM × Bool
  | [], T, M => (T, M, true)
  | x :: l, T, M => if (tPut T M i x.1 x.2 0).n == 0 && (tPut T M i x.1 x.2 0).e == 0 then mFillRow i l (tPut T M i x.1 x.2 0).T (tPut T M i x.1 x.2 0).M else ((tPut T M i x.1 x.2 0).T, (tPut T M i x.1 x.2 0).M, false)
def mFill : Nat → List (List It) → TT → PM → TT × PM × Bool
  | _, [], T, M => (T, M, true)
  | i, r :: l, T, M => if (mFillRow i r T M).2.2 then mFill (i + 1) l (mFillRow i r T M).1 (mFillRow i r T M).2.1 else ((mFillRow i r T M).1, (mFillRow i r T M).2.1, false)
def itLs (L : List IR) : List (List It) := L.map fun r => itL r.l
theorem fillRow_step {l : List Itm} {k : Nat} (i : Nat) (h : k < l.length) (T : TT) (M : PM) : mFillRow i ((itL l).drop k) T M =
    if (tPut T M i (xAt l k).k (xAt l k).v 0).n == 0 && (tPut T M i (xAt l k).k (xAt l k).v 0).e == 0 then mFillRow i ((itL l).drop (k + 1)) (tPut T M i (xAt l k).k (xAt l k).v 0).T (tPut T M i (xAt l k).k (xAt l k).v 0).M else ((tPut T M i (xAt l k).k (xAt l k).v 0).T, (tPut T M i (xAt l k).k (xAt l k).v 0).M, false) := by
  have e : (itL l).drop k = ((xAt l k).k, (xAt l k).v) :: (itL l).drop (k + 1) := by
    rw [List.drop_eq_getElem_cons (by unfold itL; rw [List.length_map]; exact h)]
    congr 1
    unfold itL xAt
    rw [List.getElem_map, List.getD_eq_getElem?_getD, List.getElem?_eq_getElem h]
    rfl
  rw [e]
  rfl
theorem fillRow_end {l : List Itm} (i : Nat) (T : TT) (M : PM) : mFillRow i ((itL l).drop l.length) T M = (T, M, true) := by
  rw [List.drop_eq_nil_of_le (by unfold itL; rw [List.length_map]; exact Nat.le_refl _)]
  rfl
theorem fill_step {L : List IR} {j : Nat} (h : j < L.length) (T : TT) (M : PM) : mFill j ((itLs L).drop j) T M =
    if (mFillRow j (itL (irAt L j).l) T M).2.2 then mFill (j + 1) ((itLs L).drop (j + 1)) (mFillRow j (itL (irAt L j).l) T M).1 (mFillRow j (itL (irAt L j).l) T M).2.1 else ((mFillRow j (itL (irAt L j).l) T M).1, (mFillRow j (itL (irAt L j).l) T M).2.1, false) := by
  have e : (itLs L).drop j = itL (irAt L j).l :: (itLs L).drop (j + 1) := by
    rw [List.drop_eq_getElem_cons (by unfold itLs; rw [List.length_map]; exact h)]
    congr 1
    unfold itLs irAt
    rw [List.getElem_map, List.getD_eq_getElem?_getD, List.getElem?_eq_getElem h]
    rfl
  rw [e]
  rfl
theorem fill_end {L : List IR} (T : TT) (M : PM) : mFill L.length ((itLs L).drop L.length) T M = (T, M, true) := by
  rw [List.drop_eq_nil_of_le (by unfold itLs; rw [List.length_map]; exact Nat.le_refl _)]
  rfl
structure FQ (w : World) (gt gm : Nat) (H : Nat → Prop) (T0 : TT) (T : TT) (M : PM) (m : Nat) (F : Nat → Prop) (u : World) : Prop where
  rep : (sysT gt gm T M).R u F
  turn : Turn H w u
  foot : ∀ x, F x → H x ∨ w.heap.size ≤ x
  same : SameD T0 T
  len : M.length ≤ m
theorem SameD.trans {a b c : TT} (h : SameD a b) (k : SameD b c) : SameD a c := ⟨k.1.trans h.1, fun i => (k.2 i).trans (h.2 i)⟩
theorem ne_and0 {a b : Int} (h : (a == 0 && b == 0) = false) : ((a != 0) = true) ∨ ((a != 0) = false ∧ (b != 0) = true) := by
  cases h1 : (a == 0)
  · exact .inl (ne_of_eq0 h1)
  · rw [h1, Bool.true_and] at h
    exact .inr ⟨ne_of_eq1 h1, ne_of_eq0 h⟩
theorem FQ.put {w u u' : World} {gt gm : Nat} {H F : Nat → Prop} {T0 T : TT} {M : PM} {m : Nat} (h : FQ w gt gm H T0 T M m F u) (i : Int) (key val : List Int) (b : Below u.heap.size u u') {w9 : World}
    (t : Tn (sysT gt gm (tPut T M i key val 0).T (tPut T M i key val 0).M) F u' w9) : ∃ F', FQ w gt gm H T0 (tPut T M i key val 0).T (tPut T M i key val 0).M (m + 1) F' w9 := by
  obtain ⟨F', k1, k2, k3⟩ := t.before b
  refine ⟨F', k1, h.turn.trans k2 h.foot, fun x hx => ?_, h.same.trans (tPut_same T M i key val 0).1, Nat.le_trans (tPut_same T M i key val 0).2 (by have := h.len; omega)⟩
  rcases k3 x hx with c | c
  · exact h.foot x c
  · exact .inr (Nat.le_trans h.turn.size c)
theorem FQ.tn {w u : World} {gt gm : Nat} {H F : Nat → Prop} {T0 T : TT} {M : PM} {m : Nat} (h : FQ w gt gm H T0 T M m F u) : Tn (sysT gt gm T M) H w u := ⟨F, h.rep, h.turn, h.foot⟩
theorem FQ.after {w u u' : World} {gt gm : Nat} {H F : Nat → Prop} {T0 T : TT} {M : PM} {m : Nat} (h : FQ w gt gm H T0 T M m F u) (b : Below u.heap.size u u') : FQ w gt gm H T0 T M m F u' := ⟨(sysT gt gm T M).after h.rep b, h.turn.next b, h.foot, h.same, h.len⟩
set_option maxHeartbeats 8000000 in
theorem m11_filled (w : World) (gt gm : Nat) (T0 : TT) (M0 : PM) (H : Nat → Prop) (A : Option Addr) (L : List IR) (c : Nat) (h : (sysT gt gm T0 M0).R w H) (hT8 : T0.length ≤ 8) (hM : M0.length ≤ 1000) (HI : ∀ u, Turn H w u → IsS u A L) (hok : ∀ i, i < L.length → IrOk (irAt L i)) (hL : L.length ≤ 8) (hc : L.length ≤ c) (hcm : c ≤ maxLen) :
    Calls Tryz.prog 23 #[.pointer (some ⟨gt, 0, none⟩), .slice A L.length c] w (fun e w' => e = .returned (.bool (mFill 0 (itLs L) T0 M0).2.2) ∧ Tn (sysT gt gm (mFill 0 (itLs L) T0 M0).1 (mFill 0 (itLs L) T0 M0).2.1) H w w') := by
  have HH := Lib.hid HI
  have OK := Lib.hid hok
  have Q0 := Lib.hid (show FQ w gt gm H T0 T0 M0 (M0.length + 1000 * 0) H w from ⟨h, Turn.refl _ _, fun x hx => .inl hx, SameD.refl _, by omega⟩)
  have FS := Lib.hid fun j (hj : j < L.length) T M => fill_step hj T M
  have FE := Lib.hid fun T M => fill_end (L := L) T M
  have I0 : Hid (mFill 0 (itLs L) T0 M0 = mFill 0 ((itLs L).drop 0) T0 M0) := Lib.hid (by rw [List.drop_zero])
  have T8 := Lib.hid hT8
  have M1 := Lib.hid hM
  clear h HI hok hT8 hM
  generalize hR : mFill 0 (itLs L) T0 M0 = R at *
  clear hR
  unfold maxLen at hcm
  generalize hn : L.length = n at *
  have HN := Lib.hid hn
  clear hn
  go_enter Tryz.func23, Tryz.ntmps23
  go_wp2_with fail
  go_loopw [13] (fun iv wr => ∃ (j : Nat) (T : TT) (M : PM) (F : Nat → Prop), iv = .int .i64 j ∧ j ≤ n ∧ Hid (FQ w gt gm H T0 T M (M0.length + 1000 * j) F wr ∧ R = mFill j ((itLs L).drop j) T M)) (fun iv wr => n - (intOf iv).toNat)
  case atStart => exact ⟨0, T0, M0, H, rfl, by omega, Lib.hid ⟨Q0.out, I0.out⟩⟩
  case round =>
    obtain ⟨j, T, M, F, rfl, hj, Q⟩ := hrel
    have j0 : (0 : Int) ≤ j := by omega
    by_cases hlt : (j : Int) < n
    · have hjn : j < n := by omega
      obtain ⟨g, o, hA, hg, hcell⟩ := (HH.out wr Q.out.1.turn) (by rw [HN.out]; omega)
      have c0 := (hcell j (by rw [HN.out]; exact hjn)).1
      obtain ⟨k1, k2, k3, k4⟩ := OK.out j hjn
      have STEP := Lib.hid (Q.out.2.trans (FS.out j hjn T M))
      have ROW : Hid (∀ u, Turn H w u → ItmS u (irAt L j).a (irAt L j).l) := Lib.hid fun u t => by
        obtain ⟨g2, o2, _, _, hc2⟩ := (HH.out u t) (by rw [HN.out]; omega)
        exact (hc2 j (by rw [HN.out]; exact hjn)).2
      have RK := Lib.hid k2
      have Q1 : Hid (∃ F1, FQ w gt gm H T0 T M (M0.length + 1000 * j) F1 wr) := Lib.hid ⟨F, Q.out.1⟩
      subst hA
      clear hcell hg k2 Q
      generalize irAt L j = rw_ at *
      have RS := Lib.hid fun k (hk : k < rw_.l.length) T' M' => fillRow_step j hk T' M'
      have RE := Lib.hid fun T' M' => fillRow_end (l := rw_.l) j T' M'
      have I1 : Hid (mFillRow j (itL rw_.l) T M = mFillRow j ((itL rw_.l).drop 0) T M) := Lib.hid (by rw [List.drop_zero])
      generalize mFillRow j (itL rw_.l) T M = RR at *
      unfold maxLen at k4
      generalize hm : rw_.l.length = m at *
      have HM := Lib.hid hm
      clear hm
      generalize rw_.c = rc at *
      by_cases hm0 : 0 < m
      · obtain ⟨gr, or, hra, -⟩ := (ROW.out wr (by obtain ⟨F1, q⟩ := Q1.out; exact q.turn)) (by rw [HM.out]; omega)
        have HRA := Lib.hid hra
        rw [hra] at c0
        clear hra
        go_wp2_with fail
        go_loopw [20] (fun kv wr => ∃ (k : Nat) (T' : TT) (M' : PM) (F' : Nat → Prop), kv = .int .i64 k ∧ k ≤ m ∧ Hid (FQ w gt gm H T0 T' M' (M0.length + 1000 * j + k) F' wr ∧ RR = mFillRow j ((itL rw_.l).drop k) T' M')) (fun kv wr => m - (intOf kv).toNat)
        case atStart =>
          obtain ⟨F1, q⟩ := Q1.out
          exact ⟨0, T, M, F1, rfl, by omega, Lib.hid ⟨q, I1.out⟩⟩
        case round =>
          obtain ⟨k, T', M', F', rfl, hk, Q⟩ := hrel
          have k0 : (0 : Int) ≤ k := by omega
          by_cases hlt2 : (k : Int) < m
          · have hkm : k < m := by omega
            obtain ⟨gr', or', hra', hgr, hcl⟩ := (ROW.out wr Q.out.1.turn) (by rw [HM.out]; omega)
            rw [HRA.out] at hra'
            cases hra'
            obtain ⟨⟨y0, y1⟩, yk, yv⟩ := hcl k (by rw [HM.out]; exact hkm)
            obtain ⟨⟨x1, x2, x3⟩, x4, x5, x6⟩ := RK.out k hkm
            have STEP2 := Lib.hid (Q.out.2.trans (RS.out k hkm T' M'))
            have KEK : Hid (∀ u, Below wr.heap.size wr u → Keep F' u (xAt rw_.l k).a (xAt rw_.l k).k ∧ Keep F' u (xAt rw_.l k).b (xAt rw_.l k).v) := Lib.hid fun u b => by
              have key : ∀ u2, Turn F' u u2 → BytS u2 (xAt rw_.l k).a (xAt rw_.l k).k ∧ BytS u2 (xAt rw_.l k).b (xAt rw_.l k).v := fun u2 t2 => by
                obtain ⟨_, _, _, _, hc2⟩ := (ROW.out u2 ((Q.out.1.after b).turn.trans t2 Q.out.1.foot)) (by rw [HM.out]; omega)
                exact (hc2 k (by rw [HM.out]; exact hkm)).2
              exact ⟨fun u2 t2 => (key u2 t2).1, fun u2 t2 => (key u2 t2).2⟩
            clear hcl yk yv hgr ROW RS RE I1
            have PUT := Lib.hid fun u (b : Below wr.heap.size wr u) => ot_Put (j : Int) (xAt rw_.l k).k (xAt rw_.l k).v (xAt rw_.l k).a (xAt rw_.l k).b _ (xAt rw_.l k).c _ (xAt rw_.l k).d 0 ((sysT gt gm T' M').after Q.out.1.rep b) (by have := Q.out.1.same.1; have := T8.out; omega) (KEK.out u b).1 x1 rfl x2 x3 (KEK.out u b).2 x4 rfl x5 x6 (by omega) (by have := Q.out.1.len; have := M1.out; omega)
            have NXT := Lib.hid fun u w9 (b : Below wr.heap.size wr u) t => Q.out.1.put (j : Int) (xAt rw_.l k).k (xAt rw_.l k).v b (w9 := w9) t
            clear KEK x1 x4
            generalize xAt rw_.l k = x at *
            generalize tPut T' M' (j : Int) x.k x.v 0 = PP at *
            have BX := Lib.hid (below_alloc (Below.refl wr.heap.size wr) (.cells #[.slice x.a x.k.length x.c, .slice x.b x.v.length x.d] 84))
            generalize x.k.length = nk at *
            generalize x.v.length = nv at *
            generalize x.a = xa at *
            generalize x.b = xb at *
            generalize x.c = xc at *
            generalize x.d = xd at *
            cases hq : (PP.n == 0 && PP.e == 0)
            · have HF : Hid (R = (PP.T, PP.M, false)) := Lib.hid (by
                rw [STEP.out, STEP2.out, hq, if_neg Bool.false_ne_true]
                rfl)
              clear STEP STEP2
              rcases ne_and0 hq with n1 | ⟨n1, n2⟩
              · clear hq
                go_wp2_with fail
                refine (PUT.out _ BX.out).mono ?_
                rintro e w9 ⟨rfl, t9⟩
                have FN := Lib.hid (NXT.out _ _ BX.out t9)
                clear t9
                go_wp2_with fail
                go_ret
                obtain ⟨F9, q9⟩ := FN.out
                rw [HF.out]
                exact ⟨rfl, q9.tn⟩
              · clear hq
                go_wp2_with fail
                refine (PUT.out _ BX.out).mono ?_
                rintro e w9 ⟨rfl, t9⟩
                have FN := Lib.hid (NXT.out _ _ BX.out t9)
                clear t9
                go_wp2_with fail
                go_ret
                obtain ⟨F9, q9⟩ := FN.out
                rw [HF.out]
                exact ⟨rfl, q9.tn⟩
            · rw [hq, if_pos rfl] at STEP2
              simp only [Bool.and_eq_true, beq_iff_eq] at hq
              obtain ⟨q1, q2⟩ := hq
              have n1 : (PP.n != 0) = false := by rw [q1]; rfl
              have n2 : (PP.e != 0) = false := by rw [q2]; rfl
              clear q1 q2
              go_wp2_with fail
              refine (PUT.out _ BX.out).mono ?_
              rintro e w9 ⟨rfl, t9⟩
              have FN := Lib.hid (NXT.out _ _ BX.out t9)
              clear t9 PUT NXT
              go_wp2_with fail
              go_round
              case rel =>
                obtain ⟨F9, q9⟩ := FN.out
                exact ⟨k + 1, PP.T, PP.M, F9, by go_num, by omega, Lib.hid ⟨⟨q9.rep, q9.turn, q9.foot, q9.same, by have := q9.len; omega⟩, STEP2.out⟩⟩
              case measure => simp [intOf]; omega
          · have hkm : k = m := by omega
            subst hkm
            have HF : Hid (R = mFill (j + 1) ((itLs L).drop (j + 1)) T' M') := Lib.hid (by
              have e : RR = (T', M', true) := by rw [Q.out.2]; exact RE.out T' M'
              rw [STEP.out, e, if_pos rfl])
            have FN := Lib.hid Q.out.1
            clear Q STEP RS RE ROW I1
            go_wp2_with fail
            go_round
            case rel => exact ⟨j + 1, T', M', F', by go_num, by omega, Lib.hid ⟨⟨FN.out.rep, FN.out.turn, FN.out.foot, FN.out.same, by have := FN.out.len; omega⟩, HF.out⟩⟩
            case measure => simp [intOf]; omega
      · have hm0' : m = 0 := by omega
        subst hm0'
        have HF : Hid (R = mFill (j + 1) ((itLs L).drop (j + 1)) T M) := Lib.hid (by
          have e : RR = (T, M, true) := by
            rw [I1.out]
            have := RE.out T M
            rwa [List.drop_zero] at this ⊢
          rw [STEP.out, e, if_pos rfl])
        clear STEP RS RE ROW I1
        go_wp2_with fail
        go_loopw [20] (fun kv wr => kv = .int .i64 0 ∧ Hid (∃ F1, FQ w gt gm H T0 T M (M0.length + 1000 * j) F1 wr)) (fun kv wr => 0)
        case atStart => exact ⟨rfl, Q1⟩
        case round =>
          obtain ⟨rfl, Q⟩ := hrel
          go_wp2_with fail
          go_round
          case rel =>
            obtain ⟨F1, q⟩ := Q.out
            exact ⟨j + 1, T, M, F1, by go_num, by omega, Lib.hid ⟨⟨q.rep, q.turn, q.foot, q.same, by have := q.len; omega⟩, HF.out⟩⟩
          case measure => simp [intOf]; omega
    · have hjn : j = n := by omega
      subst hjn
      have HF : Hid (R = (T, M, true)) := Lib.hid (by rw [Q.out.2]; exact FE.out T M)
      have TT := Lib.hid Q.out.1.tn
      clear Q
      go_wp2_with fail
      go_ret
      rw [HF.out]
      exact ⟨rfl, TT.out⟩
def CloneW (e : TypeId) (size n : Nat) (cells : List Value) (w : World) (en : Ending) (w' : World) : Prop := ∃ A' c', en = .returned (.slice A' n c') ∧ w'.ownsRow w.heap.size e size (.slice A' n c') n cells ∧ Below w.heap.size w w'
theorem own_empty (w : World) (e : TypeId) (size : Nat) : (w.alloc (.cells #[] e)).ownsRow w.heap.size e size (.slice (some ⟨w.heap.size, 0, none⟩) 0 0) 0 [] :=
  ⟨by simp, .inr ⟨w.heap.size, 0, #[], rfl, Nat.le_refl _, Blk.new w #[] e rfl, Nat.le_refl _, Nat.zero_le _, by simp, by simp⟩⟩
theorem below_own0 {w w4 : World} {e : TypeId} {size : Nat} (h : (w.alloc (.cells #[] e)).grownBy w4 (Value.slice (some ⟨w.heap.size, 0, none⟩) 0 0).ownBlock) : Below w.heap.size w w4 := by
  have b1 := below_alloc (Below.refl w.heap.size w) (.cells #[] e)
  have asz : (w.alloc (.cells #[] e)).heap.size = w.heap.size + 1 := by simp
  refine ⟨h.os.trans b1.os, h.tape.trans b1.tape, h.output.trans b1.output, Nat.le_trans b1.size h.size, fun k hk => (h.block k (by omega) (fun e => ?_)).trans (b1.block k hk)⟩
  have e3 : k = w.heap.size := by simpa [Value.ownBlock] using e
  omega
set_option maxHeartbeats 1000000 in
theorem clone_insn (w : World) (A : Option Addr) (n c : Nat) (cells : List Value) (hlen : cells.length = n * 5) (hnews : ∀ a, A = some a → ∀ j u, cells[j]? = some u → w.cell? (a.add j) = some u) (hone : ∀ u ∈ cells, u.oneCell' = true) (hA : A = none → n = 0) (hn : n ≤ 1000000) (hnc : n ≤ c) (hc : c ≤ maxLen) :
    Calls Tryz.prog 24 #[.slice A n c] w (CloneW 63 5 n cells w) := by
  obtain ⟨i1, hi1, hz, hs, hby⟩ := info_parts (show (Tryz.prog.info? 63).map (fun i => (i.zero, i.size, i.bytes)) = some (some (.agg #[.int .u8 0, .int .u8 0, .int .u8 0, .int .i16 0, .int .i32 0]), 5, 12) by kernel_rfl)
  unfold maxLen at hc
  have hnil : ∀ u, (binOp BinOp.eql 22 (.slice A n c) (.slice none 0 0)).run Tryz.prog u = .ok (.bool A.isNone) u := fun u => Lib.run_eql_slice_nil u _ _ _ _ _ _ _ Tryz.underlying22
  cases A with
  | none =>
    have h0 := hA rfl
    subst h0
    have hcells : cells = [] := List.eq_nil_of_length_eq_zero (by omega)
    subst hcells
    clear hnews hone hA hlen
    go_enter Tryz.func24, Tryz.ntmps24
    go_wp2_with fail
    go_ret
    exact ⟨none, 0, rfl, World.ownsRow_nil _ _ _ _, Below.refl _ _⟩
  | some a =>
    have b1 := below_alloc (Below.refl w.heap.size w) (.cells #[] 63)
    have asz : (w.alloc (.cells #[] 63)).heap.size = w.heap.size + 1 := by simp
    obtain ⟨v', w4, hr, ho, hg, _⟩ := run_append_own_at (P := Tryz.prog) (w := w.alloc (.cells #[] 63)) w.heap.size 22 22 63 i1 (.agg #[.int .u8 0, .int .u8 0, .int .u8 0, .int .i16 0, .int .i32 0]) 5 12 Tryz.underlying22 hi1 hz hs hby rfl (by omega) _ _ _ (own_empty w _ 5) a n c cells hlen
      (fun j u hu => cell_on (hnews a rfl j u hu) b1) hone (by unfold maxLen; omega) (by omega) (by omega)
    rw [Nat.zero_add, List.nil_append] at ho
    obtain ⟨A3, c3, rfl, _, _⟩ := own_slice ho
    have FIN := Lib.hid (And.intro ho (below_own0 (size := 5) hg))
    clear ho hg b1 asz hnews hone hA hlen
    go_enter Tryz.func24, Tryz.ntmps24
    go_wp2_with ((at_builtin; refine Lib.wpList_append_run _ rfl (.tmp 5) (.tmp 6) _ _ rfl _ _ rfl rfl _ _ hr ?_))
    go_ret
    exact ⟨_, _, rfl, FIN.out.1, FIN.out.2⟩
set_option maxHeartbeats 1000000 in
theorem clone_def (w : World) (A : Option Addr) (n c : Nat) (cells : List Value) (hlen : cells.length = n * 4) (hnews : ∀ a, A = some a → ∀ j u, cells[j]? = some u → w.cell? (a.add j) = some u) (hone : ∀ u ∈ cells, u.oneCell' = true) (hA : A = none → n = 0) (hn : n ≤ 1000000) (hnc : n ≤ c) (hc : c ≤ maxLen) :
    Calls Tryz.prog 25 #[.slice A n c] w (CloneW 74 4 n cells w) := by
  obtain ⟨i1, hi1, hz, hs, hby⟩ := info_parts (show (Tryz.prog.info? 74).map (fun i => (i.zero, i.size, i.bytes)) = some (some (.agg #[.bool false, .int .i64 0, .int .i64 0, .int .i64 0]), 4, 32) by kernel_rfl)
  unfold maxLen at hc
  have hnil : ∀ u, (binOp BinOp.eql 24 (.slice A n c) (.slice none 0 0)).run Tryz.prog u = .ok (.bool A.isNone) u := fun u => Lib.run_eql_slice_nil u _ _ _ _ _ _ _ Tryz.underlying24
  cases A with
  | none =>
    have h0 := hA rfl
    subst h0
    have hcells : cells = [] := List.eq_nil_of_length_eq_zero (by omega)
    subst hcells
    clear hnews hone hA hlen
    go_enter Tryz.func25, Tryz.ntmps25
    go_wp2_with fail
    go_ret
    exact ⟨none, 0, rfl, World.ownsRow_nil _ _ _ _, Below.refl _ _⟩
  | some a =>
    have b1 := below_alloc (Below.refl w.heap.size w) (.cells #[] 74)
    have asz : (w.alloc (.cells #[] 74)).heap.size = w.heap.size + 1 := by simp
    obtain ⟨v', w4, hr, ho, hg, _⟩ := run_append_own_at (P := Tryz.prog) (w := w.alloc (.cells #[] 74)) w.heap.size 24 24 74 i1 (.agg #[.bool false, .int .i64 0, .int .i64 0, .int .i64 0]) 4 32 Tryz.underlying24 hi1 hz hs hby rfl (by omega) _ _ _ (own_empty w _ 4) a n c cells hlen
      (fun j u hu => cell_on (hnews a rfl j u hu) b1) hone (by unfold maxLen; omega) (by omega) (by omega)
    rw [Nat.zero_add, List.nil_append] at ho
    obtain ⟨A3, c3, rfl, _, _⟩ := own_slice ho
    have FIN := Lib.hid (And.intro ho (below_own0 (size := 4) hg))
    clear ho hg b1 asz hnews hone hA hlen
    go_enter Tryz.func25, Tryz.ntmps25
    go_wp2_with ((at_builtin; refine Lib.wpList_append_run _ rfl (.tmp 5) (.tmp 6) _ _ rfl _ _ rfl rfl _ _ hr ?_))
    go_ret
    exact ⟨_, _, rfl, FIN.out.1, FIN.out.2⟩
set_option maxHeartbeats 1000000 in
theorem clone_num (w : World) (A : Option Addr) (n c : Nat) (cells : List Value) (hlen : cells.length = n * 1) (hnews : ∀ a, A = some a → ∀ j u, cells[j]? = some u → w.cell? (a.add j) = some u) (hone : ∀ u ∈ cells, u.oneCell' = true) (hA : A = none → n = 0) (hn : n ≤ 1000000) (hnc : n ≤ c) (hc : c ≤ maxLen) :
    Calls Tryz.prog 26 #[.slice A n c] w (CloneW 42 1 n cells w) := by
  obtain ⟨i1, hi1, hz, hs, hby⟩ := info_parts (show (Tryz.prog.info? 42).map (fun i => (i.zero, i.size, i.bytes)) = some (some (.int .u64 0), 1, 8) by kernel_rfl)
  unfold maxLen at hc
  have hnil : ∀ u, (binOp BinOp.eql 26 (.slice A n c) (.slice none 0 0)).run Tryz.prog u = .ok (.bool A.isNone) u := fun u => Lib.run_eql_slice_nil u _ _ _ _ _ _ _ Tryz.underlying26
  cases A with
  | none =>
    have h0 := hA rfl
    subst h0
    have hcells : cells = [] := List.eq_nil_of_length_eq_zero (by omega)
    subst hcells
    clear hnews hone hA hlen
    go_enter Tryz.func26, Tryz.ntmps26
    go_wp2_with fail
    go_ret
    exact ⟨none, 0, rfl, World.ownsRow_nil _ _ _ _, Below.refl _ _⟩
  | some a =>
    have b1 := below_alloc (Below.refl w.heap.size w) (.cells #[] 42)
    have asz : (w.alloc (.cells #[] 42)).heap.size = w.heap.size + 1 := by simp
    obtain ⟨v', w4, hr, ho, hg, _⟩ := run_append_own_at (P := Tryz.prog) (w := w.alloc (.cells #[] 42)) w.heap.size 26 26 42 i1 (.int .u64 0) 1 8 Tryz.underlying26 hi1 hz hs hby rfl (by omega) _ _ _ (own_empty w _ 1) a n c cells hlen
      (fun j u hu => cell_on (hnews a rfl j u hu) b1) hone (by unfold maxLen; omega) (by omega) (by omega)
    rw [Nat.zero_add, List.nil_append] at ho
    obtain ⟨A3, c3, rfl, _, _⟩ := own_slice ho
    have FIN := Lib.hid (And.intro ho (below_own0 (size := 1) hg))
    clear ho hg b1 asz hnews hone hA hlen
    go_enter Tryz.func26, Tryz.ntmps26
    go_wp2_with ((at_builtin; refine Lib.wpList_append_run _ rfl (.tmp 5) (.tmp 6) _ _ rfl _ _ rfl rfl _ _ hr ?_))
    go_ret
    exact ⟨_, _, rfl, FIN.out.1, FIN.out.2⟩
set_option maxHeartbeats 1000000 in
theorem clone_called (w : World) (A : Option Addr) (n c : Nat) (cells : List Value) (hlen : cells.length = n * 6) (hnews : ∀ a, A = some a → ∀ j u, cells[j]? = some u → w.cell? (a.add j) = some u) (hone : ∀ u ∈ cells, u.oneCell' = true) (hA : A = none → n = 0) (hn : n ≤ 1000000) (hnc : n ≤ c) (hc : c ≤ maxLen) :
    Calls Tryz.prog 82 #[.slice A n c] w (CloneW 59 6 n cells w) := by
  obtain ⟨i1, hi1, hz, hs, hby⟩ := info_parts (show (Tryz.prog.info? 59).map (fun i => (i.zero, i.size, i.bytes)) = some (some (.agg #[.int .i64 0, .int .i64 0, .slice none 0 0, .slice none 0 0, .slice none 0 0, .int .u64 0]), 6, 96) by kernel_rfl)
  unfold maxLen at hc
  have hnil : ∀ u, (binOp BinOp.eql 47 (.slice A n c) (.slice none 0 0)).run Tryz.prog u = .ok (.bool A.isNone) u := fun u => Lib.run_eql_slice_nil u _ _ _ _ _ _ _ Tryz.underlying47
  cases A with
  | none =>
    have h0 := hA rfl
    subst h0
    have hcells : cells = [] := List.eq_nil_of_length_eq_zero (by omega)
    subst hcells
    clear hnews hone hA hlen
    go_enter Tryz.func82, Tryz.ntmps82
    go_wp2_with fail
    go_ret
    exact ⟨none, 0, rfl, World.ownsRow_nil _ _ _ _, Below.refl _ _⟩
  | some a =>
    have b1 := below_alloc (Below.refl w.heap.size w) (.cells #[] 59)
    have asz : (w.alloc (.cells #[] 59)).heap.size = w.heap.size + 1 := by simp
    obtain ⟨v', w4, hr, ho, hg, _⟩ := run_append_own_at (P := Tryz.prog) (w := w.alloc (.cells #[] 59)) w.heap.size 47 47 59 i1 (.agg #[.int .i64 0, .int .i64 0, .slice none 0 0, .slice none 0 0, .slice none 0 0, .int .u64 0]) 6 96 Tryz.underlying47 hi1 hz hs hby rfl (by omega) _ _ _ (own_empty w _ 6) a n c cells hlen
      (fun j u hu => cell_on (hnews a rfl j u hu) b1) hone (by unfold maxLen; omega) (by omega) (by omega)
    rw [Nat.zero_add, List.nil_append] at ho
    obtain ⟨A3, c3, rfl, _, _⟩ := own_slice ho
    have FIN := Lib.hid (And.intro ho (below_own0 (size := 6) hg))
    clear ho hg b1 asz hnews hone hA hlen
    go_enter Tryz.func82, Tryz.ntmps82
    go_wp2_with ((at_builtin; refine Lib.wpList_append_run _ rfl (.tmp 5) (.tmp 6) _ _ rfl _ _ rfl rfl _ _ hr ?_))
    go_ret
    exact ⟨_, _, rfl, FIN.out.1, FIN.out.2⟩
set_option maxHeartbeats 1000000 in
theorem clone_byte (w : World) (A : Option Addr) (n c : Nat) (cells : List Value) (hlen : cells.length = n * 1) (hnews : ∀ a, A = some a → ∀ j u, cells[j]? = some u → w.cell? (a.add j) = some u) (hone : ∀ u ∈ cells, u.oneCell' = true) (hA : A = none → n = 0) (hn : n ≤ 1000000) (hnc : n ≤ c) (hc : c ≤ maxLen) :
    Calls Tryz.prog 83 #[.slice A n c] w (CloneW 5 1 n cells w) := by
  obtain ⟨i1, hi1, hz, hs, hby⟩ := info_parts (show (Tryz.prog.info? 5).map (fun i => (i.zero, i.size, i.bytes)) = some (some (.int .u8 0), 1, 1) by kernel_rfl)
  unfold maxLen at hc
  have hnil : ∀ u, (binOp BinOp.eql 23 (.slice A n c) (.slice none 0 0)).run Tryz.prog u = .ok (.bool A.isNone) u := fun u => Lib.run_eql_slice_nil u _ _ _ _ _ _ _ Tryz.underlying23
  cases A with
  | none =>
    have h0 := hA rfl
    subst h0
    have hcells : cells = [] := List.eq_nil_of_length_eq_zero (by omega)
    subst hcells
    clear hnews hone hA hlen
    go_enter Tryz.func83, Tryz.ntmps83
    go_wp2_with fail
    go_ret
    exact ⟨none, 0, rfl, World.ownsRow_nil _ _ _ _, Below.refl _ _⟩
  | some a =>
    have b1 := below_alloc (Below.refl w.heap.size w) (.cells #[] 5)
    have asz : (w.alloc (.cells #[] 5)).heap.size = w.heap.size + 1 := by simp
    obtain ⟨v', w4, hr, ho, hg, _⟩ := run_append_own_at (P := Tryz.prog) (w := w.alloc (.cells #[] 5)) w.heap.size 23 23 5 i1 (.int .u8 0) 1 1 Tryz.underlying23 hi1 hz hs hby rfl (by omega) _ _ _ (own_empty w _ 1) a n c cells hlen
      (fun j u hu => cell_on (hnews a rfl j u hu) b1) hone (by unfold maxLen; omega) (by omega) (by omega)
    rw [Nat.zero_add, List.nil_append] at ho
    obtain ⟨A3, c3, rfl, _, _⟩ := own_slice ho
    have FIN := Lib.hid (And.intro ho (below_own0 (size := 1) hg))
    clear ho hg b1 asz hnews hone hA hlen
    go_enter Tryz.func83, Tryz.ntmps83
    go_wp2_with ((at_builtin; refine Lib.wpList_append_run _ rfl (.tmp 5) (.tmp 6) _ _ rfl _ _ rfl rfl _ _ hr ?_))
    go_ret
    exact ⟨_, _, rfl, FIN.out.1, FIN.out.2⟩
end Go.Proofs.YtlbhffdpklbhfaaGreat
