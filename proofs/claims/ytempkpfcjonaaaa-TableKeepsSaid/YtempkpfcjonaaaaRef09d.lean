/-
  Layer 9's own Drop.
  Conditions: the numbers fit their kinds.
-/
import Derived.Test.YtempkpfcjonaaaaRef09b
import Derived.Test.YtempkpfcjonaaaaAppNone
namespace Go.Proofs.Ytempkpfcjonaaaa
open Go.RowKit
set_option maxRecDepth 100000
set_option linter.unusedVariables false
set_option linter.unusedSimpArgs false

/-- Maps have become other ones, and one answer is told. -/
def MapW (gt g2 : Nat) (F : Nat → Prop) (T : TT) (v : Value) (w : World) (e : Ending) (w' : World) : Prop :=
  e = .returned v ∧ ∃ F', RepS w' gt g2 T F' ∧ Turn F w w' ∧ ∀ x, F' x → F x ∨ w.heap.size ≤ x
theorem mapW_same {w w' : World} {gt g2 : Nat} {T : TT} {F : Nat → Prop} {v : Value} (h : RepS w gt g2 T F) (b : Below w.heap.size w w') : MapW gt g2 F T v w (.returned v) w' :=
  ⟨rfl, F, h.after b, Turn.of_below b, fun x hx => .inl hx⟩
/-- What is left of some keys. -/
def leftK (L : List TK) (key : List Int) : List TK := L.filter fun x => !(x.k == key)
theorem leftK_take {L : List TK} {key : List Int} {j : Nat} (h : j < L.length) : leftK (L.take (j + 1)) key = if (kAt L j).k = key then leftK (L.take j) key else leftK (L.take j) key ++ [kAt L j] := by
  have e : L.take (j + 1) = L.take j ++ [kAt L j] := by
    rw [List.take_add_one, List.getElem?_eq_getElem h]
    unfold kAt
    rw [List.getD_eq_getElem?_getD, List.getElem?_eq_getElem h]
    rfl
  rw [e]
  unfold leftK
  rw [List.filter_append]
  by_cases hk : (kAt L j).k = key
  · rw [if_pos hk]; simp [hk]
  · rw [if_neg hk]; simp [hk]
theorem leftK_len (L : List TK) (key : List Int) : (leftK L key).length ≤ L.length := List.length_filter_le _ _
theorem leftK_all {L : List TK} {key : List Int} : (leftK L key).length = L.length ↔ tFind L key = none := by
  unfold leftK tFind
  rw [Option.map_eq_none_iff, List.find?_eq_none, List.length_filter_eq_length_iff]
  simp
theorem leftK_ok {m : TM} (h : m.ok) (key : List Int) : TM.ok ⟨m.d, leftK m.L key, m.made⟩ := by
  obtain ⟨h1, h2, h3, h4, h5⟩ := h
  refine ⟨h1, fun x hx => h2 x (List.mem_filter.1 hx).1, h3.filter _, ?_, h5⟩
  have := leftK_len m.L key
  simp only
  omega
theorem trC_set4 {L : List TR} {k : Nat} (hk : k < L.length) (K : List TK) (v : Value) : trC (L.set k ⟨⟨(trAt L k).m.d, K, (trAt L k).m.made⟩, v⟩) = (trC L).set (k * 6 + 4) v := by
  apply List.ext_getElem?
  intro j
  by_cases hj : j < L.length * 6
  · have e1 : j = (j / 6) * 6 + j % 6 := by omega
    have h1 := trC_at (L.set k ⟨⟨(trAt L k).m.d, K, (trAt L k).m.made⟩, v⟩) (j / 6) (j % 6) (by rw [List.length_set]; omega) (by omega)
    have h2 := trC_at L (j / 6) (j % 6) (by omega) (by omega)
    rw [← e1] at h1 h2
    rw [h1, trAt_set hk, List.getElem?_set]
    by_cases hq : j / 6 = k
    · rw [if_pos hq]
      by_cases hr : j % 6 = 4
      · rw [if_pos (by omega), if_pos (by rw [trC_len]; omega), hr]; rfl
      · rw [if_neg (by omega), h2, hq]
        have : j % 6 = 0 ∨ j % 6 = 1 ∨ j % 6 = 2 ∨ j % 6 = 3 ∨ j % 6 = 5 := by omega
        rcases this with c | c | c | c | c <;> rw [c] <;> rfl
    · rw [if_neg hq, if_neg (by omega), h2]
  · rw [List.getElem?_eq_none (by rw [trC_len, List.length_set]; omega), List.getElem?_eq_none (by rw [List.length_set, trC_len]; omega)]

set_option maxHeartbeats 4000000 in
theorem r9_Drop_no (w : World) (gt g2 : Nat) (T : TT) (F : Nat → Prop) (i : Int) (key : List Int) (B : Option Addr) (n d : Nat) (h : RepS w gt g2 T F) (hn : key.length = n) (hnd : n ≤ d) (hm : tMay T i key = false) :
    Calls Try.prog 34 #[.pointer (some ⟨gt, 0, none⟩), .int .i64 i, .slice B n d] w (MapW gt g2 F T (.tuple #[.int .u64 0, .int .i64 1]) w) := by
  have MA := Lib.hid (r9_may w gt g2 T F i key B n d h hn hnd)
  rw [hm] at MA
  have H := Lib.hid h
  clear h hm
  go_enter Try.func34, Try.ntmps34
  go_wp2_with fail
  refine (MA.out).mono ?_
  rintro e w1 ⟨rfl, b1⟩
  have V := Lib.hid b1
  clear b1
  go_wp2_with fail
  go_ret2
  exact mapW_same H.out V.out

set_option maxHeartbeats 4000000 in
theorem r9_Drop_num (w : World) (gt g2 : Nat) (L : List TR) (vl : Value) (F : Nat → Prop) (k : Nat) (key : List Int) (B : Option Addr) (n d : Nat) (h : RepT w gt g2 vl L F) (hk : k < L.length) (hn : key.length = n) (hnd : n ≤ d) (hm : tMay (trM L) k key = true) (hh : (trAt L k).m.d.hash = false) :
    Calls Try.prog 34 #[.pointer (some ⟨gt, 0, none⟩), .int .i64 (k : Int), .slice B n d] w (MapW gt g2 F (trM L) (.tuple #[.int .u64 (minusI 22), .int .i64 0]) w) := by
  have H : Hid (RepS w gt g2 (trM L) F) := Lib.hid ⟨vl, L, rfl, h⟩
  have MA := Lib.hid (r9_may w gt g2 (trM L) F k key B n d H.out hn hnd)
  rw [hm] at MA
  have HF : Hid (∀ u, Below w.heap.size w u → RepT u gt g2 vl L F) := Lib.hid fun u b => h.after b
  have MI : Hid (∀ u, Calls Try.prog 53 #[.int .u64 22] u (Gives (.int .u64 (minusI 22)) u)) := Lib.hid fun u => r9_minus 22 u (by omega)
  obtain ⟨gl, c, hvl, k1, k2, -⟩ := h.at_ hk
  have HVL := Lib.hid hvl
  have HH := Lib.hid hh
  clear h hm hvl hh
  unfold maxLen at k2
  generalize minusI 22 = mi at *
  have hk' : (k : Int) < L.length := by omega
  go_enter Try.func34, Try.ntmps34
  go_wp2_with fail
  refine (MA.out).mono ?_
  rintro e w1 ⟨rfl, b1⟩
  have V := Lib.hid b1
  clear b1
  have hR := HF.out w1 V.out
  obtain ⟨c0, c1⟩ := hR.cells
  rw [HVL.out] at c1
  obtain ⟨gl', c', hv', -, -, hg, e0, -⟩ := hR.at_ hk
  rw [HVL.out] at hv'
  injection hv' with hA hl hc
  injection hA with hA
  injection hA with hA1 hA2
  subst hA1
  rw [HH.out] at e0
  clear hR hl hc hA2
  go_wp2_with fail
  refine (MI.out _).mono ?_
  rintro e w2 ⟨rfl, b2⟩
  replace V := Lib.hid (below_next' V.out b2)
  clear b2
  go_wp2_with fail
  go_ret2
  exact mapW_same H.out V.out

/-- The row of keys that is being made. -/
def LeftR (w : World) (K : List TK) (key : List Int) (j : Nat) (v : Value) (u : World) : Prop := Below w.heap.size w u ∧ u.ownsRow w.heap.size 88 2 v (leftK (K.take j) key).length (kC (leftK (K.take j) key))

set_option maxHeartbeats 8000000 in
theorem r9_Drop_yes (w : World) (gt g2 : Nat) (L : List TR) (vl : Value) (F : Nat → Prop) (k : Nat) (key : List Int) (B : Option Addr) (n d : Nat) (h : RepT w gt g2 vl L F) (hk : k < L.length) (hb : BytS w B key) (hob : OkB key) (hn : key.length = n) (hnd : n ≤ d) (hm : tMay (trM L) k key = true) (hh : (trAt L k).m.d.hash = true) (R : TT × Int)
    (hR : (if (leftK (trAt L k).m.L key).length = (trAt L k).m.L.length then (trM L, minusI 2) else ((trM L).set k ⟨(trAt L k).m.d, leftK (trAt L k).m.L key, (trAt L k).m.made⟩, 0)) = R) :
    Calls Try.prog 34 #[.pointer (some ⟨gt, 0, none⟩), .int .i64 (k : Int), .slice B n d] w (MapW gt g2 F R.1 (.tuple #[.int .u64 R.2, .int .i64 0]) w) := by
  have H : Hid (RepS w gt g2 (trM L) F) := Lib.hid ⟨vl, L, rfl, h⟩
  have MA := Lib.hid (r9_may w gt g2 (trM L) F k key B n d H.out hn hnd)
  rw [hm] at MA
  have hok := h.ok k (by rw [trM_len]; exact hk)
  rw [trM_at] at hok
  have HMO := Lib.hid (leftK_ok hok key)
  have HF : Hid (∀ u, Below w.heap.size w u → RepT u gt g2 vl L F) := Lib.hid fun u b => h.after b
  have MI : Hid (∀ u, Calls Try.prog 53 #[.int .u64 2] u (Gives (.int .u64 (minusI 2)) u)) := Lib.hid fun u => r9_minus 2 u (by omega)
  obtain ⟨gl, c, hvl, k1, k2, -⟩ := h.at_ hk
  obtain ⟨A, ck, hv, kk1, kk2, -⟩ := h.keys hk
  have hfew := hok.few
  have hgood := hok.good
  have hK16 : (trAt L k).m.L.length ≤ 16 := by
    unfold Df.good at hgood
    simp only [Bool.and_eq_true, decide_eq_true_eq] at hgood
    have := hgood.2
    omega
  have HKEYS : Hid (∀ j, j < (trAt L k).m.L.length → OkB (kAt (trAt L k).m.L j).k) := Lib.hid fun j hj => (hok.keys _ (kAt_mem hj)).1
  have HV := Lib.hid hv
  have HVL := Lib.hid hvl
  have HH := Lib.hid hh
  have ST : Hid (∀ u, Below w.heap.size w u → (convert 40 9 (.slice B n d)).run Try.prog u = .ok (.string (strOfNums key)) u) := Lib.hid fun u b => by rw [← hn]; exact str_bytS (hb.after b) d
  have HO := Lib.hid hob
  have HRR := Lib.hid hR
  have DONE : Hid (∀ u v, LeftR w (trAt L k).m.L key (trAt L k).m.L.length v u → ¬ (leftK (trAt L k).m.L key).length = (trAt L k).m.L.length → MapW gt g2 F R.1 (.tuple #[.int .u64 R.2, .int .i64 0]) w (.returned (.tuple #[.int .u64 0, .int .i64 0])) (u.setCell ⟨gl, k * 6 + 4, none⟩ v)) := Lib.hid (by
    rintro u v ⟨hb1, ho1⟩ hne
    rw [← hR, if_neg hne]
    rw [List.take_length] at ho1
    have hu := h.after hb1
    obtain ⟨vl', hvl'⟩ : ∃ x, x = vl := ⟨_, rfl⟩
    have gne : ∀ x, F x → vl.ownBlock ≠ some x → (u.setCell ⟨gl, k * 6 + 4, none⟩ v).heap[x]? = u.heap[x]? := fun x hx hne => Below.heap_setCell _ _ _ _ (fun e => hne (by rw [hvl]; show some gl = some x; rw [show x = gl from e]))
    have hwb : ∀ x, v.ownBlock = some x → w.heap.size ≤ x := fun x hx => (ho1.lt x hx).1
    have hgl : gl < w.heap.size := h.lt (h.foot1 (by rw [hvl]; rfl))
    obtain ⟨F', q1, q2⟩ := RepT.put (u := u.setCell ⟨gl, k * 6 + 4, none⟩ v) (r := ⟨⟨(trAt L k).m.d, leftK (trAt L k).m.L key, (trAt L k).m.made⟩, v⟩) h hk
      (fun x hx hne => (gne x hx hne).trans (hb1.block x (h.lt hx)))
      (by
        rw [trC_set4 hk]
        have hrow := hu.row
        rw [hvl] at hrow ⊢
        exact (hrow.stored (k * 6 + 4) v).1)
      (by
        unfold KOwn
        refine own_base (own_same ho1 (fun x hx => Below.heap_setCell _ _ _ _ (fun e => ?_))) (fun _ _ => Nat.zero_le _)
        have := hwb x hx
        have e' : x = gl := e
        omega)
      hwb HMO.out
    refine ⟨rfl, F', ⟨vl, _, ?_, q1⟩, (Turn.of_below hb1).setCell (p := ⟨gl, k * 6 + 4, none⟩) (.inl (h.foot1 (by rw [hvl]; rfl))) _, q2⟩
    simp only [trM, List.map_set])
  obtain ⟨i1, hi1, hz, h1, h2⟩ := info_parts (show (Try.prog.info? 88).map (fun i => (i.zero, i.size, i.bytes)) = some (some (.agg #[.string ⟨#[]⟩, .int .i64 0]), 2, 24) by kernel_rfl)
  have HIN := Lib.hid (And.intro hi1 (And.intro hz (And.intro h1 h2)))
  clear hi1 hz h1 h2
  clear h hok hm hv hvl hb hob hn hh hR HMO hfew hgood
  unfold maxLen at k2 kk2
  have hk' : (k : Int) < L.length := by omega
  have k0 : (0 : Int) ≤ k := by omega
  generalize hmK : (trAt L k).m.L = K at *
  generalize hlk : K.length = lk at *
  have HLK := Lib.hid hlk
  generalize minusI 2 = mi at *
  have CELLS : Hid (∀ u, Below w.heap.size w u → u.cell? ⟨gt, 1, none⟩ = some (.slice (some ⟨gl, 0, none⟩) L.length c) ∧ u.cell? ⟨gl, k * 6, none⟩ = some (.bool true) ∧ u.cell? ⟨gl, k * 6 + 4, none⟩ = some (.slice A lk ck) ∧ u.frozen? ⟨gl, k * 6 + 4, none⟩ = false ∧ (0 < lk → ∃ gk, A = some ⟨gk, 0, none⟩ ∧ ∀ j, j < lk → u.cell? ⟨gk, j * 2, none⟩ = some (.string (strOfNums (kAt K j).k)) ∧ u.cell? ⟨gk, j * 2 + 1, none⟩ = some (.int .i64 ((kAt K j).s : Int)))) := Lib.hid fun u b => by
    have hR := HF.out u b
    obtain ⟨c0, c1⟩ := hR.cells
    rw [HVL.out] at c1
    obtain ⟨gl', c', hv', -, -, hg, e0, -, -, -, e4, -⟩ := hR.at_ hk
    rw [HVL.out] at hv'
    injection hv' with hA hl hc
    injection hA with hA
    injection hA with hA1 hA2
    subst hA1
    rw [HH.out] at e0
    rw [HV.out] at e4
    obtain ⟨A', ck', hv2, -, -, hkc⟩ := hR.keys hk
    rw [HV.out, hmK, hlk] at hv2
    injection hv2 with hB1 hB2 hB3
    subst hB1
    rw [hmK, hlk] at hkc
    have hrow := hR.row
    rw [HVL.out] at hrow
    exact ⟨c1, e0, e4, hrow.frozenAt _, fun hp => by
      obtain ⟨gk, e, _, hcell⟩ := hkc hp
      exact ⟨gk, e, hcell⟩⟩
  clear HF HV HVL HH
  go_enter Try.func34, Try.ntmps34
  go_wp2_with fail
  refine (MA.out).mono ?_
  rintro e w1 ⟨rfl, b1⟩
  have V := Lib.hid b1
  clear b1
  obtain ⟨c1, e0, -⟩ := CELLS.out w1 V.out
  go_wp2_with fail
  clear c1 e0 MA
  go_loopw [8, 9] (fun ov iv wr => ∃ (j : Nat) (v : Value), v = ov ∧ iv = .int .i64 j ∧ j ≤ lk ∧ Hid (LeftR w K key j v wr)) (fun ov iv wr => lk - (intOf iv).toNat)
  case atStart => exact ⟨0, _, rfl, rfl, by omega, Lib.hid ⟨V.out, World.ownsRow_nil _ _ _ _⟩⟩
  case round =>
    clear V
    obtain ⟨j, ov, rfl, rfl, hj, Q⟩ := hrel
    have j0 : (0 : Int) ≤ j := by omega
    obtain ⟨c1, -, e4, f4, hkc⟩ := CELLS.out wr Q.out.1
    obtain ⟨A3, c3', rfl, hc31, hc32⟩ := own_slice Q.out.2
    by_cases hlt : (j : Int) < lk
    · have hjn : j < lk := by omega
      obtain ⟨gk, rfl, hcell⟩ := hkc (by omega)
      obtain ⟨s0, s1⟩ := hcell j hjn
      have heq := eq_str (HKEYS.out j hjn) HO.out
      have DR : Hid (∀ q, Below w.heap.size w (wr.drewN q)) := Lib.hid fun q => below_next' Q.out.1 (below_drewN (Below.refl _ _) q)
      have hst' := fun q => ST.out (wr.drewN q) (DR.out q)
      have HTK := Lib.hid (leftK_take (L := K) (key := key) (j := j) (by rw [HLK.out]; exact hjn))
      have FL : (leftK (K.take j) key).length ≤ 16 := by
        have := leftK_len (K.take j) key
        rw [List.length_take] at this
        omega
      clear hcell hkc
      cases hab : ((kAt K j).k == key)
      · rw [if_neg (by simpa using hab)] at HTK
        rw [hab] at heq
        have CK : Hid (cK (kAt K j) = [.string (strOfNums (kAt K j).k), .int .i64 ((kAt K j).s : Int)]) := Lib.hid rfl
        generalize kAt K j = kk at *
        generalize (strOfNums kk.k) = kj at *
        generalize kk.s = sj at *
        have Q2 : Hid (∀ q, (wr.drewN q).ownsRow w.heap.size 88 2 (.slice A3 (leftK (K.take j) key).length c3') (leftK (K.take j) key).length (kC (leftK (K.take j) key))) := Lib.hid fun q => own_same Q.out.2 (fun x hx => rfl)
        have r1 : ∀ q, (wr.drewN q).cell? ⟨gt, 1, none⟩ = _ := fun q => c1
        have r4 : ∀ q, (wr.drewN q).cell? ⟨gl, k * 6 + 4, none⟩ = _ := fun q => e4
        have t0 : ∀ q, (wr.drewN q).cell? ⟨gk, j * 2, none⟩ = _ := fun q => s0
        have t1 : ∀ q, (wr.drewN q).cell? ⟨gk, j * 2 + 1, none⟩ = _ := fun q => s1
        clear f4
        go_wp2_with fail
        go_quiet (fail)
        have QS := Lib.hid (DR.out nq)
        have QO := Lib.hid (Q2.out nq)
        have u1 := r1 nq
        have u4 := r4 nq
        have v0 := t0 nq
        have v1 := t1 nq
        clear r1 r4 t0 t1 Q2 DR hst' c1 e4 s0 s1 Q
        generalize wr.drewN nq = wq at *
        have OW := QO.out.alloc (.cells #[.string kj, .int .i64 (sj : Int)] 88)
        have BW : Hid (Below w.heap.size w (wq.alloc (.cells #[.string kj, .int .i64 (sj : Int)] 88))) := Lib.hid (below_alloc QS.out _)
        have NEWS : ∀ t x, (cK kk)[t]? = some x → (wq.alloc (.cells #[.string kj, .int .i64 (sj : Int)] 88)).cell? ((⟨wq.heap.size, 0, none⟩ : Addr).add t) = some x := by
          rw [CK.out]
          exact World.news_of_block (w := wq.alloc (.cells #[.string kj, .int .i64 (sj : Int)] 88)) (t := 88) (fr := (0, 0)) (heap_alloc_new wq (.cells #[.string kj, .int .i64 (sj : Int)] 88))
        have ONE : ∀ x ∈ cK kk, x.oneCell' = true := by
          rw [CK.out]
          intro x hx
          simp only [List.mem_cons, List.not_mem_nil, or_false] at hx
          rcases hx with rfl | rfl <;> rfl
        obtain ⟨v4, w4, hr, ho, hg4, _⟩ := run_append_own (P := Try.prog) _ w.heap.size 83 83 88 i1 (.agg #[.string ⟨#[]⟩, .int .i64 0]) 2 24 Try.underlying83 HIN.out.1 HIN.out.2.1 HIN.out.2.2.1 HIN.out.2.2.2 rfl (by omega) _ _ _ OW ⟨wq.heap.size, 0, none⟩ 1 1 (cK kk) (by rw [CK.out]; rfl) NEWS ONE (by unfold maxLen; omega) (by omega) BW.out.size
        have QN : Hid (LeftR w K key (j + 1) v4 w4) := Lib.hid ⟨below_own BW.out OW BW.out.size hg4, by
          rw [HTK.out, kC_app, List.length_append, List.length_singleton, show kC [kk] = cK kk by simp [kC]]
          exact ho⟩
        clear OW BW NEWS ONE ho hg4 HTK QO QS
        go_wp2_with ((at_builtin; refine Lib.wpList_append_run _ rfl (.tmp 54) (.tmp 66) _ _ rfl _ _ rfl rfl _ _ hr ?_))
        go_round
        case rel => exact ⟨j + 1, _, rfl, by go_num, by omega, QN⟩
        case measure => simp [intOf]; omega
      · rw [if_pos (by simpa using hab)] at HTK
        rw [hab] at heq
        have QN : Hid (∀ q, LeftR w K key (j + 1) (.slice A3 (leftK (K.take j) key).length c3') (wr.drewN q)) := Lib.hid fun q => ⟨DR.out q, by rw [HTK.out]; exact own_same Q.out.2 (fun x hx => rfl)⟩
        generalize (strOfNums (kAt K j).k) = kj at *
        generalize (kAt K j).s = sj at *
        clear f4
        go_wp2_with fail
        go_quiet (fail)
        have QN2 := Lib.hid (QN.out nq)
        clear QN DR hst' HTK
        generalize wr.drewN nq = wq at *
        go_wp2_with fail
        go_round
        case rel => exact ⟨j + 1, _, rfl, by go_num, by omega, QN2⟩
        case measure => simp [intOf]; omega
    · have hjs : j = lk := by omega
      subst hjs
      have eT : K.take j = K := by rw [← HLK.out, List.take_length]
      rw [eT] at Q hc31
      rw [eT]
      clear hkc
      by_cases hall : (leftK K key).length = j
      · have hall' : (((leftK K key).length : Int) == (j : Int)) = true := by simp [hall]
        have HE : Hid (R = (trM L, mi)) := Lib.hid (by rw [← HRR.out, if_pos hall])
        clear eT
        generalize (leftK K key).length = fl at *
        go_wp2_with fail
        refine (MI.out _).mono ?_
        rintro e w2 ⟨rfl, b2⟩
        have V2 := Lib.hid (below_next' Q.out.1 b2)
        clear b2
        go_wp2_with fail
        go_ret2
        rw [HE.out]
        exact mapW_same H.out V2.out
      · have hall' : (((leftK K key).length : Int) == (j : Int)) = false := by simp; omega
        have D2 := Lib.hid (DONE.out wr _ Q.out hall)
        generalize (leftK K key).length = fl at *
        go_wp2_with fail
        go_ret2
        exact D2.out

theorem r9_Drop (w : World) (gt g2 : Nat) (T : TT) (F : Nat → Prop) (i : Int) (key : List Int) (B : Option Addr) (n d : Nat) (h : RepS w gt g2 T F) (hb : BytS w B key) (hob : OkB key) (hn : key.length = n) (hnd : n ≤ d) :
    Calls Try.prog 34 #[.pointer (some ⟨gt, 0, none⟩), .int .i64 i, .slice B n d] w (MapW gt g2 F (tDrop T i key).1 (.tuple #[.int .u64 (tDrop T i key).2.1, .int .i64 (tDrop T i key).2.2]) w) := by
  unfold tDrop
  cases hm : tMay T i key
  · rw [if_neg Bool.false_ne_true]
    exact r9_Drop_no w gt g2 T F i key B n d h hn hnd hm
  · rw [if_pos rfl]
    obtain ⟨i0, i1, _⟩ := may_yes hm
    obtain ⟨k, rfl⟩ : ∃ k : Nat, i = k := ⟨i.toNat, by omega⟩
    obtain ⟨vl, L, rfl, h⟩ := h
    have hk : k < L.length := by rw [trM_len] at i1; omega
    rw [Int.toNat_natCast]
    dsimp only
    rw [trM_at]
    cases hh : (trAt L k).m.d.hash
    · rw [if_pos rfl]
      exact r9_Drop_num w gt g2 L vl F k key B n d h hk hn hnd hm hh
    · rw [if_neg (by simp)]
      cases hs : tFind (trAt L k).m.L key with
      | none =>
        exact r9_Drop_yes w gt g2 L vl F k key B n d h hk hb hob hn hnd hm hh (trM L, minusI 2) (if_pos (leftK_all.mpr hs))
      | some s =>
        exact r9_Drop_yes w gt g2 L vl F k key B n d h hk hb hob hn hnd hm hh ((trM L).set k ⟨(trAt L k).m.d, leftK (trAt L k).m.L key, (trAt L k).m.made⟩, 0) (if_neg (fun e => by rw [leftK_all.mp e] at hs; cases hs))

end Go.Proofs.Ytempkpfcjonaaaa
