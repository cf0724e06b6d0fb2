/-
  Layer 9's own Area, minus, may, find, Look.
  Conditions: the numbers fit their kinds.
-/
import Derived.Test.YtempkpfcjonaaaaRef09r
import Derived.Test.YtempkpfcjonaaaaByteStr
import Derived.Test.YtempkpfcjonaaaaRef08a
import Derived.LoopTactic
import Derived.BigRegion
namespace Go.Proofs.Ytempkpfcjonaaaa
open Go.RowKit
set_option maxRecDepth 100000
set_option linter.unusedVariables false
set_option linter.unusedSimpArgs false

theorem r9_Area (i s : Int) (w : World) (hi : 0 ≤ i ∧ i ≤ 100000) (hs : 0 ≤ s ∧ s ≤ 100000) : Calls Try.prog 22 #[.int .i64 i, .int .i64 s] w (Gives (.int .i64 (tArea i s)) w) := by
  go_enter Try.func22, Try.ntmps22
  go_wp2_with fail
  go_ret
  exact ⟨end_int (by unfold tArea; omega), Below.refl _ _⟩
theorem r9_minus (n : Int) (w : World) (hn : 1 ≤ n ∧ n ≤ 100000) : Calls Try.prog 53 #[.int .u64 n] w (Gives (.int .u64 (minusI n)) w) := by
  go_enter Try.func53, Try.ntmps53
  go_wp2_with fail
  go_ret
  exact ⟨end_int (by rw [IntKind.wrap_u64]; unfold minusI; omega), Below.refl _ _⟩

set_option maxHeartbeats 2000000 in
theorem r9_may (w : World) (gt g2 : Nat) (T : TT) (F : Nat → Prop) (i : Int) (key : List Int) (B : Option Addr) (n d : Nat) (h : RepS w gt g2 T F) (hn : key.length = n) (hnd : n ≤ d) :
    Calls Try.prog 52 #[.pointer (some ⟨gt, 0, none⟩), .int .i64 i, .slice B n d] w (Gives (.bool (tMay T i key)) w) := by
  obtain ⟨vl, L, rfl, h⟩ := h
  obtain ⟨A, c, hvl, k1, k2⟩ := own_slice h.row
  obtain ⟨c0, c1⟩ := h.cells
  rw [hvl] at c1
  by_cases h1 : 0 ≤ i
  · by_cases h2 : i < (L.length : Int)
    · obtain ⟨k, rfl⟩ : ∃ k : Nat, i = k := ⟨i.toNat, by omega⟩
      have hk : k < L.length := by omega
      obtain ⟨gl, c', hv', _, _, hg, -, e1, -⟩ := h.at_ hk
      rw [hvl] at hv'
      injection hv' with hA hl hc
      subst hA
      have HM : Hid (tMay (trM L) k key = ((n : Int) == (trAt L k).m.d.key)) := Lib.hid (by
        unfold tMay
        rw [decide_eq_true (by omega : (0 : Int) ≤ (k : Int)), decide_eq_true (by rw [trM_len]; exact h2), Int.toNat_natCast, trM_at, hn]
        rfl)
      clear h hvl
      unfold maxLen at k2
      generalize (trAt L k).m.d.key = q at *
      go_enter Try.func52, Try.ntmps52
      go_wp2_with fail
      go_ret
      exact ⟨end_bool HM.out.symm, Below.refl _ _⟩
    · have h2' : (L.length : Int) ≤ i := by omega
      have HM : Hid (tMay (trM L) i key = false) := Lib.hid (by
        unfold tMay
        rw [trM_len, decide_eq_false h2]
        simp)
      clear h hvl
      unfold maxLen at k2
      go_enter Try.func52, Try.ntmps52
      go_wp2_with fail
      go_ret
      exact ⟨end_bool HM.out.symm, Below.refl _ _⟩
  · have h1' : i < 0 := by omega
    have HM : Hid (tMay (trM L) i key = false) := Lib.hid (by
      unfold tMay
      rw [decide_eq_false h1]
      simp)
    clear h hvl
    unfold maxLen at k2
    go_enter Try.func52, Try.ntmps52
    go_wp2_with fail
    go_ret
    exact ⟨end_bool HM.out.symm, Below.refl _ _⟩

def slotI (o : Option Nat) : Int := match o with | some s => s | none => -1
theorem find_at {L : List TK} {key : List Int} {j : Nat} (hj : j < L.length) (h : ∀ t, t < j → (kAt L t).k ≠ key) : tFind L key = if (kAt L j).k = key then some (kAt L j).s else tFind (L.drop (j + 1)) key := by
  induction L generalizing j with
  | nil => simp at hj
  | cons x L ih =>
    cases j with
    | zero =>
      show (((x :: L).find? fun x => x.k == key).map (·.s)) = _
      rw [List.find?_cons]
      by_cases e : x.k = key
      · rw [show (x.k == key) = true by simpa using e, if_pos (show (kAt (x :: L) 0).k = key by simpa [kAt] using e)]
        simp [kAt]
      · rw [show (x.k == key) = false by simpa using e, if_neg (show ¬ (kAt (x :: L) 0).k = key by simpa [kAt] using e)]
        rfl
    | succ j =>
      have h0 : ¬ x.k = key := by simpa [kAt] using h 0 (by omega)
      have := ih (j := j) (by simpa using hj) (fun t ht => by simpa [kAt] using h (t + 1) (by omega))
      unfold tFind
      rw [List.find?_cons, show (x.k == key) = false by simpa using h0]
      simpa [kAt, tFind] using this
theorem find_out {L : List TK} {key : List Int} (h : ∀ t, t < L.length → (kAt L t).k ≠ key) : tFind L key = none := by
  unfold tFind
  rw [Option.map_eq_none_iff, List.find?_eq_none]
  intro x hx
  obtain ⟨i, hi, rfl⟩ := List.mem_iff_getElem.mp hx
  have := h i hi
  unfold kAt at this
  rw [List.getD_eq_getElem?_getD, List.getElem?_eq_getElem hi] at this
  simpa using this
theorem kAt_mem {L : List TK} {k : Nat} (h : k < L.length) : kAt L k ∈ L := by
  unfold kAt
  rw [List.getD_eq_getElem?_getD, List.getElem?_eq_getElem h]
  exact List.getElem_mem h
theorem lss_str (a b : List Int) (ha : OkB a) (hb : OkB b) (u : World) : (binOp BinOp.lss 9 (.string (strOfNums a)) (.string (strOfNums b))).run Try.prog u = .ok (.bool (kLt a b)) u := by
  rw [← less_kLt ha hb]
  rfl

set_option maxHeartbeats 4000000 in
theorem r9_find (w : World) (gt g2 : Nat) (T : TT) (F : Nat → Prop) (i : Nat) (key : List Int) (B : Option Addr) (n d : Nat) (h : RepS w gt g2 T F) (hi : i < T.length) (hb : BytS w B key) (hob : OkB key) (hn : key.length = n) (hnd : n ≤ d) :
    Calls Try.prog 54 #[.pointer (some ⟨gt, 0, none⟩), .int .i64 (i : Int), .slice B n d] w (Gives (.int .i64 (slotI (tFind (mt T i).L key))) w) := by
  obtain ⟨vl, L, rfl, h⟩ := h
  have hok := h.ok i hi
  rw [trM_len] at hi
  rw [trM_at] at hok ⊢
  obtain ⟨gl, c, hvl, k1, k2, -, -, -, -, -, -, -⟩ := h.at_ hi
  obtain ⟨A, ck, hv, kk1, kk2, -⟩ := h.keys hi
  have HKEYS : Hid (∀ j, j < (trAt L i).m.L.length → OkB (kAt (trAt L i).m.L j).k) := Lib.hid fun j hj => (hok.keys _ (kAt_mem hj)).1
  have HF : Hid (∀ u, Below w.heap.size w u → RepT u gt g2 vl L F) := Lib.hid fun u b => h.after b
  have HV := Lib.hid hv
  have HVL := Lib.hid hvl
  have ST : Hid (∀ u, Below w.heap.size w u → (convert 40 9 (.slice B n d)).run Try.prog u = .ok (.string (strOfNums key)) u) := Lib.hid fun u b => by rw [← hn]; exact str_bytS (hb.after b) d
  have HO := Lib.hid hob
  clear h hok hv hvl hb hob hn
  unfold maxLen at k2 kk2
  generalize hm : (trAt L i).m.L = K at *
  generalize hlk : K.length = lk at *
  have HLK := Lib.hid hlk
  have hi' : (i : Int) < L.length := by omega
  have i0 : (0 : Int) ≤ i := by omega
  go_enter Try.func54, Try.ntmps54
  go_wp2_with fail
  go_loopw [7] (fun iv wr => ∃ j : Nat, iv = .int .i64 j ∧ j ≤ lk ∧ Hid (∀ t, t < j → (kAt K t).k ≠ key) ∧ Hid (Below w.heap.size w wr)) (fun iv wr => lk - (intOf iv).toNat)
  case atStart => exact ⟨0, rfl, by omega, Lib.hid fun t ht => by omega, Lib.hid (Below.refl _ _)⟩
  case round =>
    obtain ⟨j, rfl, hj, HT, V⟩ := hrel
    have j0 : (0 : Int) ≤ j := by omega
    have hR := HF.out wr V.out
    obtain ⟨c0, c1⟩ := hR.cells
    rw [HVL.out] at c1
    obtain ⟨gl', c', hv', -, -, hg, -, -, -, -, e4, -⟩ := hR.at_ hi
    rw [HVL.out] at hv'
    injection hv' with hA hl hc
    injection hA with hA
    injection hA with hA1 hA2
    subst hA1
    rw [HV.out] at e4
    obtain ⟨A', ck', hv2, -, -, hkc⟩ := hR.keys hi
    rw [HV.out, hm, hlk] at hv2
    injection hv2 with hB1 hB2 hB3
    subst hB1
    rw [hm, hlk] at hkc
    clear hl hc hB2 hB3 hA2
    by_cases hlt : (j : Int) < lk
    · have hjn : j < lk := by omega
      obtain ⟨gk, rfl, hgk, hcell⟩ := hkc (by omega)
      obtain ⟨s0, s1⟩ := hcell j hjn
      have hst := ST.out wr V.out
      have heq := eq_str (HKEYS.out j hjn) HO.out
      have DR : Hid (∀ q, Below w.heap.size w (wr.drewN q)) := Lib.hid fun q => below_next' V.out (below_drewN (Below.refl _ _) q)
      have hst' := fun q => ST.out (wr.drewN q) (DR.out q)
      have HFI := Lib.hid (find_at (L := K) (key := key) (by rw [HLK.out]; exact hjn) HT.out)
      clear hcell hkc hR
      cases hab : ((kAt K j).k == key)
      · have HT2 : Hid (∀ t, t < j + 1 → (kAt K t).k ≠ key) := Lib.hid fun t ht => by
          by_cases e : t = j
          · rw [e]; simpa using hab
          · exact HT.out t (by omega)
        rw [hab] at heq
        generalize (kAt K j).k = kj at *
        generalize (kAt K j).s = sj at *
        clear HFI
        go_wp2_with fail
        go_quiet (fail)
        have QS := Lib.hid (DR.out nq)
        generalize wr.drewN nq = wq at *
        go_wp2_with fail
        go_round
        case rel => exact ⟨j + 1, by go_num, by omega, HT2, QS⟩
        case measure => simp [intOf]; omega
      · have HV2 : Hid (slotI (tFind K key) = (kAt K j).s) := Lib.hid (by rw [HFI.out, if_pos (by simpa using hab)]; rfl)
        rw [hab] at heq
        have r0 := fun q => (HF.out _ (DR.out q)).cells.1
        have r1 := fun q => (HF.out _ (DR.out q)).cells.2
        rw [HVL.out] at r1
        have r4 : ∀ q, (wr.drewN q).cell? ⟨gl, i * 6 + 4, none⟩ = some (.slice (some ⟨gk, 0, none⟩) lk ck) := fun q => e4
        have r5 : ∀ q, (wr.drewN q).cell? ⟨gk, j * 2 + 1, none⟩ = some (.int .i64 ((kAt K j).s : Int)) := fun q => s1
        generalize (kAt K j).k = kj at *
        generalize (kAt K j).s = sj at *
        clear HFI
        go_wp2_with fail
        go_quiet (fail)
        have QS := Lib.hid (DR.out nq)
        have t0 := r0 nq
        have t1 := r1 nq
        have t4 := r4 nq
        have t5 := r5 nq
        clear r0 r1 r4 r5
        generalize wr.drewN nq = wq at *
        go_wp2_with fail
        go_ret
        exact ⟨end_int HV2.out.symm, QS.out⟩
    · have HV2 : Hid (slotI (tFind K key) = -1) := Lib.hid (by rw [find_out (fun t ht => HT.out t (by rw [HLK.out] at ht; omega))]; rfl)
      clear hkc hR
      go_wp2_with fail
      go_ret
      exact ⟨end_int HV2.out.symm, V.out⟩

end Go.Proofs.Ytempkpfcjonaaaa
