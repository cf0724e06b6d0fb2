/-
  Layer 8: the statement's few: the first acts, of few bytes each.
  Conditions: the numbers fit their kinds.
-/
import Derived.Test.YtegmhbflgceecaaMemOpen
import Derived.Test.YtegmhbflgceecaaMemMath
import Derived.Test.YtegmhbflgceecaaAppNone
import Derived.LoopTactic
namespace Go.Proofs.Ytegmhbflgceecaa
open Go.RowKit
set_option linter.unusedVariables false
set_option linter.unusedSimpArgs false

def cAc (a : Ac) : List Value := [.int .u8 a.kind, .int .i64 a.area, .int .i64 a.off, .int .i64 a.size, .int .u64 a.n, .slice a.at_ a.b.length a.cap, .bool a.bl, .bool a.fx]
def acC (l : List Ac) : List Value := l.flatMap cAc
theorem acC_len (l : List Ac) : (acC l).length = l.length * 8 := by
  induction l with
  | nil => rfl
  | cons x l ih =>
    show (cAc x ++ acC l).length = _
    rw [List.length_append, ih]
    simp [cAc]
    omega
theorem acC_app (a b : List Ac) : acC (a ++ b) = acC a ++ acC b := by simp [acC]
theorem acC_at (L : List Ac) (k r : Nat) (h : k < L.length) (hr : r < 8) : (acC L)[k * 8 + r]? = (cAc (acAt L k))[r]? := by
  induction L generalizing k with
  | nil => simp at h
  | cons x l ih =>
    have e : acC (x :: l) = cAc x ++ acC l := rfl
    have hx : (cAc x).length = 8 := rfl
    cases k with
    | zero =>
      rw [e, List.getElem?_append_left (by rw [hx]; omega)]
      simp [acAt]
    | succ k =>
      rw [e, List.getElem?_append_right (by rw [hx]; omega), hx]
      have := ih k (by simpa using h)
      rw [show (k + 1) * 8 + r - 8 = k * 8 + r by omega, this]
      simp [acAt]
/-- The first acts, of few bytes each. -/
def fewJ (l : List Ac) : Nat → List Ac
  | 0 => []
  | j + 1 => if j < 100 ∧ (acAt l j).b.length ≤ 1100 then fewJ l j ++ [acAt l j] else fewJ l j
theorem fewJ_len (l : List Ac) (j : Nat) : (fewJ l j).length ≤ j ∧ (fewJ l j).length ≤ 100 := by
  induction j with
  | zero => simp [fewJ]
  | succ j ih =>
    unfold fewJ
    split
    · rename_i h
      have : (fewJ l j).length ≤ j := ih.1
      simp only [List.length_append, List.length_singleton]
      omega
    · omega
theorem fewJ_mem (l : List Ac) (j : Nat) (hj : j ≤ l.length) : ∀ a ∈ fewJ l j, a.b.length ≤ 1100 ∧ ∃ k, k < l.length ∧ a = acAt l k := by
  induction j with
  | zero => intro a ha; simp [fewJ] at ha
  | succ j ih =>
    intro a ha
    unfold fewJ at ha
    split at ha
    · rename_i h
      rcases List.mem_append.mp ha with c | c
      · exact ih (by omega) a c
      · simp only [List.mem_singleton] at c
        subst c
        exact ⟨h.2, j, by omega, rfl⟩
    · exact ih (by omega) a ha
theorem acAt_mem {l : List Ac} {k : Nat} (h : k < l.length) : acAt l k ∈ l := by
  unfold acAt
  rw [List.getD_eq_getElem?_getD, List.getElem?_eq_getElem h]
  exact List.getElem_mem h

set_option maxRecDepth 100000 in
set_option maxHeartbeats 4000000 in
theorem l8_few (w : World) (A : Option Addr) (c : Nat) (l : List Ac) (hl : ActS w A l) (hlc : l.length ≤ c) (hc : c ≤ maxLen) :
    Calls Try.prog 11 #[.slice A l.length c] w (fun e w' => ∃ v, e = .returned v ∧ w'.ownsRow w.heap.size 34 8 v (fewJ l l.length).length (acC (fewJ l l.length)) ∧ Below w.heap.size w w') := by
  obtain ⟨i1, hi1, hz, h1, h2⟩ := info_parts (show (Try.prog.info? 34).map (fun i => (i.zero, i.size, i.bytes)) = some (some (.agg #[.int .u8 0, .int .i64 0, .int .i64 0, .int .i64 0, .int .u64 0, .slice none 0 0, .bool false, .bool false]), 8, 72) by kernel_rfl)
  have HIN := Lib.hid (And.intro hi1 (And.intro hz (And.intro h1 h2)))
  clear hi1 hz h1 h2
  have HL := Lib.hid hl
  clear hl
  unfold maxLen at hc
  generalize hn : l.length = n at *
  have HN := Lib.hid hn
  clear hn
  have hnc : (n : Int) ≤ c := by omega
  go_enter Try.func11, Try.ntmps11
  go_wp2_with fail
  go_loopw [3, 8] (fun ov iv wr => ∃ (j : Nat) (v : Value), v = ov ∧ iv = .int .i64 j ∧ j ≤ n ∧ Hid (Below w.heap.size w wr ∧ wr.ownsRow w.heap.size 34 8 v (fewJ l j).length (acC (fewJ l j)))) (fun ov iv wr => n - (intOf iv).toNat)
  case atStart => exact ⟨0, _, rfl, rfl, by omega, Lib.hid ⟨Below.refl _ _, World.ownsRow_nil _ _ _ _⟩⟩
  case round =>
    obtain ⟨j, ov, rfl, rfl, hj, Q⟩ := hrel
    have j0 : (0 : Int) ≤ j := by omega
    by_cases hlt : (j : Int) < n
    · have hjn : j < n := by omega
      obtain ⟨g, o, rfl, hg, hcell⟩ := HL.out (by rw [HN.out]; omega)
      have hC : ∀ r, r < 8 → wr.cell? ⟨g, o + j * 8 + r, none⟩ = some ((acAt l j).cell r) := fun r hr => (Q.out.1.cell (p := ⟨g, o + j * 8 + r, none⟩) hg).trans (hcell j (by rw [HN.out]; exact hjn) r hr)
      have c0 : wr.cell? ⟨g, o + j * 8, none⟩ = some (.int .u8 (acAt l j).kind) := hC 0 (by omega)
      have c1 : wr.cell? ⟨g, o + j * 8 + 1, none⟩ = some (.int .i64 (acAt l j).area) := hC 1 (by omega)
      have c2 : wr.cell? ⟨g, o + j * 8 + 2, none⟩ = some (.int .i64 (acAt l j).off) := hC 2 (by omega)
      have c3 : wr.cell? ⟨g, o + j * 8 + 3, none⟩ = some (.int .i64 (acAt l j).size) := hC 3 (by omega)
      have c4 : wr.cell? ⟨g, o + j * 8 + 4, none⟩ = some (.int .u64 (acAt l j).n) := hC 4 (by omega)
      have c5 : wr.cell? ⟨g, o + j * 8 + 5, none⟩ = some (.slice (acAt l j).at_ (acAt l j).b.length (acAt l j).cap) := hC 5 (by omega)
      have c6 : wr.cell? ⟨g, o + j * 8 + 6, none⟩ = some (.bool (acAt l j).bl) := hC 6 (by omega)
      have c7 : wr.cell? ⟨g, o + j * 8 + 7, none⟩ = some (.bool (acAt l j).fx) := hC 7 (by omega)
      have FL := fewJ_len l j
      have HEQ : Hid (fewJ l (j + 1) = if j < 100 ∧ (acAt l j).b.length ≤ 1100 then fewJ l j ++ [acAt l j] else fewJ l j) := Lib.hid rfl
      clear hC hcell
      generalize acAt l j = a at *
      have HCA : Hid (cAc a = [.int .u8 a.kind, .int .i64 a.area, .int .i64 a.off, .int .i64 a.size, .int .u64 a.n, .slice a.at_ a.b.length a.cap, .bool a.bl, .bool a.fx]) := Lib.hid rfl
      have HLE : Hid (a.b.length = a.b.length) := Lib.hid rfl
      generalize a.kind = x0 at *
      generalize a.area = x1 at *
      generalize a.off = x2 at *
      generalize a.size = x3 at *
      generalize a.n = x4 at *
      generalize a.at_ = x5 at *
      generalize a.cap = x6 at *
      generalize a.bl = x7 at *
      generalize a.fx = x8 at *
      generalize a.b.length = lb at *
      by_cases h1 : j < 100
      · have h1' : (j : Int) < 100 := by omega
        by_cases h2 : lb ≤ 1100
        · have h2' : (lb : Int) ≤ 1100 := by omega
          rw [if_pos ⟨h1, h2⟩] at HEQ
          obtain ⟨A3, c3', rfl, _, _⟩ := own_slice Q.out.2
          have OW := (Q.out.2.alloc (.cells #[.int .u8 x0, .int .i64 x1, .int .i64 x2, .int .i64 x3, .int .u64 x4, .slice x5 lb x6, .bool x7, .bool x8] 34)).alloc (.cells #[.int .u8 x0, .int .i64 x1, .int .i64 x2, .int .i64 x3, .int .u64 x4, .slice x5 lb x6, .bool x7, .bool x8] 34)
          have BW : Hid (Below w.heap.size w ((wr.alloc (.cells #[.int .u8 x0, .int .i64 x1, .int .i64 x2, .int .i64 x3, .int .u64 x4, .slice x5 lb x6, .bool x7, .bool x8] 34)).alloc (.cells #[.int .u8 x0, .int .i64 x1, .int .i64 x2, .int .i64 x3, .int .u64 x4, .slice x5 lb x6, .bool x7, .bool x8] 34))) := Lib.hid (below_alloc (below_alloc Q.out.1 _) _)
          have NEWS : ∀ t u, (cAc a)[t]? = some u → ((wr.alloc (.cells #[.int .u8 x0, .int .i64 x1, .int .i64 x2, .int .i64 x3, .int .u64 x4, .slice x5 lb x6, .bool x7, .bool x8] 34)).alloc (.cells #[.int .u8 x0, .int .i64 x1, .int .i64 x2, .int .i64 x3, .int .u64 x4, .slice x5 lb x6, .bool x7, .bool x8] 34)).cell? ((⟨wr.heap.size + 1, 0, none⟩ : Addr).add t) = some u := by
            rw [HCA.out]
            have q := World.news_of_block (w := (wr.alloc (.cells #[.int .u8 x0, .int .i64 x1, .int .i64 x2, .int .i64 x3, .int .u64 x4, .slice x5 lb x6, .bool x7, .bool x8] 34)).alloc (.cells #[.int .u8 x0, .int .i64 x1, .int .i64 x2, .int .i64 x3, .int .u64 x4, .slice x5 lb x6, .bool x7, .bool x8] 34)) (t := 34) (fr := (0, 0)) (heap_alloc_new (wr.alloc (.cells #[.int .u8 x0, .int .i64 x1, .int .i64 x2, .int .i64 x3, .int .u64 x4, .slice x5 lb x6, .bool x7, .bool x8] 34)) (.cells #[.int .u8 x0, .int .i64 x1, .int .i64 x2, .int .i64 x3, .int .u64 x4, .slice x5 lb x6, .bool x7, .bool x8] 34))
            rw [show (wr.alloc (.cells #[.int .u8 x0, .int .i64 x1, .int .i64 x2, .int .i64 x3, .int .u64 x4, .slice x5 lb x6, .bool x7, .bool x8] 34)).heap.size = wr.heap.size + 1 by simp] at q
            exact q
          have ONE : ∀ u ∈ cAc a, u.oneCell' = true := by
            rw [HCA.out]
            intro u hu
            simp only [List.mem_cons, List.not_mem_nil, or_false] at hu
            rcases hu with rfl | rfl | rfl | rfl | rfl | rfl | rfl | rfl <;> rfl
          obtain ⟨v4, w4, hr, ho, hg4, _⟩ := run_append_own (P := Try.prog) _ w.heap.size 22 22 34 i1 (.agg #[.int .u8 0, .int .i64 0, .int .i64 0, .int .i64 0, .int .u64 0, .slice none 0 0, .bool false, .bool false]) 8 72 Try.underlying22 HIN.out.1 HIN.out.2.1 HIN.out.2.2.1 HIN.out.2.2.2 rfl (by omega) _ _ _ OW ⟨wr.heap.size + 1, 0, none⟩ 1 1 (cAc a) (by rw [HCA.out]; rfl) NEWS ONE (by unfold maxLen; omega) (by omega) BW.out.size
          have QS : Hid (Below w.heap.size w w4 ∧ w4.ownsRow w.heap.size 34 8 v4 (fewJ l (j + 1)).length (acC (fewJ l (j + 1)))) := Lib.hid ⟨below_own BW.out OW BW.out.size hg4, by
            rw [HEQ.out, acC_app, List.length_append, List.length_singleton, show acC [a] = cAc a by simp [acC]]
            exact ho⟩
          clear OW BW NEWS ONE ho hg4 HEQ Q
          go_wp2_with ((at_builtin; refine Lib.wpList_append_run _ rfl (.tmp 21) (.tmp 23) _ _ rfl _ _ rfl rfl _ _ hr ?_))
          go_round
          case rel => exact ⟨j + 1, _, rfl, by go_num, by omega, QS⟩
          case measure => simp [intOf]; omega
        · have h2' : (1100 : Int) < lb := by omega
          rw [if_neg (fun h => h2 h.2)] at HEQ
          have QS : Hid (Below w.heap.size w (wr.alloc (.cells #[.int .u8 x0, .int .i64 x1, .int .i64 x2, .int .i64 x3, .int .u64 x4, .slice x5 lb x6, .bool x7, .bool x8] 34)) ∧ (wr.alloc (.cells #[.int .u8 x0, .int .i64 x1, .int .i64 x2, .int .i64 x3, .int .u64 x4, .slice x5 lb x6, .bool x7, .bool x8] 34)).ownsRow w.heap.size 34 8 ov (fewJ l (j + 1)).length (acC (fewJ l (j + 1)))) := Lib.hid ⟨below_alloc Q.out.1 _, by rw [HEQ.out]; exact Q.out.2.alloc _⟩
          clear HEQ Q
          go_wp2_with fail
          go_round
          case rel => exact ⟨j + 1, _, rfl, by go_num, by omega, QS⟩
          case measure => simp [intOf]; omega
      · have h1' : (100 : Int) ≤ j := by omega
        rw [if_neg (fun h => h1 h.1)] at HEQ
        have QS : Hid (Below w.heap.size w (wr.alloc (.cells #[.int .u8 x0, .int .i64 x1, .int .i64 x2, .int .i64 x3, .int .u64 x4, .slice x5 lb x6, .bool x7, .bool x8] 34)) ∧ (wr.alloc (.cells #[.int .u8 x0, .int .i64 x1, .int .i64 x2, .int .i64 x3, .int .u64 x4, .slice x5 lb x6, .bool x7, .bool x8] 34)).ownsRow w.heap.size 34 8 ov (fewJ l (j + 1)).length (acC (fewJ l (j + 1)))) := Lib.hid ⟨below_alloc Q.out.1 _, by rw [HEQ.out]; exact Q.out.2.alloc _⟩
        clear HEQ Q
        go_wp2_with fail
        go_round
        case rel => exact ⟨j + 1, _, rfl, by go_num, by omega, QS⟩
        case measure => simp [intOf]; omega
    · have hjn : j = n := by omega
      subst hjn
      go_wp2_with fail
      go_ret
      exact ⟨_, rfl, Q.out.2, Q.out.1⟩

end Go.Proofs.Ytegmhbflgceecaa
